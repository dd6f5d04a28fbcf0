/- parse.mayRange, and mayNode of references and ranges, walked; parse.mayRef of a reference whose sheet is long; parse.count, shallow, walked; parse.mayAll, walke. -/
import Derived.Test.YtgheopdadfnilaaGreatDoorKr21
import Derived.Test.YtgheopdadfnilaaGreatDoorKr04
import Derived.Test.YtgheopdadfnilaaGreatDoorKr07
import Derived.Test.YtgheopdadfnilaaGreatDoorKr03
set_option linter.unusedVariables false
set_option linter.unusedSimpArgs false
set_option maxRecDepth 100000
namespace Go.Proofs.YtgheopdadfnilaaGreatDoor
open Go.RowKit
def MRf (W : World) (x : Rf) : Prop := ∀ W', Q W W' → Calls Tryz.prog 123 #[.agg #[.string ⟨x.1.toArray⟩, .int .i64 x.2.1, .int .i64 x.2.2.1, .bool x.2.2.2.1, .bool x.2.2.2.2]] W' fun e w' => e = .returned (.bool (mayR x.1 x.2.1 x.2.2.1)) ∧ Q W' w'
def rngB : List Rf → Bool
  | [x, y] => mayR x.1 x.2.1 x.2.2.1 && (mayR y.1 y.2.1 y.2.2.1 && decide (y.1 = []))
  | _ => false
theorem rng_no {rs : List Rf} (h : rs.length ≠ 2) : rngB rs = false := by
  match rs with
  | [] => rfl
  | [_] => rfl
  | [_, _] => exact absurd rfl h
  | _ :: _ :: _ :: _ => rfl
set_option maxHeartbeats 4000000 in
theorem mrange_any (rs : List Rf) (v : Value) (W : World) (h : Sl rf 5 W v rs) (HM : Hid (∀ x ∈ rs, MRf W x)) : Calls Tryz.prog 124 #[v] W fun e W' => e = .returned (.bool (rngB rs)) ∧ Q W W' := by
  by_cases hl : rs.length = 2
  · obtain ⟨b, off, cap, hv, _, _, hc⟩ := h.rc (by omega)
    match rs, hl with
    | [x, y], _ =>
      obtain ⟨xs, xr, xc, xa, xb⟩ := x
      obtain ⟨ys, yr, yc, ya, yb⟩ := y
      have HX := hid (HM.out _ (by simp : (xs, xr, xc, xa, xb) ∈ [(xs, xr, xc, xa, xb), (ys, yr, yc, ya, yb)]))
      have HY := hid (HM.out _ (by simp : (ys, yr, yc, ya, yb) ∈ [(xs, xr, xc, xa, xb), (ys, yr, yc, ya, yb)]))
      have H0 := hc 0 (by simp)
      have H1 := hc 1 (by simp)
      simp only [List.getElem_cons_zero, List.getElem_cons_succ, Nat.zero_mul, Nat.add_zero, Nat.one_mul] at H0 H1
      simp only [List.length_cons, List.length_nil, Nat.zero_add] at hv
      subst hv
      obtain ⟨x0, x1, x2, x3, x4⟩ := H0
      obtain ⟨y0, y1, y2, y3, y4⟩ := H1
      unfold MRf at HX HY
      simp only at HX HY
      obtain ⟨SX, hSX⟩ : ∃ S : ByteArray, S = ⟨xs.toArray⟩ := ⟨_, rfl⟩
      obtain ⟨SY, hSY, lSY⟩ : ∃ S : ByteArray, S = ⟨ys.toArray⟩ ∧ S.data.toList = ys := ⟨_, rfl, rfl⟩
      rw [← hSX] at HX x0
      rw [← hSY] at HY y0
      have LS := hid lSY
      have HD := hid (show rngB [(xs, xr, xc, xa, xb), (ys, yr, yc, ya, yb)] = (mayR xs xr xc && (mayR ys yr yc && decide (ys = []))) from rfl)
      generalize rngB [(xs, xr, xc, xa, xb), (ys, yr, yc, ya, yb)] = rr at HD ⊢
      have HYc := hid (fun (W1 : World) (q : Q W W1) => (q.cell (World.block_lt_of_cell? W ⟨b, off + 5, none⟩ y0)).trans y0)
      have HYd := hid (fun (W1 : World) (q : Q W W1) => (q.cell (World.block_lt_of_cell? W ⟨b, off + 5 + 1, none⟩ y1)).trans y1)
      have HYe := hid (fun (W1 : World) (q : Q W W1) => (q.cell (World.block_lt_of_cell? W ⟨b, off + 5 + 2, none⟩ y2)).trans y2)
      have HYf := hid (fun (W1 : World) (q : Q W W1) => (q.cell (World.block_lt_of_cell? W ⟨b, off + 5 + 3, none⟩ y3)).trans y3)
      have HYg := hid (fun (W1 : World) (q : Q W W1) => (q.cell (World.block_lt_of_cell? W ⟨b, off + 5 + 4, none⟩ y4)).trans y4)
      clear HM hc hSX hSY lSY h
      cases hx : mayR xs xr xc
      · have HR : Hid (rr = false) := by show _ = _; rw [HD.out, hx]; rfl
        rw [hx] at HX
        go_enter Tryz.func124, Tryz.ntmps124
        go_wp2_with (go_at_call 123; refine (HX.out _ (Q.refl _)).mono ?_; rintro e w1 ⟨rfl, q1⟩; have Q1 := hid q1; clear q1)
        go_ret
        exact ⟨ret_bool HR.out.symm, Q1.out⟩
      · rw [hx] at HX
        cases hy : mayR ys yr yc
        · have HR : Hid (rr = false) := by show _ = _; rw [HD.out, hx, hy]; rfl
          rw [hy] at HY
          go_enter Tryz.func124, Tryz.ntmps124
          go_wp2_with (first | (go_at_call_of 123 SX; refine (HX.out _ (Q.refl _)).mono ?_; rintro e w1 ⟨rfl, q1⟩; have Q1 := hid q1; clear q1; have n0 := HYc.out w1 Q1.out; have n1 := HYd.out w1 Q1.out; have n2 := HYe.out w1 Q1.out; have n3 := HYf.out w1 Q1.out; have n4 := HYg.out w1 Q1.out) | (go_at_call_of 123 SY; refine (HY.out _ Q1.out).mono ?_; rintro e w2 ⟨rfl, q2⟩; have Q2 := hid (Q1.out.trans q2); clear q2; have m0 := HYc.out w2 Q2.out))
          go_ret
          exact ⟨ret_bool HR.out.symm, Q2.out⟩
        · rw [hy] at HY
          by_cases hz : ys = []
          · have HR : Hid (rr = true) := by show _ = _; rw [HD.out, hx, hy, decide_eq_true hz]; rfl
            have fz : (SY.toList == []) = true := by rw [toL, LS.out, hz]; rfl
            clear hz
            go_enter Tryz.func124, Tryz.ntmps124
            go_wp2_with (first | (go_at_call_of 123 SX; refine (HX.out _ (Q.refl _)).mono ?_; rintro e w1 ⟨rfl, q1⟩; have Q1 := hid q1; clear q1; have n0 := HYc.out w1 Q1.out; have n1 := HYd.out w1 Q1.out; have n2 := HYe.out w1 Q1.out; have n3 := HYf.out w1 Q1.out; have n4 := HYg.out w1 Q1.out) | (go_at_call_of 123 SY; refine (HY.out _ Q1.out).mono ?_; rintro e w2 ⟨rfl, q2⟩; have Q2 := hid (Q1.out.trans q2); clear q2; have m0 := HYc.out w2 Q2.out))
            go_ret
            exact ⟨ret_bool HR.out.symm, Q2.out⟩
          · have HR : Hid (rr = false) := by show _ = _; rw [HD.out, hx, hy, decide_eq_false hz]; rfl
            have fz : (SY.toList == []) = false := by rw [toL, LS.out, beq_eq_false_iff_ne]; exact hz
            clear hz
            go_enter Tryz.func124, Tryz.ntmps124
            go_wp2_with (first | (go_at_call_of 123 SX; refine (HX.out _ (Q.refl _)).mono ?_; rintro e w1 ⟨rfl, q1⟩; have Q1 := hid q1; clear q1; have n0 := HYc.out w1 Q1.out; have n1 := HYd.out w1 Q1.out; have n2 := HYe.out w1 Q1.out; have n3 := HYf.out w1 Q1.out; have n4 := HYg.out w1 Q1.out) | (go_at_call_of 123 SY; refine (HY.out _ Q1.out).mono ?_; rintro e w2 ⟨rfl, q2⟩; have Q2 := hid (Q1.out.trans q2); clear q2; have m0 := HYc.out w2 Q2.out))
            go_ret
            exact ⟨ret_bool HR.out.symm, Q2.out⟩
  · rw [rng_no hl]
    obtain ⟨ao, cap, rfl, _⟩ := h.len
    have f2 : ((rs.length : Int) == 2) = false := by rw [beq_eq_false_iff_ne]; omega
    clear h hl HM
    go_enter Tryz.func124, Tryz.ntmps124
    go_wp2_with fail
    go_ret
    exact ⟨rfl, Q.refl _⟩
def oneB : List Rf → Bool
  | [x] => mayR x.1 x.2.1 x.2.2.1
  | _ => false
theorem one_no {rs : List Rf} (h : rs.length ≠ 1) : oneB rs = false := by
  match rs with
  | [] => rfl
  | [_] => exact absurd rfl h
  | _ :: _ :: _ => rfl
set_option maxHeartbeats 4000000 in
theorem mn_5 (n : Int) (t : ByteArray) (b : Bool) (e : Int) (a1 : Option Addr) (l1 c1 : Nat) (a2 : Option Addr) (l2 c2 : Nat) (W : World) (rs : List Rf) (hr : Sl rf 5 W (.slice a1 l1 c1) rs) (HM : Hid (∀ x ∈ rs, MRf W x)) : Calls Tryz.prog 93 #[.agg #[.int .i64 5, .int .i64 n, .string t, .bool b, .int .i64 e, .slice a1 l1 c1, .slice a2 l2 c2]] W fun e' W' => e' = .returned (.bool ((oneB rs) && bareB n t.data.toList b e 0 l2)) ∧ Q W W' := by
  obtain ⟨rb, hrb⟩ : ∃ rb, bareB n t.data.toList b e 0 l2 = rb := ⟨_, rfl⟩
  have HB := hid (fun W' => bare_b 5 n t b e none 0 0 a2 l2 c2 rb hrb W')
  obtain ⟨t1, t2⟩ := two_new W (.int .i64 5) (.int .i64 n) (.string t) (.bool b) (.int .i64 e) (.slice a1 l1 c1) (.slice a2 l2 c2)
  have T1 := hid t1
  have T2 := hid t2
  have HQ : Hid (Q W (((W.alloc (.cells #[.int .i64 5, .int .i64 n, .string t, .bool b, .int .i64 e, .slice a1 l1 c1, .slice a2 l2 c2] 26)).alloc (.cells #[.int .i64 5, .int .i64 n, .string t, .bool b, .int .i64 e, .slice a1 l1 c1, .slice a2 l2 c2] 26)).drew)) := hid (((Q.refl _).alloc _).alloc _).drew
  have HRB := hid hrb
  clear hrb t1 t2
  have hll : rs.length = l1 := by
    obtain ⟨_, _, hv, _⟩ := hr
    simp only [Value.slice.injEq] at hv
    exact hv.2.1.symm
  by_cases h : l1 = 1
  · obtain ⟨bb, off, cap, hv, _, _, hc⟩ := hr.rc (by omega)
    rw [h] at hll
    match rs, hll with
    | [x], _ =>
      obtain ⟨xs, xr, xc, xa, xb⟩ := x
      have HX := hid (HM.out _ (by simp : (xs, xr, xc, xa, xb) ∈ [(xs, xr, xc, xa, xb)]))
      have H0 := hc 0 (by simp)
      simp only [List.getElem_cons_zero, Nat.zero_mul, Nat.add_zero] at H0
      simp only [List.length_cons, List.length_nil, Nat.zero_add, Value.slice.injEq] at hv
      obtain ⟨rfl, rfl, rfl⟩ := hv
      unfold MRf at HX
      simp only at HX
      have H0' := hid (H0.on HQ.out)
      obtain ⟨SX, hSX⟩ : ∃ S : ByteArray, S = ⟨xs.toArray⟩ := ⟨_, rfl⟩
      rw [← hSX] at HX H0'
      clear HM hc hSX H0 hr
      have hone : oneB [(xs, xr, xc, xa, xb)] = mayR xs xr xc := rfl
      rw [hone]
      clear hone h
      cases hx : mayR xs xr xc
      · rw [hx] at HX
        have HR : Hid (((false) && bareB n t.data.toList b e 0 l2) = false) := by
          show _ = _
          rw [show (false) = false from rfl]
          exact Bool.false_and _
        generalize ((false) && bareB n t.data.toList b e 0 l2) = rr at HR ⊢
        go_enter Tryz.func93, Tryz.ntmps93
        go_wp2_with fail
        go_region
        obtain ⟨w1, hw1⟩ : ∃ w1, w1 = (((W.alloc (.cells #[.int .i64 5, .int .i64 n, .string t, .bool b, .int .i64 e, .slice (some ⟨bb, off, none⟩) 1 c1, .slice a2 l2 c2] 26)).alloc (.cells #[.int .i64 5, .int .i64 n, .string t, .bool b, .int .i64 e, .slice (some ⟨bb, off, none⟩) 1 c1, .slice a2 l2 c2] 26)).drew) := ⟨_, rfl⟩
        rw [← hw1] at T1 T2 HQ H0'
        obtain ⟨r0, r1, r2, r3, r4⟩ := H0'.out
        rw [← hw1]
        clear hw1
        obtain ⟨g0, g1, g2, g3, g4, g5, g6, _⟩ := T1.out
        obtain ⟨d0, d1, d2, d3, d4, d5, d6, yf⟩ := T2.out
        have y0 := yf 0
        have y1 := yf 1
        have y2 := yf 2
        have y3 := yf 3
        have y4 := yf 4
        have y5 := yf 5
        have y6 := yf 6
        clear yf
        go_wp2_with (first | (go_at_call 123; refine (HX.out _ HQ.out).mono ?_; rintro e8 w2 ⟨rfl, q2⟩; have QC := hid (HQ.out.trans q2); have T3 := hid (T2.out.on (Qx.of (p := W.heap.size + 5) q2) (by omega)); clear q2; have v0 := T3.out.g0; have v1 := T3.out.g1; have v2 := T3.out.g2; have v3 := T3.out.g3; have v4 := T3.out.g4; have v5 := T3.out.g5; have v6 := T3.out.g6; have x0 := T3.out.f 0; have x1 := T3.out.f 1; have x2 := T3.out.f 2; have x3 := T3.out.f 3; have x4 := T3.out.f 4; have x5 := T3.out.f 5; have x6 := T3.out.f 6))
        go_ret
        exact ⟨ret_bool HR.out.symm, (by repeat (first | with_reducible exact QC.out | with_reducible exact HQ.out | with_reducible refine Q.drewN ?_ _ | with_reducible refine Q.drew ?_ | with_reducible refine Q.alloc ?_ _ | with_reducible refine Q.setCell ?_ (by simp) _))⟩
      · rw [hx] at HX
        have HR : Hid (((true) && bareB n t.data.toList b e 0 l2) = rb) := by
          show _ = _
          rw [show (true) = true from rfl]
          exact (Bool.true_and _).trans HRB.out
        generalize ((true) && bareB n t.data.toList b e 0 l2) = rr at HR ⊢
        go_enter Tryz.func93, Tryz.ntmps93
        go_wp2_with fail
        go_region
        obtain ⟨w1, hw1⟩ : ∃ w1, w1 = (((W.alloc (.cells #[.int .i64 5, .int .i64 n, .string t, .bool b, .int .i64 e, .slice (some ⟨bb, off, none⟩) 1 c1, .slice a2 l2 c2] 26)).alloc (.cells #[.int .i64 5, .int .i64 n, .string t, .bool b, .int .i64 e, .slice (some ⟨bb, off, none⟩) 1 c1, .slice a2 l2 c2] 26)).drew) := ⟨_, rfl⟩
        rw [← hw1] at T1 T2 HQ H0'
        obtain ⟨r0, r1, r2, r3, r4⟩ := H0'.out
        rw [← hw1]
        clear hw1
        obtain ⟨g0, g1, g2, g3, g4, g5, g6, _⟩ := T1.out
        obtain ⟨d0, d1, d2, d3, d4, d5, d6, yf⟩ := T2.out
        have y0 := yf 0
        have y1 := yf 1
        have y2 := yf 2
        have y3 := yf 3
        have y4 := yf 4
        have y5 := yf 5
        have y6 := yf 6
        clear yf
        go_wp2_with (first | (go_at_call 123; refine (HX.out _ HQ.out).mono ?_; rintro e8 w2 ⟨rfl, q2⟩; have QC := hid (HQ.out.trans q2); have T3 := hid (T2.out.on (Qx.of (p := W.heap.size + 5) q2) (by omega)); clear q2; have v0 := T3.out.g0; have v1 := T3.out.g1; have v2 := T3.out.g2; have v3 := T3.out.g3; have v4 := T3.out.g4; have v5 := T3.out.g5; have v6 := T3.out.g6; have x0 := T3.out.f 0; have x1 := T3.out.f 1; have x2 := T3.out.f 2; have x3 := T3.out.f 3; have x4 := T3.out.f 4; have x5 := T3.out.f 5; have x6 := T3.out.f 6) | (go_at_call 127; refine (HB.out _).mono ?_; rintro e9 w9 ⟨rfl, q9⟩; have Q9 := hid q9; clear q9))
        go_ret
        exact ⟨ret_bool HR.out.symm, Q.trans (by repeat (first | with_reducible exact QC.out | with_reducible exact HQ.out | with_reducible refine Q.drewN ?_ _ | with_reducible refine Q.drew ?_ | with_reducible refine Q.alloc ?_ _ | with_reducible refine Q.setCell ?_ (by simp) _)) Q9.out⟩
  · rw [one_no (by omega)]
    clear HM hr
    have f5 : ((l1 : Int) == 1) = false := by rw [beq_eq_false_iff_ne]; omega
    have HR : Hid (((false) && bareB n t.data.toList b e 0 l2) = false) := by
      show _ = _
      rw [show (false) = false from rfl]
      exact Bool.false_and _
    generalize ((false) && bareB n t.data.toList b e 0 l2) = rr at HR ⊢
    go_enter Tryz.func93, Tryz.ntmps93
    go_wp2_with fail
    go_region
    obtain ⟨w1, hw1⟩ : ∃ w1, w1 = (((W.alloc (.cells #[.int .i64 5, .int .i64 n, .string t, .bool b, .int .i64 e, .slice a1 l1 c1, .slice a2 l2 c2] 26)).alloc (.cells #[.int .i64 5, .int .i64 n, .string t, .bool b, .int .i64 e, .slice a1 l1 c1, .slice a2 l2 c2] 26)).drew) := ⟨_, rfl⟩
    rw [← hw1] at T1 T2 HQ
    rw [← hw1]
    clear hw1
    obtain ⟨g0, g1, g2, g3, g4, g5, g6, _⟩ := T1.out
    obtain ⟨d0, d1, d2, d3, d4, d5, d6, yf⟩ := T2.out
    have y0 := yf 0
    have y1 := yf 1
    have y2 := yf 2
    have y3 := yf 3
    have y4 := yf 4
    have y5 := yf 5
    have y6 := yf 6
    clear yf
    go_wp2_with fail
    go_ret
    exact ⟨ret_bool HR.out.symm, (by repeat (first | with_reducible exact QC.out | with_reducible exact HQ.out | with_reducible refine Q.drewN ?_ _ | with_reducible refine Q.drew ?_ | with_reducible refine Q.alloc ?_ _ | with_reducible refine Q.setCell ?_ (by simp) _))⟩
set_option maxHeartbeats 4000000 in
theorem mn_6 (n : Int) (t : ByteArray) (b : Bool) (e : Int) (a1 : Option Addr) (l1 c1 : Nat) (a2 : Option Addr) (l2 c2 : Nat) (W : World) (rs : List Rf) (hr : Sl rf 5 W (.slice a1 l1 c1) rs) (HM : Hid (∀ x ∈ rs, MRf W x)) : Calls Tryz.prog 93 #[.agg #[.int .i64 6, .int .i64 n, .string t, .bool b, .int .i64 e, .slice a1 l1 c1, .slice a2 l2 c2]] W fun e' W' => e' = .returned (.bool ((rngB rs) && bareB n t.data.toList b e 0 l2)) ∧ Q W W' := by
  obtain ⟨rb, hrb⟩ : ∃ rb, bareB n t.data.toList b e 0 l2 = rb := ⟨_, rfl⟩
  have HB := hid (fun W' => bare_b 6 n t b e none 0 0 a2 l2 c2 rb hrb W')
  obtain ⟨t1, t2⟩ := two_new W (.int .i64 6) (.int .i64 n) (.string t) (.bool b) (.int .i64 e) (.slice a1 l1 c1) (.slice a2 l2 c2)
  have T1 := hid t1
  have T2 := hid t2
  have HQ : Hid (Q W (((W.alloc (.cells #[.int .i64 6, .int .i64 n, .string t, .bool b, .int .i64 e, .slice a1 l1 c1, .slice a2 l2 c2] 26)).alloc (.cells #[.int .i64 6, .int .i64 n, .string t, .bool b, .int .i64 e, .slice a1 l1 c1, .slice a2 l2 c2] 26)).drew)) := hid (((Q.refl _).alloc _).alloc _).drew
  have HRB := hid hrb
  clear hrb t1 t2
  have HN := hid (fun W' (q : Q W W') => mrange_any rs (.slice a1 l1 c1) W' (hr.on q) (hid (fun x hx W2 q2 => HM.out x hx W2 (q.trans q2))))
  clear hr HM
  cases h : rngB rs
  · rw [h] at HN
    have HR : Hid (((false) && bareB n t.data.toList b e 0 l2) = false) := by
      show _ = _
      rw [show (false) = false from rfl]
      exact Bool.false_and _
    generalize ((false) && bareB n t.data.toList b e 0 l2) = rr at HR ⊢
    go_enter Tryz.func93, Tryz.ntmps93
    go_wp2_with fail
    go_region
    obtain ⟨w1, hw1⟩ : ∃ w1, w1 = (((W.alloc (.cells #[.int .i64 6, .int .i64 n, .string t, .bool b, .int .i64 e, .slice a1 l1 c1, .slice a2 l2 c2] 26)).alloc (.cells #[.int .i64 6, .int .i64 n, .string t, .bool b, .int .i64 e, .slice a1 l1 c1, .slice a2 l2 c2] 26)).drew) := ⟨_, rfl⟩
    rw [← hw1] at T1 T2 HQ
    rw [← hw1]
    clear hw1
    obtain ⟨g0, g1, g2, g3, g4, g5, g6, _⟩ := T1.out
    obtain ⟨d0, d1, d2, d3, d4, d5, d6, yf⟩ := T2.out
    have y0 := yf 0
    have y1 := yf 1
    have y2 := yf 2
    have y3 := yf 3
    have y4 := yf 4
    have y5 := yf 5
    have y6 := yf 6
    clear yf
    go_wp2_with (first | (go_at_call 124; refine (HN.out _ HQ.out).mono ?_; rintro e8 w2 ⟨rfl, q2⟩; have QC := hid (HQ.out.trans q2); have T3 := hid (T2.out.on (Qx.of (p := W.heap.size + 5) q2) (by omega)); clear q2; have v0 := T3.out.g0; have v1 := T3.out.g1; have v2 := T3.out.g2; have v3 := T3.out.g3; have v4 := T3.out.g4; have v5 := T3.out.g5; have v6 := T3.out.g6; have x0 := T3.out.f 0; have x1 := T3.out.f 1; have x2 := T3.out.f 2; have x3 := T3.out.f 3; have x4 := T3.out.f 4; have x5 := T3.out.f 5; have x6 := T3.out.f 6))
    go_ret
    exact ⟨ret_bool HR.out.symm, (by repeat (first | with_reducible exact QC.out | with_reducible exact HQ.out | with_reducible refine Q.drewN ?_ _ | with_reducible refine Q.drew ?_ | with_reducible refine Q.alloc ?_ _ | with_reducible refine Q.setCell ?_ (by simp) _))⟩
  · rw [h] at HN
    have HR : Hid (((true) && bareB n t.data.toList b e 0 l2) = rb) := by
      show _ = _
      rw [show (true) = true from rfl]
      exact (Bool.true_and _).trans HRB.out
    generalize ((true) && bareB n t.data.toList b e 0 l2) = rr at HR ⊢
    go_enter Tryz.func93, Tryz.ntmps93
    go_wp2_with fail
    go_region
    obtain ⟨w1, hw1⟩ : ∃ w1, w1 = (((W.alloc (.cells #[.int .i64 6, .int .i64 n, .string t, .bool b, .int .i64 e, .slice a1 l1 c1, .slice a2 l2 c2] 26)).alloc (.cells #[.int .i64 6, .int .i64 n, .string t, .bool b, .int .i64 e, .slice a1 l1 c1, .slice a2 l2 c2] 26)).drew) := ⟨_, rfl⟩
    rw [← hw1] at T1 T2 HQ
    rw [← hw1]
    clear hw1
    obtain ⟨g0, g1, g2, g3, g4, g5, g6, _⟩ := T1.out
    obtain ⟨d0, d1, d2, d3, d4, d5, d6, yf⟩ := T2.out
    have y0 := yf 0
    have y1 := yf 1
    have y2 := yf 2
    have y3 := yf 3
    have y4 := yf 4
    have y5 := yf 5
    have y6 := yf 6
    clear yf
    go_wp2_with (first | (go_at_call 124; refine (HN.out _ HQ.out).mono ?_; rintro e8 w2 ⟨rfl, q2⟩; have QC := hid (HQ.out.trans q2); have T3 := hid (T2.out.on (Qx.of (p := W.heap.size + 5) q2) (by omega)); clear q2; have v0 := T3.out.g0; have v1 := T3.out.g1; have v2 := T3.out.g2; have v3 := T3.out.g3; have v4 := T3.out.g4; have v5 := T3.out.g5; have v6 := T3.out.g6; have x0 := T3.out.f 0; have x1 := T3.out.f 1; have x2 := T3.out.f 2; have x3 := T3.out.f 3; have x4 := T3.out.f 4; have x5 := T3.out.f 5; have x6 := T3.out.f 6) | (go_at_call 127; refine (HB.out _).mono ?_; rintro e9 w9 ⟨rfl, q9⟩; have Q9 := hid q9; clear q9))
    go_ret
    exact ⟨ret_bool HR.out.symm, Q.trans (by repeat (first | with_reducible exact QC.out | with_reducible exact HQ.out | with_reducible refine Q.drewN ?_ _ | with_reducible refine Q.drew ?_ | with_reducible refine Q.alloc ?_ _ | with_reducible refine Q.setCell ?_ (by simp) _)) Q9.out⟩
theorem idB_long (l : List UInt8) (h : 1000 < l.length) : idB l = false := by
  unfold idB
  apply decide_eq_false
  intro h0
  unfold ownK at h0
  split at h0
  · rename_i hp
    have ht : (Lib.trimPrefix l [99]).length + 1 = l.length := by
      unfold Lib.trimPrefix
      rw [if_pos hp, List.length_drop]
      simp
      omega
    generalize Lib.trimPrefix l [99] = m at *
    rcases cut_any 110 m with ⟨a, b, rfl, hn⟩ | hn
    · rw [cut_at 110 a b hn] at h0
      unfold ownP at h0
      simp only [List.length_append, List.length_cons] at ht
      split at h0
      · rename_i hc
        simp only [Bool.and_eq_true, true_and] at hc
        have h1 : ¬ 15 < a.length := fun g => by rw [numF_long a 15 g (by omega)] at hc; exact absurd hc.1 (by simp)
        have h2 : ¬ 15 < b.length := fun g => by rw [numF_long b 999999 g (by omega)] at hc; exact absurd hc.2 (by simp)
        omega
      · omega
    · rw [cut_free 110 m hn] at h0
      unfold ownP at h0
      simp at h0
  · omega
set_option maxHeartbeats 4000000 in
theorem pmayref_big (sh : ByteArray) (row col : Int) (ra ca : Bool) (w : World) (hw : Std w) (ht : ∀ W, Q w W → Lib.TabIs Tryz.prog W "internal/strconv.uint64pow10" .u64 Lib.pow10Tab) (hs : sh.size ≤ 2000000) :
    Calls Tryz.prog 123 #[rv sh row col ra ca] w fun e w' => e = .returned (.bool (mayR sh.data.toList row col)) ∧ Q w w' := by
  by_cases hz : sh.size ≤ 1000
  · exact pmayref_any sh row col ra ca w hw ht hz
  have hl : 1000 < sh.data.toList.length := by rw [len_data]; omega
  have hi := idB_long _ hl
  have he : sh.data.toList.isEmpty = false := by
    cases hh : sh.data.toList
    · rw [hh] at hl; simp at hl
    · rfl
  have hb : (sh.toList == []) = false := by
    rw [toL, beq_eq_false_iff_ne]
    intro hh
    rw [hh] at hl
    simp at hl
  have hm : mayR sh.data.toList row col = false := by
    unfold mayR
    rw [hi, he]
    rfl
  rw [hm]
  have HP := hid (fun W (q : Q w W) => print_no sh row col ra ca _ _ _ W (hid (fun V => mayline_any row V)) (hid (fun V => mayline_any col V)) (hid (fun V (q' : Q W V) => by have := id_any sh V ((hw.on q).on q') (by omega); rw [hi] at this; exact this)) (.inr (.inr ⟨hb, rfl⟩)))
  clear hw ht hi he hm hl hb hs hz
  go_enter Tryz.func123, Tryz.ntmps123
  go_wp2_with (go_at_call 60; refine (HP.out _ ((Q.refl _).alloc _)).mono ?_; rintro e w1 ⟨rfl, q1⟩; have Q1 : Hid (Q w w1) := hid (((Q.refl _).alloc _).trans q1); clear q1)
  go_ret
  exact ⟨rfl, Q1.out⟩
theorem Rd.shape {W : World} {x : Ex} {v : Value} (h : Rd W x v) : ∃ k n t b e a1 l1 c1 a2 l2 c2, v = .agg #[.int .i64 k, .int .i64 n, .string t, .bool b, .int .i64 e, .slice a1 l1 c1, .slice a2 l2 c2] := by
  obtain ⟨k, n, t, b, e, rs, ks, rv, kv, ao, cap, rfl, hp⟩ := h.prt
  obtain ⟨ar, cr, hr, _⟩ := hp.rl
  obtain rfl := hp.kl
  subst hr
  exact ⟨_, _, _, _, _, _, _, _, _, _, _, rfl⟩
theorem nodesL_take (ks : List Ex) (i : Nat) (h : i < ks.length) : nodes.nodesL (ks.take (i + 1)) = nodes.nodesL (ks.take i) + nodes ks[i] := by
  rw [List.take_succ_eq_append_getElem h, nodesL_snoc]
theorem nodesL_take_le (ks : List Ex) (i : Nat) : nodes.nodesL (ks.take i) ≤ nodes.nodesL ks := by
  induction ks generalizing i with
  | nil => simp
  | cons x xs ih =>
    cases i with
    | zero => simp [nodes.nodesL]
    | succ i => rw [List.take_succ_cons, nodes.nodesL, nodes.nodesL]; have := ih i; omega
def shl : Nat → Ex → Bool
  | 0, _ => false
  | m + 1, .mk _ _ _ _ _ _ ks => ks.all (shl m)
set_option maxHeartbeats 4000000 in
theorem pcount_any : ∀ (s : Nat) (x : Ex) (v : Value) (W : World) (M : Int) (m : Nat), SizeOf.sizeOf x ≤ s → M = (m : Int) → 1 ≤ m → m ≤ 201 → Rd W x v → Calls Tryz.prog 122 #[v, .int .i64 M] W fun e W' => e = .returned (.int .i64 (min (nodes x) m : Nat)) ∧ Q W W' := by
  intro s
  induction s with
  | zero =>
    intro x v W M m hs
    cases x with
    | mk k n t b e rs ks => simp at hs
  | succ s ih =>
    intro x v W M m hs hM h1 h201 hr
    obtain ⟨k, n, t, b, e, rs, ks, rv, kv, ao, cap, rfl, hp⟩ := hr.prt
    obtain ⟨ar, cr, hrv, _⟩ := hp.rl
    have HD : Hid (nodes x = 1 + nodes.nodesL ks) := hid (by rw [hp.ex, nodes])
    have IH := hid (fun (i : Nat) (h : i < ks.length) v W M m => ih ks[i] v W M m (by have := kid_size (k := k) (n := n) (t := t.data.toList) (b := b) (e := e) (rs := rs) i h; rw [← hp.ex] at this; omega))
    generalize nodes x = d at HD ⊢
    have HP := hid hp
    obtain rfl := hp.kl
    subst hrv
    have hroom : ks.length ≤ 9223372036854775807 := by have h1 := hp.le; have h2 := hp.mx; unfold maxLen at h2; omega
    clear hp hr ih hs
    subst hM
    go_enter Tryz.func122, Tryz.ntmps122
    go_wp2
    go_loopw [5, 11, 7] (fun y z _ W' => ∃ (i a : Nat), i ≤ ks.length ∧ y = .int .i64 (a : Int) ∧ z = .int .i64 (i : Int) ∧ a ≤ m ∧ Hid (Q W W') ∧ Hid (a = min (1 + nodes.nodesL (ks.take i)) m)) (fun _ z _ _ => ks.length - (intOf z).toNat)
    case atStart => exact ⟨0, 1, Nat.zero_le _, rfl, rfl, h1, hid ((Q.refl _).alloc _), by show _ = _; simp [nodes.nodesL]; omega⟩
    case round =>
      obtain ⟨i, a, hi, rfl, rfl, ha, hQ, hA⟩ := hrel
      by_cases hlt : i < ks.length
      · have hne : ks ≠ [] := by intro h; rw [h] at hlt; simp at hlt
        obtain ⟨b', off, rfl, hl⟩ := (HP.out.on hQ.out).kd hne
        obtain ⟨e0, e1, e2, e3, e4, e5, e6, hK⟩ := hl.kid i hlt
        obtain ⟨k', n', t', b1', e', a1', l1', c1', a2', l2', c2', hsh⟩ := hK.rd.shape
        simp only [Value.agg.injEq, Array.mk.injEq, List.cons.injEq, and_true] at hsh
        obtain ⟨rfl, rfl, rfl, rfl, rfl, rfl, rfl⟩ := hsh
        obtain ⟨h0, g1, h2, h3, h4, h5, h6, hrd⟩ := hK
        by_cases ham : a = m
        · have HA2 : Hid ((min d m : Nat) = m) := by
            show _ = _
            have := hA.out
            have := nodesL_take_le ks i
            have := HD.out
            omega
          have eam : ((a : Int) == (m : Int)) = true := by rw [ham]; exact beq_self_eq_true _
          have HAM := hid ham
          clear hl hrd hA ham
          go_wp2_with fail
          go_ret
          exact ⟨ret_int (by rw [HA2.out, HAM.out]), hQ.out.trans (by repeat (first | with_reducible exact Q.refl _ | with_reducible refine Q.alloc ?_ _))⟩
        · have eam : ((a : Int) == (m : Int)) = false := by rw [beq_eq_false_iff_ne]; omega
          have HRD := hid hrd
          have HI := hid (fun W1 (q : Q wr W1) => IH.out i hlt _ W1 ((m : Int) - (a : Int)) (m - a) (by omega) (by omega) (by omega) (Rd.on q _ _ HRD.out))
          have HA2 : Hid (a + min (nodes ks[i]) (m - a) = min (1 + nodes.nodesL (ks.take (i + 1))) m) := by
            show _ = _
            have := hA.out
            rw [nodesL_take ks i hlt]
            omega
          have hdl : min (nodes ks[i]) (m - a) ≤ m - a := Nat.min_le_right _ _
          generalize min (nodes ks[i]) (m - a) = dd at HI HA2 hdl
          clear hl hrd hA ham
          go_wp2_with (go_at_call 122; refine (HI.out _ (by repeat (first | with_reducible exact Q.refl _ | with_reducible refine Q.alloc ?_ _))).mono ?_; rintro e9 w9 ⟨rfl, q9⟩; have Q9 : Hid (Q wr w9) := hid (Q.trans (by repeat (first | with_reducible exact Q.refl _ | with_reducible refine Q.alloc ?_ _)) q9); clear q9)
          go_roundw
          case rel => exact ⟨i + 1, a + dd, by omega, by go_num, by go_num, by omega, hid (hQ.out.trans Q9.out), HA2⟩
          case measure => simp [intOf]; omega
      · have HA2 : Hid ((min d m : Nat) = a) := by
          show _ = _
          have := hA.out
          rw [List.take_of_length_le (by omega)] at this
          rw [HD.out, this]
        clear hA
        go_wp2_with fail
        go_ret
        exact ⟨ret_int (by rw [HA2.out]), hQ.out⟩
set_option maxHeartbeats 4000000 in
theorem shallow_any : ∀ (m : Nat) (x : Ex) (v : Value) (W : World) (M : Int), M = (m : Int) → m ≤ 100 → Rd W x v → Calls Tryz.prog 92 #[v, .int .i64 M] W fun e W' => e = .returned (.bool (shl m x)) ∧ Q W W' := by
  intro m
  induction m with
  | zero =>
    intro x v W M hM hm hr
    obtain ⟨k, n, t, b, e, a1, l1, c1, a2, l2, c2, rfl⟩ := hr.shape
    have HD : Hid (shl 0 x = false) := hid (by unfold shl; rfl)
    generalize shl 0 x = d at HD ⊢
    have e0 : (M == 0) = true := by rw [hM]; rfl
    clear hr hM
    go_enter Tryz.func92, Tryz.ntmps92
    go_wp2_with fail
    go_ret
    exact ⟨ret_bool HD.out.symm, (Q.refl _).alloc _⟩
  | succ m ih =>
    intro x v W M hM hm hr
    obtain ⟨k, n, t, b, e, rs, ks, rv, kv, ao, cap, rfl, hp⟩ := hr.prt
    obtain ⟨ar, cr, hrv, _⟩ := hp.rl
    have HD : Hid (shl (m + 1) x = ks.all (shl m)) := hid (by rw [hp.ex]; rfl)
    generalize shl (m + 1) x = d at HD ⊢
    have IH := hid (fun x v W h => ih x v W (M - 1) (by omega) (by omega) h)
    have e0 : (M == 0) = false := by rw [beq_eq_false_iff_ne]; omega
    have hM0 : 0 < M := by omega
    have hM1 : M ≤ 200 := by omega
    have HP := hid hp
    obtain rfl := hp.kl
    subst hrv
    have hroom : ks.length ≤ 9223372036854775807 := by have h1 := hp.le; have h2 := hp.mx; unfold maxLen at h2; omega
    clear hp hr ih hM
    go_enter Tryz.func92, Tryz.ntmps92
    go_wp2_with fail
    go_loopw [12, 6] (fun z _ W' => ∃ (i : Nat), i ≤ ks.length ∧ z = .int .i64 (i : Int) ∧ Hid (Q W W') ∧ Hid ((ks.take i).all (shl m) = true)) (fun z _ _ => ks.length - (intOf z).toNat)
    case atStart => exact ⟨0, Nat.zero_le _, rfl, hid ((Q.refl _).alloc _), rfl⟩
    case round =>
      obtain ⟨i, hi, rfl, hQ, hA⟩ := hrel
      by_cases hlt : i < ks.length
      · have hne : ks ≠ [] := by intro h; rw [h] at hlt; simp at hlt
        obtain ⟨b', off, rfl, hl⟩ := (HP.out.on hQ.out).kd hne
        obtain ⟨e0', e1, e2, e3, e4, e5, e6, hK⟩ := hl.kid i hlt
        obtain ⟨k', n', t', b1', e', a1', l1', c1', a2', l2', c2', hsh⟩ := hK.rd.shape
        simp only [Value.agg.injEq, Array.mk.injEq, List.cons.injEq, and_true] at hsh
        obtain ⟨rfl, rfl, rfl, rfl, rfl, rfl, rfl⟩ := hsh
        obtain ⟨h0, g1, h2, h3, h4, h5, h6, hrd⟩ := hK
        have HRD := hid hrd
        have HI := hid (fun W1 (q : Q wr W1) => IH.out ks[i] _ W1 (Rd.on q _ _ HRD.out))
        cases hb : shl m ks[i]
        · rw [hb] at HI
          have HA2 : Hid (d = false) := by
            show _ = _
            rw [HD.out, Bool.eq_false_iff]
            intro e
            rw [List.all_eq_true] at e
            have := e ks[i] (List.getElem_mem hlt)
            rw [hb] at this
            cases this
          clear hl hrd hA
          go_wp2_with (go_at_call 92; refine (HI.out _ (by repeat (first | with_reducible exact Q.refl _ | with_reducible refine Q.alloc ?_ _))).mono ?_; rintro e9 w9 ⟨rfl, q9⟩; have Q9 : Hid (Q wr w9) := hid (Q.trans (by repeat (first | with_reducible exact Q.refl _ | with_reducible refine Q.alloc ?_ _)) q9); clear q9)
          go_ret
          exact ⟨ret_bool HA2.out.symm, hQ.out.trans Q9.out⟩
        · rw [hb] at HI
          have HA2 : Hid ((ks.take (i + 1)).all (shl m) = true) := by
            show _ = _
            rw [List.take_succ_eq_append_getElem hlt, List.all_append, hA.out]
            simp [hb]
          clear hl hrd hA
          go_wp2_with (go_at_call 92; refine (HI.out _ (by repeat (first | with_reducible exact Q.refl _ | with_reducible refine Q.alloc ?_ _))).mono ?_; rintro e9 w9 ⟨rfl, q9⟩; have Q9 : Hid (Q wr w9) := hid (Q.trans (by repeat (first | with_reducible exact Q.refl _ | with_reducible refine Q.alloc ?_ _)) q9); clear q9)
          go_roundw
          case rel => exact ⟨i + 1, by omega, by go_num, hid (hQ.out.trans Q9.out), HA2⟩
          case measure => simp [intOf]; omega
      · have HA2 : Hid (d = true) := by
          show _ = _
          have := hA.out
          rw [List.take_of_length_le (by omega)] at this
          rw [HD.out, this]
        clear hA
        go_wp2_with fail
        go_ret
        exact ⟨ret_bool HA2.out.symm, hQ.out⟩
def mall (nd : Ex → Bool) : Ex → Bool
  | .mk k n t b e rs ks => nd (.mk k n t b e rs ks) && mallL nd ks
  where
  mallL (nd : Ex → Bool) : List Ex → Bool
  | [] => true
  | x :: xs => mall nd x && mallL nd xs
theorem mallL_all (nd : Ex → Bool) (ks : List Ex) : mall.mallL nd ks = ks.all (mall nd) := by
  induction ks with
  | nil => simp [mall.mallL]
  | cons x xs ih => rw [mall.mallL, ih, List.all_cons]
set_option maxHeartbeats 4000000 in
theorem mayall_any (nd : Ex → Bool) (G : World → Prop) (hG : ∀ W W', G W → Q W W' → G W') (P : Ex → Prop) (hP : ∀ k n t b e rs ks, P (.mk k n t b e rs ks) → ∀ y ∈ ks, P y) (HN : Hid (∀ x v W, G W → P x → Rd W x v → Calls Tryz.prog 93 #[v] W fun e W' => e = .returned (.bool (nd x)) ∧ Q W W')) :
    ∀ (s : Nat) (x : Ex) (v : Value) (W : World), SizeOf.sizeOf x ≤ s → G W → P x → Rd W x v → Calls Tryz.prog 57 #[v] W fun e W' => e = .returned (.bool (mall nd x)) ∧ Q W W' := by
  intro s
  induction s with
  | zero =>
    intro x v W hs
    cases x with
    | mk k n t b e rs ks => simp at hs
  | succ s ih =>
    intro x v W hs hg hpx hr
    have HNx := hid (fun W1 (q : Q W W1) => HN.out x v W1 (hG _ _ hg q) hpx (Rd.on q _ _ hr))
    obtain ⟨k, n, t, b, e, rs, ks, rv, kv, ao, cap, rfl, hp⟩ := hr.prt
    obtain ⟨ar, cr, hrv, _⟩ := hp.rl
    have HD : Hid (mall nd x = (nd x && ks.all (mall nd))) := hid (by rw [hp.ex, mall, mallL_all])
    have HPK : Hid (∀ i (h : i < ks.length), P ks[i]) := hid (fun i h => hP k n t.data.toList b e rs ks (hp.ex ▸ hpx) _ (List.getElem_mem h))
    have IH := hid (fun (i : Nat) (h : i < ks.length) v W => ih ks[i] v W (by have := kid_size (k := k) (n := n) (t := t.data.toList) (b := b) (e := e) (rs := rs) i h; rw [← hp.ex] at this; omega))
    generalize mall nd x = d at HD ⊢
    have HP := hid hp
    have HGW := hid hg
    obtain rfl := hp.kl
    subst hrv
    have hroom : ks.length ≤ 9223372036854775807 := by have h1 := hp.le; have h2 := hp.mx; unfold maxLen at h2; omega
    have HX := hid (Bx.start W (.int .i64 k) (.int .i64 n) (.string t) (.bool b) (.int .i64 e) (.slice ar rs.length cr) (.slice ao ks.length cap) 26)
    clear hp hr ih hs hg hpx
    cases hnd : nd x
    · rw [hnd] at HNx
      have HR : Hid (d = false) := by show _ = _; rw [HD.out, hnd]; rfl
      go_enter Tryz.func57, Tryz.ntmps57
      go_wp2_with (go_at_call 93; refine (HNx.out _ ((Q.refl _).alloc _)).mono ?_; rintro e9 w1 ⟨rfl, q1⟩; have Q1 : Hid (Q W w1) := hid (((Q.refl _).alloc _).trans q1); clear q1)
      go_ret
      exact ⟨ret_bool HR.out.symm, Q1.out⟩
    · rw [hnd] at HNx
      have HR : Hid (d = ks.all (mall nd)) := by show _ = _; rw [HD.out, hnd, Bool.true_and]
      go_enter Tryz.func57, Tryz.ntmps57
      go_wp2_with (go_at_call 93; refine (HNx.out _ ((Q.refl _).alloc _)).mono ?_; rintro e9 w1 ⟨rfl, q1⟩; have Q1 : Hid (Q W w1) := hid (((Q.refl _).alloc _).trans q1); have X1 := hid (HX.out.on q1); clear q1; have c6 := X1.out.g6)
      go_loopw [11, 4] (fun z _ W' => ∃ (i : Nat), i ≤ ks.length ∧ z = .int .i64 (i : Int) ∧ Hid (Q W W') ∧ Hid ((ks.take i).all (mall nd) = true)) (fun z _ _ => ks.length - (intOf z).toNat)
      case atStart => exact ⟨0, Nat.zero_le _, rfl, Q1, rfl⟩
      case round =>
        obtain ⟨i, hi, rfl, hQ, hA⟩ := hrel
        by_cases hlt : i < ks.length
        · have hne : ks ≠ [] := by intro h; rw [h] at hlt; simp at hlt
          obtain ⟨b', off, rfl, hl⟩ := (HP.out.on hQ.out).kd hne
          obtain ⟨e0', e1, e2, e3, e4, e5, e6, hK⟩ := hl.kid i hlt
          obtain ⟨k', n', t', b1', e', a1', l1', c1', a2', l2', c2', hsh⟩ := hK.rd.shape
          simp only [Value.agg.injEq, Array.mk.injEq, List.cons.injEq, and_true] at hsh
          obtain ⟨rfl, rfl, rfl, rfl, rfl, rfl, rfl⟩ := hsh
          obtain ⟨h0, g1, h2, h3, h4, h5, h6, hrd⟩ := hK
          have HRD := hid hrd
          have HI := hid (fun W1 (q : Q wr W1) => IH.out i hlt _ W1 (hG _ _ HGW.out (hQ.out.trans q)) (HPK.out i hlt) (Rd.on q _ _ HRD.out))
          cases hb : mall nd ks[i]
          · rw [hb] at HI
            have HA2 : Hid (d = false) := by
              show _ = _
              rw [HR.out, Bool.eq_false_iff]
              intro e
              rw [List.all_eq_true] at e
              have := e ks[i] (List.getElem_mem hlt)
              rw [hb] at this
              cases this
            clear hl hrd hA
            go_wp2_with (go_at_call 57; refine (HI.out _ (by repeat (first | with_reducible exact Q.refl _ | with_reducible refine Q.alloc ?_ _))).mono ?_; rintro e9 w9 ⟨rfl, q9⟩; have Q9 : Hid (Q wr w9) := hid (Q.trans (by repeat (first | with_reducible exact Q.refl _ | with_reducible refine Q.alloc ?_ _)) q9); clear q9)
            go_ret
            exact ⟨ret_bool HA2.out.symm, hQ.out.trans Q9.out⟩
          · rw [hb] at HI
            have HA2 : Hid ((ks.take (i + 1)).all (mall nd) = true) := by
              show _ = _
              rw [List.take_succ_eq_append_getElem hlt, List.all_append, hA.out]
              simp [hb]
            clear hl hrd hA
            go_wp2_with (go_at_call 57; refine (HI.out _ (by repeat (first | with_reducible exact Q.refl _ | with_reducible refine Q.alloc ?_ _))).mono ?_; rintro e9 w9 ⟨rfl, q9⟩; have Q9 : Hid (Q wr w9) := hid (Q.trans (by repeat (first | with_reducible exact Q.refl _ | with_reducible refine Q.alloc ?_ _)) q9); clear q9)
            go_roundw
            case rel => exact ⟨i + 1, by omega, by go_num, hid (hQ.out.trans Q9.out), HA2⟩
            case measure => simp [intOf]; omega
        · have HA2 : Hid (d = true) := by
            show _ = _
            have := hA.out
            rw [List.take_of_length_le (by omega)] at this
            rw [HR.out, this]
          clear hA
          go_wp2_with fail
          go_ret
          exact ⟨ret_bool HA2.out.symm, hQ.out⟩
set_option maxHeartbeats 4000000 in
theorem pCount_any (x : Ex) (v : Value) (W : World) (hr : Rd W x v) : Calls Tryz.prog 91 #[v] W fun e W' => e = .returned (.int .i64 (min (nodes x) 201 : Nat)) ∧ Q W W' := by
  have HC := hid (fun W1 (q : Q W W1) => pcount_any _ x v W1 201 201 (Nat.le_refl _) rfl (by omega) (by omega) (Rd.on q _ _ hr))
  obtain ⟨k, m, t, bb, er, a1, l1, c1, a2, l2, c2, rfl⟩ := hr.shape
  generalize min (nodes x) 201 = d at HC ⊢
  clear hr
  go_enter Tryz.func91, Tryz.ntmps91
  go_wp2_with (go_at_call 122; refine (HC.out _ ((Q.refl _).alloc _)).mono ?_; rintro e w1 ⟨rfl, q1⟩; have Q1 : Hid (Q W w1) := hid (((Q.refl _).alloc _).trans q1); clear q1)
  go_ret
  exact ⟨rfl, Q1.out⟩
def fitB (x : Ex) : Bool := decide (nodes x ≤ 200) && shl 50 x
set_option maxHeartbeats 4000000 in
theorem fits_any (x : Ex) (v : Value) (W : World) (hr : Rd W x v) : Calls Tryz.prog 56 #[v] W fun e W' => e = .returned (.bool (fitB x)) ∧ Q W W' := by
  have HC := hid (fun W1 (q : Q W W1) => pCount_any x v W1 (Rd.on q _ _ hr))
  have HS := hid (fun W1 (q : Q W W1) => shallow_any 50 x v W1 50 rfl (by omega) (Rd.on q _ _ hr))
  obtain ⟨k, m, t, bb, er, a1, l1, c1, a2, l2, c2, rfl⟩ := hr.shape
  clear hr
  by_cases hn : nodes x ≤ 200
  · have HF : Hid (fitB x = shl 50 x) := by show _ = _; unfold fitB; rw [decide_eq_true hn, Bool.true_and]
    have c200 : ((min (nodes x) 201 : Nat) : Int) ≤ 200 := by omega
    generalize ((min (nodes x) 201 : Nat) : Int) = d at HC c200
    generalize fitB x = r at HF ⊢
    generalize shl 50 x = sh at HS HF
    go_enter Tryz.func56, Tryz.ntmps56
    go_wp2_with (first | (go_at_call 91; refine (HC.out _ ((Q.refl _).alloc _)).mono ?_; rintro e w1 ⟨rfl, q1⟩; have Q1 : Hid (Q W w1) := hid (((Q.refl _).alloc _).trans q1); have X1 := hid ((tb_new W (.int .i64 k) (.int .i64 m) (.string t) (.bool bb) (.int .i64 er) (.slice a1 l1 c1) (.slice a2 l2 c2) 26).on (p := W.heap.size + 1) (Qx.of q1) (by omega)); clear q1; have n0 := X1.out.g0; have n1 := X1.out.g1; have n2 := X1.out.g2; have n3 := X1.out.g3; have n4 := X1.out.g4; have n5 := X1.out.g5; have n6 := X1.out.g6) | (go_at_call 92; refine (HS.out _ Q1.out).mono ?_; rintro e w2 ⟨rfl, q2⟩; have Q2 := hid q2; clear q2))
    go_ret
    exact ⟨ret_bool HF.out.symm, Q1.out.trans Q2.out⟩
  · have HF : Hid (fitB x = false) := by show _ = _; unfold fitB; rw [decide_eq_false hn, Bool.false_and]
    have c200 : ¬ ((min (nodes x) 201 : Nat) : Int) ≤ 200 := by omega
    generalize ((min (nodes x) 201 : Nat) : Int) = d at HC c200
    generalize fitB x = r at HF ⊢
    go_enter Tryz.func56, Tryz.ntmps56
    go_wp2_with (go_at_call 91; refine (HC.out _ ((Q.refl _).alloc _)).mono ?_; rintro e w1 ⟨rfl, q1⟩; have Q1 : Hid (Q W w1) := hid (((Q.refl _).alloc _).trans q1); clear q1)
    go_ret
    exact ⟨ret_bool HF.out.symm, Q1.out⟩
theorem dp_shl : ∀ (m : Nat) (x : Ex), decide (dp (m + 1) x ≤ m) = shl m x
  | 0, .mk _ _ _ _ _ _ ks => by
    unfold dp shl
    rw [decide_eq_false]
    omega
  | m + 1, .mk k n t b e rs ks => by
    unfold shl
    rw [show dp (m + 1 + 1) (.mk k n t b e rs ks) = mxN (ks.map (dp (m + 1))) + 1 from rfl]
    rw [Bool.eq_iff_iff]
    simp only [decide_eq_true_eq, List.all_eq_true]
    have key : ∀ (l : List Nat) (a : Nat), (l.foldl max a ≤ m ↔ a ≤ m ∧ ∀ y ∈ l, y ≤ m) := by
      intro l
      induction l with
      | nil => intro a; simp
      | cons z zs ih => intro a; rw [List.foldl_cons, ih]; simp [Nat.max_le]; constructor
                        · rintro ⟨⟨h1, h2⟩, h3⟩; exact ⟨h1, h2, h3⟩
                        · rintro ⟨h1, h2, h3⟩; exact ⟨⟨h1, h2⟩, h3⟩
    constructor
    · intro h x hx
      have h' : mxN (ks.map (dp (m + 1))) ≤ m := by omega
      unfold mxN at h'
      have := ((key _ _).1 h').2 (dp (m + 1) x) (List.mem_map.2 ⟨x, hx, rfl⟩)
      rw [← dp_shl m x]
      exact decide_eq_true this
    · intro h
      have : mxN (ks.map (dp (m + 1))) ≤ m := by
        unfold mxN
        refine (key _ _).2 ⟨Nat.zero_le _, fun y hy => ?_⟩
        obtain ⟨x, hx, rfl⟩ := List.mem_map.1 hy
        have := h x hx
        rw [← dp_shl m x] at this
        exact of_decide_eq_true this
      omega
def mayN : Ex → Bool
  | .mk k n t b e rs ks =>
    if k = 1 then decide (0 ≤ n) && bareB 0 t b e rs.length ks.length
    else if k = 2 then V.mayB 2 0 t false 0 && bareB n [] b e rs.length ks.length
    else if k = 3 then true && bareB n t false e rs.length ks.length
    else if k = 4 then decide (enL e ≠ []) && bareB n t b 0 rs.length ks.length
    else if k = 5 then oneB rs && bareB n t b e 0 ks.length
    else if k = 6 then rngB rs && bareB n t b e 0 ks.length
    else if k = 7 then decide (ks.length = 1) && bareB n t b e rs.length 0
    else if k = 8 then (decide (1 ≤ lvl t) && decide (ks.length = 2)) && bareB n [] b e rs.length 0
    else if k = 9 then (namF t && decide (ks.length ≤ 30)) && bareB n [] b e rs.length 0
    else false
def Sm : Ex → Prop
  | .mk _ _ t _ _ rs ks => t.length ≤ 1000000 ∧ (∀ r ∈ rs, r.1.length ≤ 2000000) ∧ SmL ks
  where
  SmL : List Ex → Prop
  | [] => True
  | x :: xs => Sm x ∧ SmL xs
theorem sm_kid : ∀ {ks : List Ex}, Sm.SmL ks → ∀ y ∈ ks, Sm y
  | [], _, y, hy => absurd hy (by simp)
  | x :: xs, h, y, hy => by
    rw [Sm.SmL] at h
    simp at hy
    rcases hy with rfl | hy
    · exact h.1
    · exact sm_kid h.2 y hy
theorem sm_kids (k n : Int) (t : List UInt8) (b : Bool) (e : Int) (rs : List Rf) (ks : List Ex) (h : Sm (.mk k n t b e rs ks)) : ∀ y ∈ ks, Sm y := by
  rw [Sm] at h
  exact sm_kid h.2.2
def Gd (W : World) : Prop := Std W ∧ ∀ W', Q W W' → Lib.TabIs Tryz.prog W' "internal/strconv.uint64pow10" .u64 Lib.pow10Tab
theorem Gd.on {W W' : World} (h : Gd W) (q : Q W W') : Gd W' := ⟨h.1.on q, fun W2 q2 => h.2 W2 (q.trans q2)⟩
theorem mrf_of {W : World} (h : Gd W) (x : Rf) (hs : x.1.length ≤ 2000000) : MRf W x := by
  intro W' q
  have h' := h.on q
  exact pmayref_big ⟨x.1.toArray⟩ x.2.1 x.2.2.1 x.2.2.2.1 x.2.2.2.2 W' h'.1 h'.2 (by show x.1.toArray.size ≤ 2000000; simpa using hs)
theorem maynode_any (x : Ex) (v : Value) (W : World) (hg : Gd W) (hs : Sm x) (hr : Rd W x v) : Calls Tryz.prog 93 #[v] W fun e W' => e = .returned (.bool (mayN x)) ∧ Q W W' := by
  obtain ⟨k, n, t, b, e, rs, ks, rv', kv, ao, cap, rfl, hp⟩ := hr.prt
  obtain ⟨ar, cr, hrv, hl⟩ := hp.rl
  have hsl : Sl rf 5 W (.slice ar rs.length cr) rs := hrv ▸ hp.rl
  obtain rfl := hp.kl
  subst hrv
  have hx := hp.ex
  subst hx
  rw [Sm] at hs
  obtain ⟨s1, s2, _⟩ := hs
  have st : t.size ≤ 1000000 := by rw [← len_data]; exact s1
  have hm : Hid (∀ y ∈ rs, MRf W y) := hid (fun y hy => mrf_of hg y (s2 y hy))
  have tl : t.toList = t.data.toList := toL t
  rw [mayN]
  by_cases h1 : k = 1
  · subst h1
    rw [if_pos rfl]
    exact mn_1 n t b e ar rs.length cr ao ks.length cap W
  by_cases h2 : k = 2
  · subst h2
    rw [if_neg (by decide), if_pos rfl, ← tl]
    exact mn_2 n t b e ar rs.length cr ao ks.length cap W hg.1 (by omega)
  by_cases h3 : k = 3
  · subst h3
    rw [if_neg (by decide), if_neg (by decide), if_pos rfl]
    exact mn_3 n t b e ar rs.length cr ao ks.length cap W
  by_cases h4 : k = 4
  · subst h4
    rw [if_neg (by decide), if_neg (by decide), if_neg (by decide), if_pos rfl]
    exact mn_4 n t b e ar rs.length cr ao ks.length cap W hg.1
  by_cases h5 : k = 5
  · subst h5
    rw [if_neg (by decide), if_neg (by decide), if_neg (by decide), if_neg (by decide), if_pos rfl]
    exact mn_5 n t b e ar rs.length cr ao ks.length cap W rs hsl hm
  by_cases h6 : k = 6
  · subst h6
    rw [if_neg (by decide), if_neg (by decide), if_neg (by decide), if_neg (by decide), if_neg (by decide), if_pos rfl]
    exact mn_6 n t b e ar rs.length cr ao ks.length cap W rs hsl hm
  by_cases h7 : k = 7
  · subst h7
    rw [if_neg (by decide), if_neg (by decide), if_neg (by decide), if_neg (by decide), if_neg (by decide), if_neg (by decide), if_pos rfl]
    exact mn_7 n t b e ar rs.length cr ao ks.length cap W
  by_cases h8 : k = 8
  · subst h8
    rw [if_neg (by decide), if_neg (by decide), if_neg (by decide), if_neg (by decide), if_neg (by decide), if_neg (by decide), if_neg (by decide), if_pos rfl]
    exact mn_8 n t b e ar rs.length cr ao ks.length cap W
  by_cases h9 : k = 9
  · subst h9
    rw [if_neg (by decide), if_neg (by decide), if_neg (by decide), if_neg (by decide), if_neg (by decide), if_neg (by decide), if_neg (by decide), if_neg (by decide), if_pos rfl]
    exact mn_9 n t b e ar rs.length cr ao ks.length cap W (by omega)
  rw [if_neg h1, if_neg h2, if_neg h3, if_neg h4, if_neg h5, if_neg h6, if_neg h7, if_neg h8, if_neg h9]
  exact mn_k k n t b e ar rs.length cr ao ks.length cap W (by omega)
theorem pmayall_any (x : Ex) (v : Value) (W : World) (hg : Gd W) (hs : Sm x) (hr : Rd W x v) : Calls Tryz.prog 57 #[v] W fun e W' => e = .returned (.bool (mall mayN x)) ∧ Q W W' :=
  mayall_any mayN Gd (fun _ _ h q => h.on q) Sm sm_kids (hid maynode_any) (SizeOf.sizeOf x) x v W (Nat.le_refl _) hg hs hr
set_option maxHeartbeats 4000000 in
theorem pmay_any (x : Ex) (v : Value) (W : World) (hg : Gd W) (hs : Sm x) (hr : Rd W x v) : Calls Tryz.prog 27 #[v] W fun e W' => e = .returned (.bool (fitB x && mall mayN x)) ∧ Q W W' := by
  have HF := hid (fun W' (q : Q W W') => fits_any x v W' (Rd.on q _ _ hr))
  have HA := hid (fun W' (q : Q W W') => pmayall_any x v W' (hg.on q) hs (Rd.on q _ _ hr))
  obtain ⟨k, n, t, b, e, a1, l1, c1, a2, l2, c2, rfl⟩ := hr.shape
  have HX := hid (Bx.start W (.int .i64 k) (.int .i64 n) (.string t) (.bool b) (.int .i64 e) (.slice a1 l1 c1) (.slice a2 l2 c2) 26)
  clear hr hg hs
  cases h : fitB x
  · rw [h] at HF
    go_enter Tryz.func27, Tryz.ntmps27
    go_wp2_with (go_at_call 56; refine (HF.out _ ((Q.refl _).alloc _)).mono ?_; rintro e9 w1 ⟨rfl, q1⟩; have Q1 : Hid (Q W w1) := hid (((Q.refl _).alloc _).trans q1); clear q1)
    go_ret
    exact ⟨rfl, Q1.out⟩
  · rw [h] at HF
    obtain ⟨r, hr⟩ : ∃ r, mall mayN x = r := ⟨_, rfl⟩
    rw [hr] at HA ⊢
    clear h hr
    go_enter Tryz.func27, Tryz.ntmps27
    go_wp2_with (first | (go_at_call 56; refine (HF.out _ ((Q.refl _).alloc _)).mono ?_; rintro e9 w1 ⟨rfl, q1⟩; have Q1 : Hid (Q W w1) := hid (((Q.refl _).alloc _).trans q1); have X1 := hid (HX.out.on q1); clear q1; obtain ⟨_, _, g0, g1, g2, g3, g4, g5, g6⟩ := X1.out) | (go_at_call 57; refine (HA.out _ Q1.out).mono ?_; rintro e9 w2 ⟨rfl, q2⟩; have Q2 : Hid (Q W w2) := hid (Q1.out.trans q2); clear q2))
    go_ret
    exact ⟨by simp, Q2.out⟩
end Go.Proofs.YtgheopdadfnilaaGreatDoor
