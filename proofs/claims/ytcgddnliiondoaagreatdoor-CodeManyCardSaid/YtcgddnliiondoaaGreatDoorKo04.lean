/- slices.Equal of references; counterpaneref10.EqOp, walked over letters: where the first difference stands. -/
import Derived.Test.YtcgddnliiondoaaGreatDoorKo00
import Derived.Laws.StructEq
set_option linter.unusedVariables false
set_option linter.unusedSimpArgs false
set_option maxRecDepth 100000
set_option maxHeartbeats 8000000
namespace Go.Proofs.YtcgddnliiondoaaGreatDoor
open Go.RowKit
theorem toL' (s : ByteArray) : s.toList = s.data.toList := Lib.toList_data s
def eqRf : List Rf → List Rf → Bool
  | [], [] => true
  | x :: l, y :: l' => decide (x = y) && eqRf l l'
  | [], _ :: _ => false
  | _ :: _, [] => false
theorem eqRf_iff : ∀ {l l' : List Rf}, eqRf l l' = true ↔ l = l'
  | [], [] => by simp [eqRf]
  | [], _ :: _ => by simp [eqRf]
  | _ :: _, [] => by simp [eqRf]
  | x :: l, y :: l' => by
    simp only [eqRf, Bool.and_eq_true, decide_eq_true_eq, eqRf_iff, List.cons.injEq]
theorem eqRf_len {l l' : List Rf} (h : l.length ≠ l'.length) : eqRf l l' = false := by
  cases e : eqRf l l' with
  | false => rfl
  | true => exact absurd (congrArg List.length (eqRf_iff.1 e)) h
theorem eqRf_dec (l l' : List Rf) : eqRf l l' = decide (l = l') := by
  cases e : eqRf l l' with
  | false => exact (decide_eq_false (fun h => by rw [eqRf_iff.2 h] at e; cases e)).symm
  | true => exact (decide_eq_true (eqRf_iff.1 e)).symm
theorem neq59 (xs : List UInt8) (xr xc : Int) (xa xb : Bool) (ys : List UInt8) (yr yc : Int) (ya yb : Bool) (w : World) : Sem.run Tryz.prog (binOp .neq 96 (.agg #[.string ⟨xs.toArray⟩, .int .i64 xr, .int .i64 xc, .bool xa, .bool xb]) (.agg #[.string ⟨ys.toArray⟩, .int .i64 yr, .int .i64 yc, .bool ya, .bool yb])) w = .ok (.bool (!(decide (((xs, xr, xc, xa, xb) : Rf) = (ys, yr, yc, ya, yb))))) w := by
  have u2 := Tryz.underlying2
  have u4 := Tryz.underlying4
  have u9 := Tryz.underlying9
  have hS : Tryz.prog.underlying 96 = some (.struct (Tryz.prog.fieldsOf 96)) := by kernel_rfl
  have hp : Tryz.prog.stoodInHeld 96 = false := by kernel_rfl
  have hf : (Tryz.prog.fieldsOf 96).toList.map (fun f => (f.name == "_", f.type, f.offset)) = [(false, 9, 0), (false, 2, 1), (false, 2, 2), (false, 4, 3), (false, 4, 4)] := by kernel_rfl
  have q1 : ∀ a b c d e : Value, (part 9 #[a, b, c, d, e] 0).run Tryz.prog w = .ok a w := fun _ _ _ _ _ => by kernel_rfl
  have q2 : ∀ a b c d e : Value, (part 2 #[a, b, c, d, e] 1).run Tryz.prog w = .ok b w := fun _ _ _ _ _ => by kernel_rfl
  have q3 : ∀ a b c d e : Value, (part 2 #[a, b, c, d, e] 2).run Tryz.prog w = .ok c w := fun _ _ _ _ _ => by kernel_rfl
  have q4 : ∀ a b c d e : Value, (part 4 #[a, b, c, d, e] 3).run Tryz.prog w = .ok d w := fun _ _ _ _ _ => by kernel_rfl
  have q5 : ∀ a b c d e : Value, (part 4 #[a, b, c, d, e] 4).run Tryz.prog w = .ok e w := fun _ _ _ _ _ => by kernel_rfl
  have e1 : (Op.equalIn 9999 9 (.string ⟨xs.toArray⟩) (.string ⟨ys.toArray⟩)).run Tryz.prog w = .ok (xs == ys) w := by
    have := run_equalIn_string (P := Tryz.prog) w 9998 9 ⟨xs.toArray⟩ ⟨ys.toArray⟩ u9
    rw [toL', toL'] at this
    exact this
  have e2 : (Op.equalIn 9999 2 (.int .i64 xr) (.int .i64 yr)).run Tryz.prog w = .ok (xr == yr) w := run_equalIn_int (P := Tryz.prog) w 9998 2 .i64 .i64 xr yr u2
  have e3 : (Op.equalIn 9999 2 (.int .i64 xc) (.int .i64 yc)).run Tryz.prog w = .ok (xc == yc) w := run_equalIn_int (P := Tryz.prog) w 9998 2 .i64 .i64 xc yc u2
  have e4 : (Op.equalIn 9999 4 (.bool xa) (.bool ya)).run Tryz.prog w = .ok (xa == ya) w := run_equalIn_bool' (P := Tryz.prog) w 9998 4 xa ya u4
  have e5 : (Op.equalIn 9999 4 (.bool xb) (.bool yb)).run Tryz.prog w = .ok (xb == yb) w := run_equalIn_bool' (P := Tryz.prog) w 9998 4 xb yb u4
  rw [run_neq_struct, show (10000 : Nat) = 9999 + 1 from rfl, run_equalIn_struct w 9999 96 _ _ hS hp]
  generalize (Tryz.prog.fieldsOf 96).toList = fs at hf ⊢
  obtain ⟨f1, r1, rfl, h1, hf⟩ := List.map_eq_cons_iff.1 hf
  obtain ⟨f2, r2, rfl, h2, hf⟩ := List.map_eq_cons_iff.1 hf
  obtain ⟨f3, r3, rfl, h3, hf⟩ := List.map_eq_cons_iff.1 hf
  obtain ⟨f4, r4, rfl, h4, hf⟩ := List.map_eq_cons_iff.1 hf
  obtain ⟨f5, r5, rfl, h5, hf⟩ := List.map_eq_cons_iff.1 hf
  obtain rfl := List.map_eq_nil_iff.1 hf
  simp only [Prod.mk.injEq, beq_eq_false_iff_ne, ne_eq] at h1 h2 h3 h4 h5
  obtain ⟨n1, t1, p1⟩ := h1
  obtain ⟨n2, t2, p2⟩ := h2
  obtain ⟨n3, t3, p3⟩ := h3
  obtain ⟨n4, t4, p4⟩ := h4
  obtain ⟨n5, t5, p5⟩ := h5
  simp only [Op.eqFields, ne_eq, n1, n2, n3, n4, n5, not_false_eq_true, if_true, t1, t2, t3, t4, t5, p1, p2, p3, p4, p5, Sem.run_bind, Sem.run_ite, Sem.run_pure, q1, q2, q3, q4, q5, e1, e2, e3, e4, e5, Result.andThen_ok]
  by_cases h1 : xs = ys
  · by_cases h2 : xr = yr
    · by_cases h3 : xc = yc
      · by_cases h4 : xa = ya
        · by_cases h5 : xb = yb <;> simp [h1, h2, h3, h4, h5]
        · simp [h1, h2, h3, h4]
      · simp [h1, h2, h3]
    · simp [h1, h2]
  · simp [h1]
theorem guard59 (op : BinOp) (a b : Operand) (X Y : Array Value) (w : World) : Sem.run Tryz.prog (eqGuard op 96 a b (.agg X) (.agg Y)) w = .ok () w := run_eqGuard_agg w op 96 a b X Y (by kernel_rfl)
set_option maxHeartbeats 4000000 in
theorem eqrf_any_q (va vb : Value) (A B : List Rf) (w : World) (ha : Sl rf 5 w va A) (hb : Sl rf 5 w vb B) : Calls Tryz.prog 110 #[va, vb] w fun e w' => e = .returned (.bool (eqRf A B)) ∧ ∃ m, w' = w.drewN m := by
  have HA := hid ha
  have HB := hid hb
  obtain ⟨ao, cap, rfl, la, ma⟩ := ha.len
  obtain ⟨ao2, cap2, rfl, lb, mb⟩ := hb.len
  have hA : A.length ≤ 9223372036854775807 := by unfold maxLen at ma; omega
  clear ha hb la ma lb mb
  generalize hT : eqRf A B = T
  have HT := hid hT
  clear hT
  by_cases hl : A.length = B.length
  · have hl' : ((A.length : Int) != (B.length : Int)) = false := by simp [hl]
    go_enter Tryz.func110, Tryz.ntmps110
    go_wp2
    go_loopw [4, 13] (fun _ s W => ∃ (n : Nat), n ≤ A.length ∧ s = .int .i64 n ∧ Hid (∃ q, W = w.drewN q) ∧ Hid (eqRf (A.drop n) (B.drop n) = T)) (fun _ s _ => A.length - (intOf s).toNat)
    case atStart => exact ⟨0, Nat.zero_le _, rfl, ⟨0, rfl⟩, by rw [List.drop_zero, List.drop_zero]; exact HT.out⟩
    case round =>
      obtain ⟨n, hn, rfl, hq, HZ⟩ := hrel
      obtain ⟨q, hwq⟩ := hq.out
      have HW := hid hwq
      have HQ : Hid (Q w wr) := by rw [hwq]; exact (Q.refl _).drewN _
      clear hq hwq
      by_cases hlt : n < A.length
      · have hlt' : (n : Int) < (A.length : Int) := by omega
        have hlt2 : (n : Int) < (B.length : Int) := by omega
        obtain ⟨g, off, cap', e, _, _, hc⟩ := (HA.out.on HQ.out).at hlt
        cases e
        obtain ⟨g2, off2, cap3, e, _, _, hc2⟩ := (HB.out.on HQ.out).at (i := n) (by omega)
        cases e
        rw [List.drop_eq_getElem_cons hlt, List.drop_eq_getElem_cons (show n < B.length by omega), eqRf] at HZ
        generalize A[n] = x at *
        generalize B[n]'(by omega) = y at *
        obtain ⟨xs, xr, xc, xa, xb⟩ := x
        obtain ⟨ys, yr, yc, ya, yb⟩ := y
        have c0 : wr.cell? ⟨g, off + n * 5, none⟩ = some (.string ⟨xs.toArray⟩) := hc 0 _ rfl
        have c1 : wr.cell? ⟨g, off + n * 5 + 1, none⟩ = some (.int .i64 xr) := hc 1 _ rfl
        have c2 : wr.cell? ⟨g, off + n * 5 + 2, none⟩ = some (.int .i64 xc) := hc 2 _ rfl
        have c3 : wr.cell? ⟨g, off + n * 5 + 3, none⟩ = some (.bool xa) := hc 3 _ rfl
        have c4 : wr.cell? ⟨g, off + n * 5 + 4, none⟩ = some (.bool xb) := hc 4 _ rfl
        have d0 : wr.cell? ⟨g2, off2 + n * 5, none⟩ = some (.string ⟨ys.toArray⟩) := hc2 0 _ rfl
        have d1 : wr.cell? ⟨g2, off2 + n * 5 + 1, none⟩ = some (.int .i64 yr) := hc2 1 _ rfl
        have d2 : wr.cell? ⟨g2, off2 + n * 5 + 2, none⟩ = some (.int .i64 yc) := hc2 2 _ rfl
        have d3 : wr.cell? ⟨g2, off2 + n * 5 + 3, none⟩ = some (.bool ya) := hc2 3 _ rfl
        have d4 : wr.cell? ⟨g2, off2 + n * 5 + 4, none⟩ = some (.bool yb) := hc2 4 _ rfl
        clear hc hc2
        have hgd' : ∀ (op : BinOp) (a b : Operand) (w : World), Sem.run Tryz.prog (eqGuard op 96 a b (.agg #[.string ⟨xs.toArray⟩, .int .i64 xr, .int .i64 xc, .bool xa, .bool xb]) (.agg #[.string ⟨ys.toArray⟩, .int .i64 yr, .int .i64 yc, .bool ya, .bool yb])) w = .ok () w := fun op a b w => guard59 op a b _ _ w
        cases hd : decide (((xs, xr, xc, xa, xb) : Rf) = (ys, yr, yc, ya, yb))
        · have HR : Hid (false = T) := by
            have := HZ.out
            simp only [hd, Bool.false_and] at this
            exact this
          clear HZ
          have hne' : ∀ w, Sem.run Tryz.prog (binOp .neq 96 (.agg #[.string ⟨xs.toArray⟩, .int .i64 xr, .int .i64 xc, .bool xa, .bool xb]) (.agg #[.string ⟨ys.toArray⟩, .int .i64 yr, .int .i64 yc, .bool ya, .bool yb])) w = .ok (.bool true) w := fun w => by
            have := neq59 xs xr xc xa xb ys yr yc ya yb w
            rw [hd] at this
            exact this
          clear hd
          go_wp2_with fail
          go_quiet (fail)
          go_wp2_with fail
          go_ret
          exact ⟨ret_bool HR.out, _, by rw [HW.out, World.drewN_drewN]⟩
        · have HZ2 : Hid (eqRf (A.drop (n + 1)) (B.drop (n + 1)) = T) := by
            have := HZ.out
            simp only [hd, Bool.true_and] at this
            exact this
          clear HZ
          have hne' : ∀ w, Sem.run Tryz.prog (binOp .neq 96 (.agg #[.string ⟨xs.toArray⟩, .int .i64 xr, .int .i64 xc, .bool xa, .bool xb]) (.agg #[.string ⟨ys.toArray⟩, .int .i64 yr, .int .i64 yc, .bool ya, .bool yb])) w = .ok (.bool false) w := fun w => by
            have := neq59 xs xr xc xa xb ys yr yc ya yb w
            rw [hd] at this
            exact this
          clear hd
          go_wp2_with fail
          go_quiet (fail)
          go_wp2_with fail
          go_roundw
          case rel => exact ⟨n + 1, by omega, by go_num, ⟨_, by rw [HW.out, World.drewN_drewN]⟩, HZ2⟩
          case measure => simp [intOf]; omega
      · have hlt' : ¬ (n : Int) < (A.length : Int) := by omega
        have HR : Hid (true = T) := by
          have := HZ.out
          rw [List.drop_eq_nil_of_le (by omega), List.drop_eq_nil_of_le (by omega)] at this
          exact this
        clear HZ
        go_wp2_with fail
        go_ret
        exact ⟨ret_bool HR.out, q, HW.out⟩
  · have hl' : ((A.length : Int) != (B.length : Int)) = true := by simp; omega
    have HR : Hid (false = T) := by show _ = _; rw [← HT.out, eqRf_len hl]
    go_enter Tryz.func110, Tryz.ntmps110
    go_wp2
    go_ret
    exact ⟨ret_bool HR.out, 0, rfl⟩
set_option maxHeartbeats 4000000 in
theorem eo_7 (k : Int) (sh : ByteArray) (sh' : ByteArray) (row : Int) (col : Int) (x4 : Value) (x4' : Value) (x5 : Value) (x5' : Value) (x6 : Value) (x6' : Value) (x7 : Value) (x7' : Value) (x8 : Value) (x8' : Value) (x9 : Value) (x9' : Value) (x10 : Value) (x10' : Value) (x11 : Value) (x11' : Value) (x12 : Value) (x12' : Value) (x13 : Value) (x13' : Value) (x14 : Value) (x14' : Value) (x15 : Value) (x15' : Value) (x16 : Value) (x16' : Value) (lk : Int) (la : Int) (lt : Int) (lt' : Int) (ra : Option Addr) (rl rc : Nat) (ra' : Option Addr) (rl' rc' : Nat) (fm : Int) (fm' : Int) (nm : ByteArray) (nm' : ByteArray) (w : World) (e1 : (sh.toList == sh'.toList) = true) (e19 : (lt == lt') = false) (HC : Hid (∀ V, Q w V → Calls Tryz.prog 18 #[.agg #[x4, x5, x6, x7, x8, x9, x10, x11, x12, x13, x14, x15, x16], .agg #[x4', x5', x6', x7', x8', x9', x10', x11', x12', x13', x14', x15', x16']] V fun e V' => e = .returned (.bool true) ∧ Q V V')) : Calls Tryz.prog 19 #[.agg #[.int .i64 k, .string sh, .int .i64 row, .int .i64 col, x4, x5, x6, x7, x8, x9, x10, x11, x12, x13, x14, x15, x16, .int .i64 lk, .int .i64 la, .int .i64 lt, .slice ra rl rc, .int .i64 fm, .string nm], .agg #[.int .i64 k, .string sh', .int .i64 row, .int .i64 col, x4', x5', x6', x7', x8', x9', x10', x11', x12', x13', x14', x15', x16', .int .i64 lk, .int .i64 la, .int .i64 lt', .slice ra' rl' rc', .int .i64 fm', .string nm']] w fun e W' => e = .returned (.bool false) ∧ Q w W' := by
  have T0 : Hid True := hid trivial
  go_enter Tryz.func19, Tryz.ntmps19
  go_upto_region 1 with (first
    | (with_reducible refine wpl_boxq _ (by with_unfolding_all rfl) (by with_unfolding_all rfl) [.int .i64 k, .string sh, .int .i64 row, .int .i64 col, x4, x5, x6, x7, x8, x9, x10, x11, x12, x13, x14, x15, x16, .int .i64 lk, .int .i64 la, .int .i64 lt, .slice ra rl rc, .int .i64 fm, .string nm] (by with_unfolding_all rfl) ?_; intro w1 b0 hZ hQ; have Z1 := hid hZ; have Q1 := hid hQ; have T1 : Hid True := hid trivial; clear hZ hQ T0)
    | (clear T1; with_reducible refine wpl_boxq _ (by with_unfolding_all rfl) (by with_unfolding_all rfl) [.int .i64 k, .string sh', .int .i64 row, .int .i64 col, x4', x5', x6', x7', x8', x9', x10', x11', x12', x13', x14', x15', x16', .int .i64 lk, .int .i64 la, .int .i64 lt', .slice ra' rl' rc', .int .i64 fm', .string nm'] (by with_unfolding_all rfl) ?_; intro w2 b1 hZ hQ; have Z1b := hid (Z1.out.on hQ); have Z2 := hid hZ; have Q2 := hid (Q1.out.trans hQ); clear hZ hQ Z1; have d0 := Z1b.out.c 0 _ rfl; have d1 := Z1b.out.c 1 _ rfl; have d2 := Z1b.out.c 2 _ rfl; have d3 := Z1b.out.c 3 _ rfl; have d4 := Z1b.out.c 4 _ rfl; have d5 := Z1b.out.c 5 _ rfl; have d6 := Z1b.out.c 6 _ rfl; have d7 := Z1b.out.c 7 _ rfl; have d8 := Z1b.out.c 8 _ rfl; have d9 := Z1b.out.c 9 _ rfl; have d10 := Z1b.out.c 10 _ rfl; have d11 := Z1b.out.c 11 _ rfl; have d12 := Z1b.out.c 12 _ rfl; have d13 := Z1b.out.c 13 _ rfl; have d14 := Z1b.out.c 14 _ rfl; have d15 := Z1b.out.c 15 _ rfl; have d16 := Z1b.out.c 16 _ rfl; have d17 := Z1b.out.c 17 _ rfl; have d18 := Z1b.out.c 18 _ rfl; have d19 := Z1b.out.c 19 _ rfl; have d20 := Z1b.out.c 20 _ rfl; have d21 := Z1b.out.c 21 _ rfl; have d22 := Z1b.out.c 22 _ rfl; have n0 := Z2.out.c 0 _ rfl; have n1 := Z2.out.c 1 _ rfl; have n2 := Z2.out.c 2 _ rfl; have n3 := Z2.out.c 3 _ rfl; have n4 := Z2.out.c 4 _ rfl; have n5 := Z2.out.c 5 _ rfl; have n6 := Z2.out.c 6 _ rfl; have n7 := Z2.out.c 7 _ rfl; have n8 := Z2.out.c 8 _ rfl; have n9 := Z2.out.c 9 _ rfl; have n10 := Z2.out.c 10 _ rfl; have n11 := Z2.out.c 11 _ rfl; have n12 := Z2.out.c 12 _ rfl; have n13 := Z2.out.c 13 _ rfl; have n14 := Z2.out.c 14 _ rfl; have n15 := Z2.out.c 15 _ rfl; have n16 := Z2.out.c 16 _ rfl; have n17 := Z2.out.c 17 _ rfl; have n18 := Z2.out.c 18 _ rfl; have n19 := Z2.out.c 19 _ rfl; have n20 := Z2.out.c 20 _ rfl; have n21 := Z2.out.c 21 _ rfl; have n22 := Z2.out.c 22 _ rfl))
  refine wp_region_lit ?_
  dsimp only [List.append]
  go_wp2_with (first
    | (go_at_call 18; refine (HC.out _ Q2.out).mono ?_; rintro e9 w3 ⟨rfl, q9⟩; have Q3 := hid (Q2.out.trans q9); have Z1c := hid (Z1b.out.on q9); have Z2c := hid (Z2.out.on q9); clear q9; have dd17 := Z1c.out.c 17 _ rfl; have dd18 := Z1c.out.c 18 _ rfl; have dd19 := Z1c.out.c 19 _ rfl; have dd20 := Z1c.out.c 20 _ rfl; have dd21 := Z1c.out.c 21 _ rfl; have dd22 := Z1c.out.c 22 _ rfl; have nn17 := Z2c.out.c 17 _ rfl; have nn18 := Z2c.out.c 18 _ rfl; have nn19 := Z2c.out.c 19 _ rfl; have nn20 := Z2c.out.c 20 _ rfl; have nn21 := Z2c.out.c 21 _ rfl; have nn22 := Z2c.out.c 22 _ rfl))
  go_ret
  exact ⟨rfl, Q3.out⟩
set_option maxHeartbeats 4000000 in
theorem eo_8 (k : Int) (sh : ByteArray) (sh' : ByteArray) (row : Int) (col : Int) (x4 : Value) (x4' : Value) (x5 : Value) (x5' : Value) (x6 : Value) (x6' : Value) (x7 : Value) (x7' : Value) (x8 : Value) (x8' : Value) (x9 : Value) (x9' : Value) (x10 : Value) (x10' : Value) (x11 : Value) (x11' : Value) (x12 : Value) (x12' : Value) (x13 : Value) (x13' : Value) (x14 : Value) (x14' : Value) (x15 : Value) (x15' : Value) (x16 : Value) (x16' : Value) (lk : Int) (la : Int) (lt : Int) (ra : Option Addr) (rl rc : Nat) (ra' : Option Addr) (rl' rc' : Nat) (fm : Int) (fm' : Int) (nm : ByteArray) (nm' : ByteArray) (w : World) (e1 : (sh.toList == sh'.toList) = true) (HC : Hid (∀ V, Q w V → Calls Tryz.prog 18 #[.agg #[x4, x5, x6, x7, x8, x9, x10, x11, x12, x13, x14, x15, x16], .agg #[x4', x5', x6', x7', x8', x9', x10', x11', x12', x13', x14', x15', x16']] V fun e V' => e = .returned (.bool true) ∧ Q V V')) (HR : Hid (∀ V, Q w V → Calls Tryz.prog 35 #[.slice ra rl rc, .slice ra' rl' rc'] V fun e V' => e = .returned (.bool false) ∧ Q V V')) : Calls Tryz.prog 19 #[.agg #[.int .i64 k, .string sh, .int .i64 row, .int .i64 col, x4, x5, x6, x7, x8, x9, x10, x11, x12, x13, x14, x15, x16, .int .i64 lk, .int .i64 la, .int .i64 lt, .slice ra rl rc, .int .i64 fm, .string nm], .agg #[.int .i64 k, .string sh', .int .i64 row, .int .i64 col, x4', x5', x6', x7', x8', x9', x10', x11', x12', x13', x14', x15', x16', .int .i64 lk, .int .i64 la, .int .i64 lt, .slice ra' rl' rc', .int .i64 fm', .string nm']] w fun e W' => e = .returned (.bool false) ∧ Q w W' := by
  have T0 : Hid True := hid trivial
  go_enter Tryz.func19, Tryz.ntmps19
  go_upto_region 1 with (first
    | (with_reducible refine wpl_boxq _ (by with_unfolding_all rfl) (by with_unfolding_all rfl) [.int .i64 k, .string sh, .int .i64 row, .int .i64 col, x4, x5, x6, x7, x8, x9, x10, x11, x12, x13, x14, x15, x16, .int .i64 lk, .int .i64 la, .int .i64 lt, .slice ra rl rc, .int .i64 fm, .string nm] (by with_unfolding_all rfl) ?_; intro w1 b0 hZ hQ; have Z1 := hid hZ; have Q1 := hid hQ; have T1 : Hid True := hid trivial; clear hZ hQ T0)
    | (clear T1; with_reducible refine wpl_boxq _ (by with_unfolding_all rfl) (by with_unfolding_all rfl) [.int .i64 k, .string sh', .int .i64 row, .int .i64 col, x4', x5', x6', x7', x8', x9', x10', x11', x12', x13', x14', x15', x16', .int .i64 lk, .int .i64 la, .int .i64 lt, .slice ra' rl' rc', .int .i64 fm', .string nm'] (by with_unfolding_all rfl) ?_; intro w2 b1 hZ hQ; have Z1b := hid (Z1.out.on hQ); have Z2 := hid hZ; have Q2 := hid (Q1.out.trans hQ); clear hZ hQ Z1; have d0 := Z1b.out.c 0 _ rfl; have d1 := Z1b.out.c 1 _ rfl; have d2 := Z1b.out.c 2 _ rfl; have d3 := Z1b.out.c 3 _ rfl; have d4 := Z1b.out.c 4 _ rfl; have d5 := Z1b.out.c 5 _ rfl; have d6 := Z1b.out.c 6 _ rfl; have d7 := Z1b.out.c 7 _ rfl; have d8 := Z1b.out.c 8 _ rfl; have d9 := Z1b.out.c 9 _ rfl; have d10 := Z1b.out.c 10 _ rfl; have d11 := Z1b.out.c 11 _ rfl; have d12 := Z1b.out.c 12 _ rfl; have d13 := Z1b.out.c 13 _ rfl; have d14 := Z1b.out.c 14 _ rfl; have d15 := Z1b.out.c 15 _ rfl; have d16 := Z1b.out.c 16 _ rfl; have d17 := Z1b.out.c 17 _ rfl; have d18 := Z1b.out.c 18 _ rfl; have d19 := Z1b.out.c 19 _ rfl; have d20 := Z1b.out.c 20 _ rfl; have d21 := Z1b.out.c 21 _ rfl; have d22 := Z1b.out.c 22 _ rfl; have n0 := Z2.out.c 0 _ rfl; have n1 := Z2.out.c 1 _ rfl; have n2 := Z2.out.c 2 _ rfl; have n3 := Z2.out.c 3 _ rfl; have n4 := Z2.out.c 4 _ rfl; have n5 := Z2.out.c 5 _ rfl; have n6 := Z2.out.c 6 _ rfl; have n7 := Z2.out.c 7 _ rfl; have n8 := Z2.out.c 8 _ rfl; have n9 := Z2.out.c 9 _ rfl; have n10 := Z2.out.c 10 _ rfl; have n11 := Z2.out.c 11 _ rfl; have n12 := Z2.out.c 12 _ rfl; have n13 := Z2.out.c 13 _ rfl; have n14 := Z2.out.c 14 _ rfl; have n15 := Z2.out.c 15 _ rfl; have n16 := Z2.out.c 16 _ rfl; have n17 := Z2.out.c 17 _ rfl; have n18 := Z2.out.c 18 _ rfl; have n19 := Z2.out.c 19 _ rfl; have n20 := Z2.out.c 20 _ rfl; have n21 := Z2.out.c 21 _ rfl; have n22 := Z2.out.c 22 _ rfl))
  refine wp_region_lit ?_
  dsimp only [List.append]
  go_wp2_with (first
    | (go_at_call 18; refine (HC.out _ Q2.out).mono ?_; rintro e9 w3 ⟨rfl, q9⟩; have Q3 := hid (Q2.out.trans q9); have Z1c := hid (Z1b.out.on q9); have Z2c := hid (Z2.out.on q9); clear q9; have dd17 := Z1c.out.c 17 _ rfl; have dd18 := Z1c.out.c 18 _ rfl; have dd19 := Z1c.out.c 19 _ rfl; have dd20 := Z1c.out.c 20 _ rfl; have dd21 := Z1c.out.c 21 _ rfl; have dd22 := Z1c.out.c 22 _ rfl; have nn17 := Z2c.out.c 17 _ rfl; have nn18 := Z2c.out.c 18 _ rfl; have nn19 := Z2c.out.c 19 _ rfl; have nn20 := Z2c.out.c 20 _ rfl; have nn21 := Z2c.out.c 21 _ rfl; have nn22 := Z2c.out.c 22 _ rfl)
    | (go_at_call 35; refine (HR.out _ Q3.out).mono ?_; rintro e9 w4 ⟨rfl, q9⟩; have Q4 := hid (Q3.out.trans q9); have Z1d := hid (Z1c.out.on q9); have Z2d := hid (Z2c.out.on q9); clear q9; have dr21 := Z1d.out.c 21 _ rfl; have dr22 := Z1d.out.c 22 _ rfl; have nr21 := Z2d.out.c 21 _ rfl; have nr22 := Z2d.out.c 22 _ rfl))
  go_ret
  exact ⟨rfl, Q4.out⟩
end Go.Proofs.YtcgddnliiondoaaGreatDoor
