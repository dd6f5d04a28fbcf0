/- slices.Equal of ranges and of rectangles; slices.Equal of ra. -/
import Derived.Test.YthebfhdpofhmpaaGreatDoorKc03
import Derived.Laws.StructEq
import Derived.Deep.CutBlock
import Derived.Shelf.SlicesE.Equal
set_option linter.unusedVariables false
set_option linter.unusedSimpArgs false
set_option maxRecDepth 100000
set_option maxHeartbeats 8000000
namespace Go.Proofs.YthebfhdpofhmpaaGreatDoor.R
open Go.RowKit Go.Lib Go.Shelf
theorem neq28 : NeqAt Tryz.prog 73 (fun x : Rg.Rc => .agg (rc x).toArray) (fun x y => decide (x.a = y.a ∧ x.b = y.b ∧ x.c = y.c ∧ x.d = y.d)) := by
  refine ⟨fun x y w => ?_, GuardAt.agg _ (by kernel_rfl)⟩
  have u2 := Tryz.underlying2
  have a2 := Tryz.isAgg2
  have z2 := Tryz.sizeOf2
  have hS : Tryz.prog.underlying 73 = some (.struct (Tryz.prog.fieldsOf 73)) := by kernel_rfl
  have hp : Tryz.prog.stoodInHeld 73 = false := by kernel_rfl
  simp only [rc]
  rw [run_neq_struct, show (10000 : Nat) = 9999 + 1 from rfl, run_equalIn_agg w 9999 73 _ _ hS hp]
  simp only [Program.fieldsOf, Tryz.underlying73]
  go_simp
  by_cases h1 : x.a = y.a <;> by_cases h2 : x.b = y.b <;> by_cases h3 : x.c = y.c <;> by_cases h4 : x.d = y.d <;> simp [h1, h2, h3, h4]
end Go.Proofs.YthebfhdpofhmpaaGreatDoor.R
namespace Go.Proofs.YthebfhdpofhmpaaGreatDoor.R
open Go.RowKit
def eqRc : List Rg.Rc → List Rg.Rc → Bool
  | [], [] => true
  | x :: l, y :: l' => decide (x.a = y.a ∧ x.b = y.b ∧ x.c = y.c ∧ x.d = y.d) && eqRc l l'
  | [], _ :: _ => false
  | _ :: _, [] => false
theorem eqRc_iff : ∀ {l l' : List Rg.Rc}, eqRc l l' = true ↔ l = l'
  | [], [] => by simp [eqRc]
  | [], _ :: _ => by simp [eqRc]
  | _ :: _, [] => by simp [eqRc]
  | ⟨a, b, c, d⟩ :: l, ⟨a', b', c', d'⟩ :: l' => by
    simp only [eqRc, Bool.and_eq_true, decide_eq_true_eq, eqRc_iff, List.cons.injEq, Rg.Rc.mk.injEq]
theorem eqRc_len {l l' : List Rg.Rc} (h : l.length ≠ l'.length) : eqRc l l' = false := by
  cases e : eqRc l l' with
  | false => rfl
  | true => exact absurd (congrArg List.length (eqRc_iff.1 e)) h
set_option maxHeartbeats 2000000 in
theorem eqR_any_q (va vb : Value) (A B : List Rg.Rc) (w : World) (ha : Sl rc 4 w va A) (hb : Sl rc 4 w vb B) (hA : A.length ≤ 1000000000000) (hB : B.length ≤ 1000000000000) : Calls Tryz.prog 49 #[va, vb] w fun e w' => e = .returned (.bool (eqRc A B)) ∧ ∃ m, w' = w.drewN m := by
  have HA := hid ha
  have HB := hid hb
  obtain ⟨ao, cap, rfl, _, _⟩ := ha.len
  obtain ⟨ao2, cap2, rfl, _, _⟩ := hb.len
  clear ha hb
  generalize hT : eqRc A B = T
  have HT := hid hT
  clear hT
  by_cases hl : A.length = B.length
  · have hl' : ((A.length : Int) != (B.length : Int)) = false := by simp [hl]
    go_enter Tryz.func49, Tryz.ntmps49
    go_wp2
    go_loopw [13] (fun s W => ∃ (n : Nat), n ≤ A.length ∧ s = .int .i64 n ∧ Hid (∃ q, W = w.drewN q) ∧ Hid (eqRc (A.drop n) (B.drop n) = T)) (fun s _ => A.length - (intOf s).toNat)
    case atStart => exact ⟨0, Nat.zero_le _, rfl, ⟨0, rfl⟩, by rw [List.drop_zero, List.drop_zero]; exact HT.out⟩
    case round =>
      obtain ⟨n, hn, rfl, hq, HZ⟩ := hrel
      obtain ⟨q, hwq⟩ := hq.out
      have HW := hid hwq
      have HQ : Hid (Q w wr) := by rw [hwq]; exact (Q.refl _).drewN _
      clear hq hwq
      by_cases hlt : n < A.length
      · have hlt' : (n : Int) < (A.length : Int) := by omega
        have hlt2 : (n : Int) < (B.length : Int) := by omega
        obtain ⟨g, off, cap', e, _, _, hc⟩ := (HA.out.on HQ.out).at hlt
        cases e
        obtain ⟨g2, off2, cap3, e, _, _, hc2⟩ := (HB.out.on HQ.out).at (i := n) (by omega)
        cases e
        rw [List.drop_eq_getElem_cons hlt, List.drop_eq_getElem_cons (show n < B.length by omega), eqRc] at HZ
        generalize A[n] = x at *
        generalize B[n]'(by omega) = y at *
        obtain ⟨xa, xb, xc, xd⟩ := x
        obtain ⟨ya, yb, yc, yd⟩ := y
        have c0 : wr.cell? ⟨g, off + n * 4, none⟩ = some (.int .i64 xa) := hc 0 _ rfl
        have c1 : wr.cell? ⟨g, off + n * 4 + 1, none⟩ = some (.int .i64 xb) := hc 1 _ rfl
        have c2 : wr.cell? ⟨g, off + n * 4 + 2, none⟩ = some (.int .i64 xc) := hc 2 _ rfl
        have c3 : wr.cell? ⟨g, off + n * 4 + 3, none⟩ = some (.int .i64 xd) := hc 3 _ rfl
        have d0 : wr.cell? ⟨g2, off2 + n * 4, none⟩ = some (.int .i64 ya) := hc2 0 _ rfl
        have d1 : wr.cell? ⟨g2, off2 + n * 4 + 1, none⟩ = some (.int .i64 yb) := hc2 1 _ rfl
        have d2 : wr.cell? ⟨g2, off2 + n * 4 + 2, none⟩ = some (.int .i64 yc) := hc2 2 _ rfl
        have d3 : wr.cell? ⟨g2, off2 + n * 4 + 3, none⟩ = some (.int .i64 yd) := hc2 3 _ rfl
        clear hc hc2
        cases hd : decide (xa = ya ∧ xb = yb ∧ xc = yc ∧ xd = yd)
        · have HR : Hid (false = T) := by
            have := HZ.out
            simp only [hd, Bool.false_and] at this
            exact this
          clear HZ
          have hne' : ∀ w, Sem.run Tryz.prog (binOp .neq 73 (.agg #[.int .i64 xa, .int .i64 xb, .int .i64 xc, .int .i64 xd]) (.agg #[.int .i64 ya, .int .i64 yb, .int .i64 yc, .int .i64 yd])) w = .ok (.bool true) w := fun w => by
            have := neq28.1 ⟨xa, xb, xc, xd⟩ ⟨ya, yb, yc, yd⟩ w
            simp only [hd] at this
            exact this
          have hgd' : ∀ (op : BinOp) (a b : Operand) (w : World), Sem.run Tryz.prog (eqGuard op 73 a b (.agg #[.int .i64 xa, .int .i64 xb, .int .i64 xc, .int .i64 xd]) (.agg #[.int .i64 ya, .int .i64 yb, .int .i64 yc, .int .i64 yd])) w = .ok () w := fun op a b w => neq28.2 op a b ⟨xa, xb, xc, xd⟩ ⟨ya, yb, yc, yd⟩ w
          clear hd
          go_wp2_with fail
          go_quiet (fail)
          go_wp2_with fail
          go_ret
          exact ⟨ret_bool HR.out, _, by rw [HW.out, World.drewN_drewN]⟩
        · have HZ2 : Hid (eqRc (A.drop (n + 1)) (B.drop (n + 1)) = T) := by
            have := HZ.out
            simp only [hd, Bool.true_and] at this
            exact this
          clear HZ
          have hne' : ∀ w, Sem.run Tryz.prog (binOp .neq 73 (.agg #[.int .i64 xa, .int .i64 xb, .int .i64 xc, .int .i64 xd]) (.agg #[.int .i64 ya, .int .i64 yb, .int .i64 yc, .int .i64 yd])) w = .ok (.bool false) w := fun w => by
            have := neq28.1 ⟨xa, xb, xc, xd⟩ ⟨ya, yb, yc, yd⟩ w
            simp only [hd] at this
            exact this
          have hgd' : ∀ (op : BinOp) (a b : Operand) (w : World), Sem.run Tryz.prog (eqGuard op 73 a b (.agg #[.int .i64 xa, .int .i64 xb, .int .i64 xc, .int .i64 xd]) (.agg #[.int .i64 ya, .int .i64 yb, .int .i64 yc, .int .i64 yd])) w = .ok () w := fun op a b w => neq28.2 op a b ⟨xa, xb, xc, xd⟩ ⟨ya, yb, yc, yd⟩ w
          clear hd
          go_wp2_with fail
          go_quiet (fail)
          go_wp2_with fail
          go_roundw
          case rel => exact ⟨n + 1, by omega, by go_num, ⟨_, by rw [HW.out, World.drewN_drewN]⟩, HZ2⟩
          case measure => simp [intOf]; omega
      · have hlt' : ¬ (n : Int) < (A.length : Int) := by omega
        have HR : Hid (true = T) := by
          have := HZ.out
          rw [List.drop_eq_nil_of_le (by omega), List.drop_eq_nil_of_le (by omega)] at this
          exact this
        clear HZ
        go_wp2_with fail
        go_ret
        exact ⟨ret_bool HR.out, q, HW.out⟩
  · have hl' : ((A.length : Int) != (B.length : Int)) = true := by simp; omega
    have HR : Hid (false = T) := by show _ = _; rw [← HT.out, eqRc_len hl]
    go_enter Tryz.func49, Tryz.ntmps49
    go_wp2
    go_ret
    exact ⟨ret_bool HR.out, 0, rfl⟩
theorem eqR_any (va vb : Value) (A B : List Rg.Rc) (w : World) (ha : Sl rc 4 w va A) (hb : Sl rc 4 w vb B) (hA : A.length ≤ 1000000000000) (hB : B.length ≤ 1000000000000) : Calls Tryz.prog 49 #[va, vb] w fun e w' => e = .returned (.bool (eqRc A B)) ∧ Q w w' :=
  (eqR_any_q va vb A B w ha hb hA hB).mono fun _ _ ⟨he, m, hm⟩ => ⟨he, by rw [hm]; exact (Q.refl _).drewN _⟩
end Go.Proofs.YthebfhdpofhmpaaGreatDoor.R
