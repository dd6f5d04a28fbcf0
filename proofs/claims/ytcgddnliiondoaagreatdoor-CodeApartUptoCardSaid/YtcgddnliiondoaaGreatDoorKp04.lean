/- slices.Equal of ranges and of rectangles; slices.Equal of ra. -/
import Derived.Test.YtcgddnliiondoaaGreatDoorKp03
import Derived.Laws.StructEq
import Derived.Deep.CutBlock
import Derived.Shelf.SlicesE.Equal
set_option linter.unusedVariables false
set_option linter.unusedSimpArgs false
set_option maxRecDepth 100000
set_option maxHeartbeats 8000000
namespace Go.Proofs.YtcgddnliiondoaaGreatDoor.R
open Go.RowKit Go.Lib Go.Shelf
theorem neq40 : NeqAt Tryz.prog 160 (fun x : Rg.Sp => .agg (sp x).toArray) (fun x y => decide (x.f = y.f ∧ x.t = y.t)) := by
  refine ⟨fun x y w => ?_, GuardAt.agg _ (by kernel_rfl)⟩
  have u2 := Tryz.underlying2
  have a2 := Tryz.isAgg2
  have z2 := Tryz.sizeOf2
  have hS : Tryz.prog.underlying 160 = some (.struct (Tryz.prog.fieldsOf 160)) := by kernel_rfl
  have hp : Tryz.prog.stoodInHeld 160 = false := by kernel_rfl
  simp only [sp]
  rw [run_neq_struct, show (10000 : Nat) = 9999 + 1 from rfl, run_equalIn_agg w 9999 160 _ _ hS hp]
  simp only [Program.fieldsOf, Tryz.underlying160]
  go_simp
  by_cases h1 : x.f = y.f <;> by_cases h2 : x.t = y.t <;> simp [h1, h2]
theorem neq28 : NeqAt Tryz.prog 101 (fun x : Rg.Rc => .agg (rc x).toArray) (fun x y => decide (x.a = y.a ∧ x.b = y.b ∧ x.c = y.c ∧ x.d = y.d)) := by
  refine ⟨fun x y w => ?_, GuardAt.agg _ (by kernel_rfl)⟩
  have u2 := Tryz.underlying2
  have a2 := Tryz.isAgg2
  have z2 := Tryz.sizeOf2
  have hS : Tryz.prog.underlying 101 = some (.struct (Tryz.prog.fieldsOf 101)) := by kernel_rfl
  have hp : Tryz.prog.stoodInHeld 101 = false := by kernel_rfl
  simp only [rc]
  rw [run_neq_struct, show (10000 : Nat) = 9999 + 1 from rfl, run_equalIn_agg w 9999 101 _ _ hS hp]
  simp only [Program.fieldsOf, Tryz.underlying101]
  go_simp
  by_cases h1 : x.a = y.a <;> by_cases h2 : x.b = y.b <;> by_cases h3 : x.c = y.c <;> by_cases h4 : x.d = y.d <;> simp [h1, h2, h3, h4]
end Go.Proofs.YtcgddnliiondoaaGreatDoor.R
namespace Go.Proofs.YtcgddnliiondoaaGreatDoor.R
open Go.RowKit
def eqRc : List Rg.Rc → List Rg.Rc → Bool
  | [], [] => true
  | x :: l, y :: l' => decide (x.a = y.a ∧ x.b = y.b ∧ x.c = y.c ∧ x.d = y.d) && eqRc l l'
  | [], _ :: _ => false
  | _ :: _, [] => false
theorem eqRc_iff : ∀ {l l' : List Rg.Rc}, eqRc l l' = true ↔ l = l'
  | [], [] => by simp [eqRc]
  | [], _ :: _ => by simp [eqRc]
  | _ :: _, [] => by simp [eqRc]
  | ⟨a, b, c, d⟩ :: l, ⟨a', b', c', d'⟩ :: l' => by
    simp only [eqRc, Bool.and_eq_true, decide_eq_true_eq, eqRc_iff, List.cons.injEq, Rg.Rc.mk.injEq]
theorem eqRc_len {l l' : List Rg.Rc} (h : l.length ≠ l'.length) : eqRc l l' = false := by
  cases e : eqRc l l' with
  | false => rfl
  | true => exact absurd (congrArg List.length (eqRc_iff.1 e)) h
theorem eqL_len {l l' : List Rg.Sp} (h : l.length ≠ l'.length) : Rg.eqL l l' = false := by
  cases e : Rg.eqL l l' with
  | false => rfl
  | true => exact absurd (congrArg List.length (Rg.eqL_iff.1 e)) h
set_option maxHeartbeats 2000000 in
theorem eqS_any_q (va vb : Value) (A B : List Rg.Sp) (w : World) (ha : Sl sp 2 w va A) (hb : Sl sp 2 w vb B) (hA : A.length ≤ 1000000000000) (hB : B.length ≤ 1000000000000) : Calls Tryz.prog 135 #[va, vb] w fun e w' => e = .returned (.bool (Rg.eqL A B)) ∧ ∃ m, w' = w.drewN m := by
  have HA := hid ha
  have HB := hid hb
  obtain ⟨ao, cap, rfl, _, _⟩ := ha.len
  obtain ⟨ao2, cap2, rfl, _, _⟩ := hb.len
  clear ha hb
  generalize hT : Rg.eqL A B = T
  have HT := hid hT
  clear hT
  by_cases hl : A.length = B.length
  · have hl' : ((A.length : Int) != (B.length : Int)) = false := by simp [hl]
    go_enter Tryz.func135, Tryz.ntmps135
    go_wp2
    go_loopw [13] (fun s W => ∃ (n : Nat), n ≤ A.length ∧ s = .int .i64 n ∧ Hid (∃ q, W = w.drewN q) ∧ Hid (Rg.eqL (A.drop n) (B.drop n) = T)) (fun s _ => A.length - (intOf s).toNat)
    case atStart => exact ⟨0, Nat.zero_le _, rfl, ⟨0, rfl⟩, by rw [List.drop_zero, List.drop_zero]; exact HT.out⟩
    case round =>
      obtain ⟨n, hn, rfl, hq, HZ⟩ := hrel
      obtain ⟨q, hwq⟩ := hq.out
      have HW := hid hwq
      have HQ : Hid (Q w wr) := by rw [hwq]; exact (Q.refl _).drewN _
      clear hq hwq
      by_cases hlt : n < A.length
      · have hlt' : (n : Int) < (A.length : Int) := by omega
        have hlt2 : (n : Int) < (B.length : Int) := by omega
        obtain ⟨g, off, cap', e, _, _, hc⟩ := (HA.out.on HQ.out).at hlt
        cases e
        obtain ⟨g2, off2, cap3, e, _, _, hc2⟩ := (HB.out.on HQ.out).at (i := n) (by omega)
        cases e
        rw [List.drop_eq_getElem_cons hlt, List.drop_eq_getElem_cons (show n < B.length by omega), Rg.eqL] at HZ
        generalize A[n] = x at *
        generalize B[n]'(by omega) = y at *
        obtain ⟨xf, xt⟩ := x
        obtain ⟨yf, yt⟩ := y
        have c0 : wr.cell? ⟨g, off + n * 2, none⟩ = some (.int .i64 xf) := hc 0 _ rfl
        have c1 : wr.cell? ⟨g, off + n * 2 + 1, none⟩ = some (.int .i64 xt) := hc 1 _ rfl
        have d0 : wr.cell? ⟨g2, off2 + n * 2, none⟩ = some (.int .i64 yf) := hc2 0 _ rfl
        have d1 : wr.cell? ⟨g2, off2 + n * 2 + 1, none⟩ = some (.int .i64 yt) := hc2 1 _ rfl
        clear hc hc2
        cases hd : decide (xf = yf ∧ xt = yt)
        · have HR : Hid (false = T) := by
            have := HZ.out
            simp only [hd, Bool.false_and] at this
            exact this
          clear HZ
          have hne' : ∀ w, Sem.run Tryz.prog (binOp .neq 160 (.agg #[.int .i64 xf, .int .i64 xt]) (.agg #[.int .i64 yf, .int .i64 yt])) w = .ok (.bool true) w := fun w => by
            have := neq40.1 ⟨xf, xt⟩ ⟨yf, yt⟩ w
            simp only [hd] at this
            exact this
          have hgd' : ∀ (op : BinOp) (a b : Operand) (w : World), Sem.run Tryz.prog (eqGuard op 160 a b (.agg #[.int .i64 xf, .int .i64 xt]) (.agg #[.int .i64 yf, .int .i64 yt])) w = .ok () w := fun op a b w => neq40.2 op a b ⟨xf, xt⟩ ⟨yf, yt⟩ w
          clear hd
          go_wp2_with fail
          go_quiet (fail)
          go_wp2_with fail
          go_ret
          exact ⟨ret_bool HR.out, _, by rw [HW.out, World.drewN_drewN]⟩
        · have HZ2 : Hid (Rg.eqL (A.drop (n + 1)) (B.drop (n + 1)) = T) := by
            have := HZ.out
            simp only [hd, Bool.true_and] at this
            exact this
          clear HZ
          have hne' : ∀ w, Sem.run Tryz.prog (binOp .neq 160 (.agg #[.int .i64 xf, .int .i64 xt]) (.agg #[.int .i64 yf, .int .i64 yt])) w = .ok (.bool false) w := fun w => by
            have := neq40.1 ⟨xf, xt⟩ ⟨yf, yt⟩ w
            simp only [hd] at this
            exact this
          have hgd' : ∀ (op : BinOp) (a b : Operand) (w : World), Sem.run Tryz.prog (eqGuard op 160 a b (.agg #[.int .i64 xf, .int .i64 xt]) (.agg #[.int .i64 yf, .int .i64 yt])) w = .ok () w := fun op a b w => neq40.2 op a b ⟨xf, xt⟩ ⟨yf, yt⟩ w
          clear hd
          go_wp2_with fail
          go_quiet (fail)
          go_wp2_with fail
          go_roundw
          case rel => exact ⟨n + 1, by omega, by go_num, ⟨_, by rw [HW.out, World.drewN_drewN]⟩, HZ2⟩
          case measure => simp [intOf]; omega
      · have hlt' : ¬ (n : Int) < (A.length : Int) := by omega
        have HR : Hid (true = T) := by
          have := HZ.out
          rw [List.drop_eq_nil_of_le (by omega), List.drop_eq_nil_of_le (by omega)] at this
          exact this
        clear HZ
        go_wp2_with fail
        go_ret
        exact ⟨ret_bool HR.out, q, HW.out⟩
  · have hl' : ((A.length : Int) != (B.length : Int)) = true := by simp; omega
    have HR : Hid (false = T) := by show _ = _; rw [← HT.out, eqL_len hl]
    go_enter Tryz.func135, Tryz.ntmps135
    go_wp2
    go_ret
    exact ⟨ret_bool HR.out, 0, rfl⟩
set_option maxHeartbeats 2000000 in
theorem eqR_any_q (va vb : Value) (A B : List Rg.Rc) (w : World) (ha : Sl rc 4 w va A) (hb : Sl rc 4 w vb B) (hA : A.length ≤ 1000000000000) (hB : B.length ≤ 1000000000000) : Calls Tryz.prog 96 #[va, vb] w fun e w' => e = .returned (.bool (eqRc A B)) ∧ ∃ m, w' = w.drewN m := by
  have HA := hid ha
  have HB := hid hb
  obtain ⟨ao, cap, rfl, _, _⟩ := ha.len
  obtain ⟨ao2, cap2, rfl, _, _⟩ := hb.len
  clear ha hb
  generalize hT : eqRc A B = T
  have HT := hid hT
  clear hT
  by_cases hl : A.length = B.length
  · have hl' : ((A.length : Int) != (B.length : Int)) = false := by simp [hl]
    go_enter Tryz.func96, Tryz.ntmps96
    go_wp2
    go_loopw [13] (fun s W => ∃ (n : Nat), n ≤ A.length ∧ s = .int .i64 n ∧ Hid (∃ q, W = w.drewN q) ∧ Hid (eqRc (A.drop n) (B.drop n) = T)) (fun s _ => A.length - (intOf s).toNat)
    case atStart => exact ⟨0, Nat.zero_le _, rfl, ⟨0, rfl⟩, by rw [List.drop_zero, List.drop_zero]; exact HT.out⟩
    case round =>
      obtain ⟨n, hn, rfl, hq, HZ⟩ := hrel
      obtain ⟨q, hwq⟩ := hq.out
      have HW := hid hwq
      have HQ : Hid (Q w wr) := by rw [hwq]; exact (Q.refl _).drewN _
      clear hq hwq
      by_cases hlt : n < A.length
      · have hlt' : (n : Int) < (A.length : Int) := by omega
        have hlt2 : (n : Int) < (B.length : Int) := by omega
        obtain ⟨g, off, cap', e, _, _, hc⟩ := (HA.out.on HQ.out).at hlt
        cases e
        obtain ⟨g2, off2, cap3, e, _, _, hc2⟩ := (HB.out.on HQ.out).at (i := n) (by omega)
        cases e
        rw [List.drop_eq_getElem_cons hlt, List.drop_eq_getElem_cons (show n < B.length by omega), eqRc] at HZ
        generalize A[n] = x at *
        generalize B[n]'(by omega) = y at *
        obtain ⟨xa, xb, xc, xd⟩ := x
        obtain ⟨ya, yb, yc, yd⟩ := y
        have c0 : wr.cell? ⟨g, off + n * 4, none⟩ = some (.int .i64 xa) := hc 0 _ rfl
        have c1 : wr.cell? ⟨g, off + n * 4 + 1, none⟩ = some (.int .i64 xb) := hc 1 _ rfl
        have c2 : wr.cell? ⟨g, off + n * 4 + 2, none⟩ = some (.int .i64 xc) := hc 2 _ rfl
        have c3 : wr.cell? ⟨g, off + n * 4 + 3, none⟩ = some (.int .i64 xd) := hc 3 _ rfl
        have d0 : wr.cell? ⟨g2, off2 + n * 4, none⟩ = some (.int .i64 ya) := hc2 0 _ rfl
        have d1 : wr.cell? ⟨g2, off2 + n * 4 + 1, none⟩ = some (.int .i64 yb) := hc2 1 _ rfl
        have d2 : wr.cell? ⟨g2, off2 + n * 4 + 2, none⟩ = some (.int .i64 yc) := hc2 2 _ rfl
        have d3 : wr.cell? ⟨g2, off2 + n * 4 + 3, none⟩ = some (.int .i64 yd) := hc2 3 _ rfl
        clear hc hc2
        cases hd : decide (xa = ya ∧ xb = yb ∧ xc = yc ∧ xd = yd)
        · have HR : Hid (false = T) := by
            have := HZ.out
            simp only [hd, Bool.false_and] at this
            exact this
          clear HZ
          have hne' : ∀ w, Sem.run Tryz.prog (binOp .neq 101 (.agg #[.int .i64 xa, .int .i64 xb, .int .i64 xc, .int .i64 xd]) (.agg #[.int .i64 ya, .int .i64 yb, .int .i64 yc, .int .i64 yd])) w = .ok (.bool true) w := fun w => by
            have := neq28.1 ⟨xa, xb, xc, xd⟩ ⟨ya, yb, yc, yd⟩ w
            simp only [hd] at this
            exact this
          have hgd' : ∀ (op : BinOp) (a b : Operand) (w : World), Sem.run Tryz.prog (eqGuard op 101 a b (.agg #[.int .i64 xa, .int .i64 xb, .int .i64 xc, .int .i64 xd]) (.agg #[.int .i64 ya, .int .i64 yb, .int .i64 yc, .int .i64 yd])) w = .ok () w := fun op a b w => neq28.2 op a b ⟨xa, xb, xc, xd⟩ ⟨ya, yb, yc, yd⟩ w
          clear hd
          go_wp2_with fail
          go_quiet (fail)
          go_wp2_with fail
          go_ret
          exact ⟨ret_bool HR.out, _, by rw [HW.out, World.drewN_drewN]⟩
        · have HZ2 : Hid (eqRc (A.drop (n + 1)) (B.drop (n + 1)) = T) := by
            have := HZ.out
            simp only [hd, Bool.true_and] at this
            exact this
          clear HZ
          have hne' : ∀ w, Sem.run Tryz.prog (binOp .neq 101 (.agg #[.int .i64 xa, .int .i64 xb, .int .i64 xc, .int .i64 xd]) (.agg #[.int .i64 ya, .int .i64 yb, .int .i64 yc, .int .i64 yd])) w = .ok (.bool false) w := fun w => by
            have := neq28.1 ⟨xa, xb, xc, xd⟩ ⟨ya, yb, yc, yd⟩ w
            simp only [hd] at this
            exact this
          have hgd' : ∀ (op : BinOp) (a b : Operand) (w : World), Sem.run Tryz.prog (eqGuard op 101 a b (.agg #[.int .i64 xa, .int .i64 xb, .int .i64 xc, .int .i64 xd]) (.agg #[.int .i64 ya, .int .i64 yb, .int .i64 yc, .int .i64 yd])) w = .ok () w := fun op a b w => neq28.2 op a b ⟨xa, xb, xc, xd⟩ ⟨ya, yb, yc, yd⟩ w
          clear hd
          go_wp2_with fail
          go_quiet (fail)
          go_wp2_with fail
          go_roundw
          case rel => exact ⟨n + 1, by omega, by go_num, ⟨_, by rw [HW.out, World.drewN_drewN]⟩, HZ2⟩
          case measure => simp [intOf]; omega
      · have hlt' : ¬ (n : Int) < (A.length : Int) := by omega
        have HR : Hid (true = T) := by
          have := HZ.out
          rw [List.drop_eq_nil_of_le (by omega), List.drop_eq_nil_of_le (by omega)] at this
          exact this
        clear HZ
        go_wp2_with fail
        go_ret
        exact ⟨ret_bool HR.out, q, HW.out⟩
  · have hl' : ((A.length : Int) != (B.length : Int)) = true := by simp; omega
    have HR : Hid (false = T) := by show _ = _; rw [← HT.out, eqRc_len hl]
    go_enter Tryz.func96, Tryz.ntmps96
    go_wp2
    go_ret
    exact ⟨ret_bool HR.out, 0, rfl⟩
theorem eqR_any (va vb : Value) (A B : List Rg.Rc) (w : World) (ha : Sl rc 4 w va A) (hb : Sl rc 4 w vb B) (hA : A.length ≤ 1000000000000) (hB : B.length ≤ 1000000000000) : Calls Tryz.prog 96 #[va, vb] w fun e w' => e = .returned (.bool (eqRc A B)) ∧ Q w w' :=
  (eqR_any_q va vb A B w ha hb hA hB).mono fun _ _ ⟨he, m, hm⟩ => ⟨he, by rw [hm]; exact (Q.refl _).drewN _⟩
structure Bv where
  f : Int
  t : Int
  v : Value
def bv (x : Bv) : List Value := [.int .i64 x.f, .int .i64 x.t, x.v]
theorem bv_len (x : Bv) : (bv x).length = 3 := rfl
theorem info43 : (Tryz.prog.info? 163).map (fun i => (i.zero, i.size, i.bytes)) = some (some (.agg #[.int .i64 0, .int .i64 0, .slice none 0 0]), 3, 40) := by kernel_rfl
def Hold (B : Nat) (W : World) : List Bv → List Rg.Bd → Prop
  | [], [] => True
  | x :: O, b :: D => (x.f = b.f ∧ x.t = b.t ∧ Own sp 160 2 B W x.v b.cs) ∧ Hold B W O D
  | [], _ :: _ => False
  | _ :: _, [] => False
theorem Hold.len {B : Nat} {W : World} : ∀ {O : List Bv} {D : List Rg.Bd}, Hold B W O D → O.length = D.length
  | [], [], _ => rfl
  | _ :: O, _ :: D, h => by rw [List.length_cons, List.length_cons, h.2.len]
theorem Hold.imp {B : Nat} {W W' : World} (h : ∀ v cs, Own sp 160 2 B W v cs → Own sp 160 2 B W' v cs) : ∀ {O : List Bv} {D : List Rg.Bd}, Hold B W O D → Hold B W' O D
  | [], [], _ => trivial
  | _ :: _, _ :: _, ⟨⟨h1, h2, h3⟩, h4⟩ => ⟨⟨h1, h2, h _ _ h3⟩, h4.imp h⟩
theorem Hold.mono {B B' : Nat} {W : World} (hB : B' ≤ B) : ∀ {O : List Bv} {D : List Rg.Bd}, Hold B W O D → Hold B' W O D
  | [], [], _ => trivial
  | _ :: _, _ :: _, ⟨⟨h1, h2, h3⟩, h4⟩ => ⟨⟨h1, h2, h3.mono hB⟩, h4.mono hB⟩
theorem Hold.on {B : Nat} {W W' : World} {O : List Bv} {D : List Rg.Bd} (h : Hold B W O D) (q : Q W W') : Hold B W' O D := h.imp fun _ _ h => h.on q
theorem Hold.snoc {B : Nat} {W : World} {f t : Int} {v : Value} {cs : List Rg.Sp} (hv : Own sp 160 2 B W v cs) : ∀ {O : List Bv} {D : List Rg.Bd}, Hold B W O D → Hold B W (O ++ [⟨f, t, v⟩]) (D ++ [⟨f, t, cs⟩])
  | [], [], _ => ⟨⟨rfl, rfl, hv⟩, trivial⟩
  | _ :: _, _ :: _, ⟨h1, h4⟩ => ⟨h1, Hold.snoc hv h4⟩
theorem Hold.last {B : Nat} {W : World} {cur : Rg.Bd} : ∀ {D : List Rg.Bd} {O : List Bv}, Hold B W O (D ++ [cur]) → ∃ O0 x, O = O0 ++ [x] ∧ Hold B W O0 D ∧ x.f = cur.f ∧ x.t = cur.t ∧ Own sp 160 2 B W x.v cur.cs
  | [], x :: O, ⟨⟨h1, h2, h3⟩, h4⟩ => by
    cases O with
    | nil => exact ⟨[], x, rfl, trivial, h1, h2, h3⟩
    | cons _ _ => exact h4.elim
  | b :: D, x :: O, ⟨h1, h4⟩ => by
    obtain ⟨O0, y, rfl, h5, h6⟩ := Hold.last h4
    exact ⟨x :: O0, y, rfl, ⟨h1, h5⟩, h6⟩
theorem Hold.get {B : Nat} {W : World} : ∀ {O : List Bv} {D : List Rg.Bd} (h : Hold B W O D) (i : Nat) (hi : i < O.length) (hj : i < D.length), O[i].f = D[i].f ∧ O[i].t = D[i].t ∧ Own sp 160 2 B W O[i].v D[i].cs
  | x :: O, b :: D, h, 0, _, _ => h.1
  | x :: O, b :: D, h, i + 1, hi, hj => Hold.get h.2 i (by simpa using hi) (by simpa using hj)
theorem ne43 {B B' : Nat} {W : World} {o v : Value} {O : List Bv} {cs : List Rg.Sp} (h : Own bv 163 3 B' W o O) (hv : Own sp 160 2 B W v cs) : v.ownBlock = none ∨ v.ownBlock ≠ o.ownBlock := own_ne hv h (by decide)
theorem Hold.grown {B B' : Nat} {W W' : World} {o : Value} {O : List Bv} {P : List Bv} {D : List Rg.Bd} (h : Hold B W O D) (ho : Own bv 163 3 B' W o P) (g : W.grownBy W' o.ownBlock) : Hold B W' O D := h.imp fun _ _ hv => hv.grown g (ne43 ho hv)
theorem Hold.set {B B' : Nat} {W : World} {g cap n j : Nat} {u : Value} {O : List Bv} {P : List Bv} {D : List Rg.Bd} (h : Hold B W O D) (ho : Own bv 163 3 B' W (.slice (some ⟨g, 0, none⟩) n cap) P) : Hold B (W.setCell ⟨g, j, none⟩ u) O D := h.imp fun v _ hv => by
  refine ownsRow_setCell_other hv (a := ⟨g, j, none⟩) ?_ u
  rcases ne43 ho hv with h | h
  · rw [h]; exact fun e => by cases e
  · exact h
def BI (cs : Int → List Rg.Sp) (G : List Int) (n : Nat) (D T : List Rg.Bd) : Prop :=
  (n = 1 ∧ D = [] ∧ Rg.bandsP cs G = T) ∨ ∃ D0 cur, D = D0 ++ [cur] ∧ 2 ≤ n ∧ G[n - 1]? = some cur.t ∧ D0 ++ Rg.grp true cs cur (G.drop n) = T
theorem bi_first {cs : Int → List Rg.Sp} {G : List Int} {T : List Rg.Bd} (h : 1 < G.length) (hT : Rg.bandsP cs G = T) : BI cs G 2 ([] ++ [⟨G[0], G[1], cs G[0]⟩]) T := by
  match G, h with
  | g :: h :: l, _ =>
    rw [Rg.bandsP] at hT
    exact .inr ⟨[], _, rfl, Nat.le_refl _, rfl, hT⟩
theorem bi_on {cs : Int → List Rg.Sp} {G : List Int} {n : Nat} {D0 : List Rg.Bd} {cur : Rg.Bd} {T : List Rg.Bd} (hn : n < G.length) (h2 : 2 ≤ n) (hT : D0 ++ Rg.grp true cs cur (G.drop n) = T) (he : Rg.eqL cur.cs (cs cur.t) = true) : BI cs G (n + 1) (D0 ++ [⟨cur.f, G[n], cur.cs⟩]) T := by
  rw [List.drop_eq_getElem_cons hn, Rg.grp, Rg.same, he] at hT
  exact .inr ⟨D0, _, rfl, by omega, by simp [hn], by simpa using hT⟩
theorem bi_new {cs : Int → List Rg.Sp} {G : List Int} {n : Nat} {D0 : List Rg.Bd} {cur : Rg.Bd} {T : List Rg.Bd} (hn : n < G.length) (h2 : 2 ≤ n) (hT : D0 ++ Rg.grp true cs cur (G.drop n) = T) (he : Rg.eqL cur.cs (cs cur.t) = false) : BI cs G (n + 1) ((D0 ++ [cur]) ++ [⟨cur.t, G[n], cs cur.t⟩]) T := by
  rw [List.drop_eq_getElem_cons hn, Rg.grp, Rg.same, he] at hT
  exact .inr ⟨D0 ++ [cur], _, rfl, by omega, by simp [hn], by simpa using hT⟩
theorem bi_end {cs : Int → List Rg.Sp} {G : List Int} {n : Nat} {D T : List Rg.Bd} (h : BI cs G n D T) (hn : G.length ≤ n) : D = T := by
  rcases h with ⟨rfl, rfl, h⟩ | ⟨D0, cur, rfl, _, _, h⟩
  · rw [← h]
    match G, hn with
    | [], _ => rfl
    | [g], _ => rfl
  · rw [List.drop_eq_nil_of_le hn] at h
    exact h
set_option maxHeartbeats 4000000 in
theorem eqList_any (va vb : Value) (A B : List Rg.Rc) (w : World) (ha : Sl rc 4 w va A) (hb : Sl rc 4 w vb B) (hA : A.length ≤ 1000000000000) (hB : B.length ≤ 1000000000000) : Calls Tryz.prog 35 #[va, vb] w fun e w' => e = .returned (.bool (eqRc A B)) ∧ Q w w' := by
  have HA := hid ha
  have HB := hid hb
  obtain ⟨ao, cap, rfl, _, _⟩ := ha.len
  obtain ⟨ao2, cap2, rfl, _, _⟩ := hb.len
  clear ha hb
  generalize hT : eqRc A B = T
  have HT := hid hT
  clear hT
  by_cases hl : A.length = B.length
  · have hl' : ((A.length : Int) != (B.length : Int)) = false := by simp [hl]
    have HL := hid hl
    clear hl
    go_enter Tryz.func35, Tryz.ntmps35
    go_wp2
    clear hl'
    go_loopw [5] (fun s W => ∃ (n : Nat), n ≤ A.length ∧ s = .int .i64 n ∧ Q w W ∧ Hid (eqRc (A.drop n) (B.drop n) = T)) (fun s _ => A.length - (intOf s).toNat)
    case atStart => exact ⟨0, Nat.zero_le _, rfl, Q.refl _, by rw [List.drop_zero, List.drop_zero]; exact HT.out⟩
    case round =>
      obtain ⟨n, hn, rfl, hq, HZ⟩ := hrel
      have HQ := hid hq
      clear hq
      by_cases hlt : n < A.length
      · have hlt' : (n : Int) < (A.length : Int) := by omega
        have hltB : n < B.length := by have := HL.out; omega
        have hlt2 : (n : Int) < (B.length : Int) := by omega
        obtain ⟨g, off, cap', e, _, _, hc⟩ := (HA.out.on HQ.out).at hlt
        cases e
        obtain ⟨g2, off2, cap3, e, _, _, hc2⟩ := (HB.out.on HQ.out).at hltB
        cases e
        rw [List.drop_eq_getElem_cons hlt, List.drop_eq_getElem_cons hltB, eqRc] at HZ
        generalize A[n] = x at *
        generalize B[n] = y at *
        obtain ⟨xa, xb, xc, xd⟩ := x
        obtain ⟨ya, yb, yc, yd⟩ := y
        simp only at HZ
        have c0 : wr.cell? ⟨g, off + n * 4, none⟩ = some (.int .i64 xa) := hc 0 _ rfl
        have c1 : wr.cell? ⟨g, off + n * 4 + 1, none⟩ = some (.int .i64 xb) := hc 1 _ rfl
        have c2 : wr.cell? ⟨g, off + n * 4 + 2, none⟩ = some (.int .i64 xc) := hc 2 _ rfl
        have c3 : wr.cell? ⟨g, off + n * 4 + 3, none⟩ = some (.int .i64 xd) := hc 3 _ rfl
        have d0 : wr.cell? ⟨g2, off2 + n * 4, none⟩ = some (.int .i64 ya) := hc2 0 _ rfl
        have d1 : wr.cell? ⟨g2, off2 + n * 4 + 1, none⟩ = some (.int .i64 yb) := hc2 1 _ rfl
        have d2 : wr.cell? ⟨g2, off2 + n * 4 + 2, none⟩ = some (.int .i64 yc) := hc2 2 _ rfl
        have d3 : wr.cell? ⟨g2, off2 + n * 4 + 3, none⟩ = some (.int .i64 yd) := hc2 3 _ rfl
        clear hc hc2
        by_cases h0 : xa = ya
        · by_cases h1 : xb = yb
          · by_cases h2 : xc = yc
            · by_cases h3 : xd = yd
              · have HZ2 : Hid (eqRc (A.drop (n + 1)) (B.drop (n + 1)) = T) := by
                  have := HZ.out
                  simp only [h0, h1, h2, h3, and_self, decide_true, Bool.true_and] at this
                  exact this
                clear HZ
                have n0 : (xa != ya) = false := by simpa using h0
                have n1 : (xb != yb) = false := by simpa using h1
                have n2 : (xc != yc) = false := by simpa using h2
                have n3 : (xd != yd) = false := by simpa using h3
                clear h0 h1 h2 h3
                go_wp2_with fail
                go_quiet (fail)
                go_wp2_with fail
                go_roundw
                case rel => exact ⟨n + 1, by omega, by go_num, HQ.out.drewN _, HZ2⟩
                case measure => simp [intOf]; omega
              · have HR : Hid (false = T) := by
                  have := HZ.out
                  simp only [h3, and_false, false_and, decide_false, Bool.false_and] at this
                  exact this
                clear HZ
                have n0 : (xa != ya) = false := by simpa using h0
                have n1 : (xb != yb) = false := by simpa using h1
                have n2 : (xc != yc) = false := by simpa using h2
                have n3 : (xd != yd) = true := by simpa using h3
                clear h0 h1 h2 h3
                go_wp2_with fail
                go_quiet (fail)
                go_wp2_with fail
                go_ret
                exact ⟨ret_bool HR.out, HQ.out.drewN _⟩
            · have HR : Hid (false = T) := by
                have := HZ.out
                simp only [h2, and_false, false_and, decide_false, Bool.false_and] at this
                exact this
              clear HZ
              have n0 : (xa != ya) = false := by simpa using h0
              have n1 : (xb != yb) = false := by simpa using h1
              have n2 : (xc != yc) = true := by simpa using h2
              clear h0 h1 h2
              go_wp2_with fail
              go_quiet (fail)
              go_wp2_with fail
              go_ret
              exact ⟨ret_bool HR.out, HQ.out.drewN _⟩
          · have HR : Hid (false = T) := by
              have := HZ.out
              simp only [h1, and_false, false_and, decide_false, Bool.false_and] at this
              exact this
            clear HZ
            have n0 : (xa != ya) = false := by simpa using h0
            have n1 : (xb != yb) = true := by simpa using h1
            clear h0 h1
            go_wp2_with fail
            go_quiet (fail)
            go_wp2_with fail
            go_ret
            exact ⟨ret_bool HR.out, HQ.out.drewN _⟩
        · have HR : Hid (false = T) := by
            have := HZ.out
            simp only [h0, and_false, false_and, decide_false, Bool.false_and] at this
            exact this
          clear HZ
          have n0 : (xa != ya) = true := by simpa using h0
          clear h0
          go_wp2_with fail
          go_quiet (fail)
          go_wp2_with fail
          go_ret
          exact ⟨ret_bool HR.out, HQ.out.drewN _⟩
      · have hlt' : ¬ (n : Int) < (A.length : Int) := by omega
        have HR : Hid (true = T) := by
          have := HZ.out
          rw [List.drop_eq_nil_of_le (by omega), List.drop_eq_nil_of_le (by have := HL.out; omega)] at this
          exact this
        clear HZ
        go_wp2_with fail
        go_ret
        exact ⟨ret_bool HR.out, HQ.out⟩
  · have hl' : ((A.length : Int) != (B.length : Int)) = true := by simp; omega
    have HR : Hid (false = T) := by show _ = _; rw [← HT.out, eqRc_len hl]
    go_enter Tryz.func35, Tryz.ntmps35
    go_wp2
    go_ret
    exact ⟨ret_bool HR.out, Q.refl _⟩
end Go.Proofs.YtcgddnliiondoaaGreatDoor.R
