/- Lists of operations; op.Batch; What the statements of layer 10 begin with; op.Batch, opcode's writer of batches, Encode: over what op.May answers and what the writer writes of each operation; The read. -/
import Derived.Test.YtcgddnliiondoaaGreatDoorKo17
import Derived.Test.YtcgddnliiondoaaGreatDoorKo00
import Derived.Test.YtcgddnliiondoaaGreatDoorKo03
import Derived.Test.YtcgddnliiondoaaGreatDoorKo02
import Derived.Test.YtcgddnliiondoaaGreatDoorKo15
import Derived.Shelf.Strconv.Itoa4
import Derived.Test.YtcgddnliiondoaaGreatDoorProg
import Derived.Deep.RegionHeld3
import Derived.Deep.CutBlock
import Derived.Deep.CutRange
import Derived.BigQuiet
import Derived.Test.YtcgddnliiondoaaGreatDoorKo06
import Derived.Test.YtcgddnliiondoaaGreatDoorKo13
import Derived.Test.YtcgddnliiondoaaGreatDoorKo12
import Derived.Test.YtcgddnliiondoaaGreatDoorRows
import Derived.WalkKit
import Derived.WalkSpells
import Derived.WalkLawsBesides
import Derived.Handy
import Derived.Laws.Bits64b
import Derived.Deep.RegionHeld
import Derived.Lib.TrimByte
import Derived.Lib.ItoaMem
import Derived.Lib.ValidLaws
import Derived.BigRegion
import Derived.Shelf.Abstract
import Derived.Maps.AppendAt
import Derived.Great.BuildSlice
import Derived.Shelf.Bytes.SlEqualAll
import Derived.Deep.AppendLies
set_option linter.unusedVariables false
set_option linter.unusedSimpArgs false
set_option maxRecDepth 100000
set_option maxHeartbeats 8000000
namespace Go.Proofs.YtcgddnliiondoaaGreatDoor
open Go.RowKit
theorem Rv.len (x : Rv) : x.L.length = 23 := rfl
theorem Rv.one (x : Rv) : x.L.toArray.all (·.oneCell') = true := by
  cases x
  unfold Rv.L
  kernel_rfl
theorem Rv.ones (x : Rv) : ∀ u ∈ x.L, u.oneCell' = true := fun u hu => Array.all_eq_true_iff_forall_mem.1 x.one u (by simpa using hu)
def zero23 : Array Value := #[.int .i64 0, .string ⟨#[]⟩, .int .i64 0, .int .i64 0, .bool false, .int .i64 0, .int .i64 0, .string ⟨#[]⟩, .bool false, .int .i64 0, .int .i64 0, .int .i64 0, .string ⟨#[]⟩, .bool false, .int .i64 0, .slice none 0 0, .slice none 0 0, .int .i64 0, .int .i64 0, .int .i64 0, .slice none 0 0, .int .i64 0, .string ⟨#[]⟩]
theorem wpl_lay (w : World) {ops : Array Oper} {rest : List Oper} {o : Oper} {a : Act} {Q : Exit → Act → World → Prop} (x y : Operand) (ho : o.op = .store 54 x y) (hgd : o.guard = none) (z : Rv)
    (hx : a.eval x = .pointer (some ⟨w.heap.size, 0, none⟩)) (hy : a.eval y = .agg z.L.toArray)
    {W : World} (hW : W = w.alloc (.cells zero23 54)) (h : wpList Tryz.prog ops Q rest (a.put o.dst undef) (w.alloc (.cells z.L.toArray 54))) : wpList Tryz.prog ops Q (o :: rest) a W := by
  subst hW
  refine wpList_store_row hgd 54 x y ho w.heap.size z.L.toArray hx hy 54 zero23 (heap_alloc_last w _) info35 rfl z.one ?_
  rw [World.setRow_alloc_new]
  exact h
theorem wpl_loadm {w : World} {ops : Array Oper} {rest : List Oper} {o : Oper} {a : Act} {Q : Exit → Act → World → Prop} (x : Operand) (ho : o.op = .load 54 x) (hw : Region.wanted o (yielded ops a.tmps) = true)
    (b off : Nat) (z : Rv) (hz : w.rangeAt b off z.L) (hx : a.eval x = .pointer (some ⟨b, off, none⟩))
    (h : wpList Tryz.prog ops Q rest (a.put o.dst (.agg z.L.toArray)) w) : wpList Tryz.prog ops Q (o :: rest) a w := by
  simp only [wpList, hw, if_true]
  exact .inl (wp_load_mid 54 x ho b off hx z.L _ hz Tryz.underlying54 rfl info35 h)
theorem all_no' {xs : List Rv} {mb : Rv → Bool} {n : Nat} (h : n < xs.length) (hm : mb xs[n] = false) : xs.all mb = false := by
  rw [List.all_eq_false]
  exact ⟨_, List.getElem_mem h, by simp [hm]⟩
theorem all_succ {xs : List Rv} {mb : Rv → Bool} {n : Nat} (h : n < xs.length) (hm : mb xs[n] = true) (ha : (xs.take n).all mb = true) : (xs.take (n + 1)).all mb = true := by
  rw [List.take_succ_eq_append_getElem h, List.all_append, ha]
  simp [hm]
theorem info35x : (Tryz.prog.info? 54).map (fun i => (i.zero, i.size)) = some (some (.agg zero23), 23) := by kernel_rfl
theorem wpl_bsl {w : World} {ops : Array Oper} {rest : List Oper} {o : Oper} {a : Act} {Q : Exit → Act → World → Prop} (len : Nat) (parts : Array (Nat × Operand)) (ho : o.op = .buildSlice 22 len parts) (hw : Region.wanted o (yielded ops a.tmps) = true)
    (xs : List Rv) (hl : 0 < len ∧ len ≤ 1000)
    (hf : Instr.fill (fun i => some (i * 23, 23)) ((Array.range (len * 23)).map (zero23[· % zero23.size]!)) (parts.map fun (i, x) => (i, a.eval x)).toList = some (flat Rv.L xs).toArray)
    (h : wpList Tryz.prog ops Q rest (a.put o.dst (.slice (some ⟨w.heap.size, 0, none⟩) len len)) (w.alloc (.cells (flat Rv.L xs).toArray 54))) : wpList Tryz.prog ops Q (o :: rest) a w := by
  simp only [wpList, hw, if_true]
  cases hq : Tryz.prog.info? 54 with
  | none =>
    have hx := info35x
    rw [hq] at hx
    cases hx
  | some ie =>
    have hx := info35x
    rw [hq] at hx
    simp only [Option.map_some, Option.some.injEq, Prod.mk.injEq] at hx
    obtain ⟨hz, hs⟩ := hx
    refine .inl (wp_buildSlice 22 54 len parts ho (flat Rv.L xs).toArray ie (.agg zero23) Tryz.underlying22 hq hz (by rw [hs]; omega) (by rw [hs]; omega) ?_ h)
    rw [hs]
    exact hf
theorem sl_lit23 (W : World) (xs : List Rv) (hl : xs.length ≤ 1000) : Sl Rv.L 23 (W.alloc (.cells (flat Rv.L xs).toArray 54)) (.slice (some ⟨W.heap.size, 0, none⟩) xs.length xs.length) xs := by
  refine ⟨some ⟨W.heap.size, 0, none⟩, xs.length, rfl, Nat.le_refl _, by unfold maxLen; omega, fun _ => ⟨W.heap.size, 0, rfl, fun i hi j u hu => ?_⟩⟩
  have hj : j < 23 := (List.getElem?_eq_some_iff.1 hu).1
  rw [World.cell?_alloc_at _ _ _ _ rfl]
  rw [← hu, ← flat_at Rv.L Rv.len xs i hi j hj]
  simp
set_option maxHeartbeats 4000000 in
theorem batch_any (v : Value) (xs : List Rv) (mb : Rv → Bool) (w : World) (h : Sl Rv.L 23 w v xs) (ho : ∀ x ∈ xs, ∀ V, Q w V → Calls Tryz.prog 37 #[.agg x.L.toArray] V fun e V' => e = .returned (.bool (mb x)) ∧ Q V V') : Calls Tryz.prog 21 #[v] w fun e V' => e = .returned (.bool (decide (xs.length ≤ 32) && xs.all mb)) ∧ Q w V' := by
  have HS := hid h
  have HO := hid ho
  obtain ⟨ao, cap, rfl, h1, h2⟩ := h.len
  clear h ho
  have h3 : xs.length ≤ 9223372036854775807 := Nat.le_trans h1 (by unfold maxLen at h2; omega)
  by_cases h32 : (32 : Int) < (xs.length : Int)
  · have HR : Hid ((decide (xs.length ≤ 32) && xs.all mb) = false) := hid (by rw [decide_eq_false (by omega)]; rfl)
    generalize (decide (xs.length ≤ 32) && xs.all mb) = r at HR ⊢
    go_enter Tryz.func21, Tryz.ntmps21
    go_wp2_with fail
    go_ret
    exact ⟨ret_bool HR.out.symm, Q.refl _⟩
  · have HR : Hid ((decide (xs.length ≤ 32) && xs.all mb) = xs.all mb) := hid (by rw [decide_eq_true (by omega)]; rfl)
    generalize (decide (xs.length ≤ 32) && xs.all mb) = r at HR ⊢
    go_enter Tryz.func21, Tryz.ntmps21
    go_wp2_with fail
    go_loopw [10] (fun s W => ∃ (n : Nat), n ≤ xs.length ∧ s = .int .i64 n ∧ Hid ((xs.take n).all mb = true) ∧ Q w W) (fun s _ => xs.length - (intOf s).toNat)
    case atStart => exact ⟨0, Nat.zero_le _, rfl, hid rfl, Q.refl _⟩
    case round =>
      obtain ⟨n, hn, rfl, ha, hq⟩ := hrel
      have HQ := hid hq
      clear hq
      by_cases hlt : n < xs.length
      · have hlt' : (n : Int) < (xs.length : Int) := by omega
        obtain ⟨g, off, cap', e, _, _, hc⟩ := (HS.out.on HQ.out).at hlt
        cases e
        have HX := hid (HO.out _ (List.getElem_mem hlt))
        have HRg : Hid (wr.rangeAt g (off + n * 23) (xs[n]).L) := hid (fun j u hu => hc j u hu)
        have HYes := hid (fun hm => all_succ hlt hm ha.out)
        have HNo := hid (fun hm => all_no' (mb := mb) hlt hm)
        clear hc
        generalize xs[n] = x at HX HRg HYes HNo
        cases hm : mb x
        · have HN := hid (HNo.out hm)
          rw [hm] at HX
          clear HYes HNo hm
          go_wp2_with (first
            | (with_reducible refine wpl_loadm _ (by with_unfolding_all rfl) (by with_unfolding_all rfl) g (off + n * 23) x (by with_unfolding_all exact HRg.out) (by with_unfolding_all rfl) ?_)
            | (with_reducible refine wpl_lay wr _ _ (by with_unfolding_all rfl) (by with_unfolding_all rfl) x (by with_unfolding_all rfl) (by with_unfolding_all rfl) (by with_unfolding_all rfl) ?_)
            | (with_reducible refine wpl_loadg _ (by with_unfolding_all rfl) (by with_unfolding_all rfl) wr.heap.size (by with_unfolding_all rfl) x.L (by with_unfolding_all exact cq_new wr x.L) (by with_unfolding_all rfl) ?_)
            | (go_at_call 37; refine (HX.out _ (HQ.out.alloc _)).mono ?_; rintro e9 y1 ⟨rfl, q9⟩; have QY : Hid (Q w y1) := hid ((HQ.out.alloc _).trans q9); clear q9))
          go_ret
          exact ⟨ret_bool (by rw [HR.out, HN.out]), QY.out⟩
        · have HN := hid (HYes.out hm)
          rw [hm] at HX
          clear HYes HNo hm
          go_wp2_with (first
            | (with_reducible refine wpl_loadm _ (by with_unfolding_all rfl) (by with_unfolding_all rfl) g (off + n * 23) x (by with_unfolding_all exact HRg.out) (by with_unfolding_all rfl) ?_)
            | (with_reducible refine wpl_lay wr _ _ (by with_unfolding_all rfl) (by with_unfolding_all rfl) x (by with_unfolding_all rfl) (by with_unfolding_all rfl) (by with_unfolding_all rfl) ?_)
            | (with_reducible refine wpl_loadg _ (by with_unfolding_all rfl) (by with_unfolding_all rfl) wr.heap.size (by with_unfolding_all rfl) x.L (by with_unfolding_all exact cq_new wr x.L) (by with_unfolding_all rfl) ?_)
            | (go_at_call 37; refine (HX.out _ (HQ.out.alloc _)).mono ?_; rintro e9 y1 ⟨rfl, q9⟩; have QY : Hid (Q w y1) := hid ((HQ.out.alloc _).trans q9); clear q9))
          go_roundw
          case rel => exact ⟨n + 1, by omega, by go_num, HN, QY.out⟩
          case measure => simp [intOf]; omega
      · have HN : Hid (xs.all mb = true) := by
          show _ = _
          have := ha.out
          rw [List.take_of_length_le (by omega)] at this
          exact this
        go_wp2_with fail
        go_ret
        exact ⟨ret_bool (by rw [HR.out, HN.out]), HQ.out⟩
def eb (b : UInt8) : List Value := [.int .u8 b.toNat]
theorem eb_len (b : UInt8) : (eb b).length = 1 := rfl
theorem flat_eb (L : List UInt8) : flat eb L = bc L := by
  induction L with
  | nil => rfl
  | cons x L ih => rw [flat_cons, ih]; rfl
theorem fm_bound {ob : Rv → List UInt8} {xs : List Rv} (h : ∀ x ∈ xs, (ob x).length ≤ 10000) : (xs.flatMap ob).length ≤ xs.length * 10000 := by
  induction xs with
  | nil => simp
  | cons x xs ih =>
    have h1 := h x (by simp)
    have h2 := ih (fun y hy => h y (by simp [hy]))
    simp only [List.flatMap_cons, List.length_append, List.length_cons]
    omega
theorem fm_take {ob : Rv → List UInt8} {xs : List Rv} {n : Nat} (h : n < xs.length) : (xs.take (n + 1)).flatMap ob = (xs.take n).flatMap ob ++ ob xs[n] := by
  rw [List.take_succ_eq_append_getElem h, List.flatMap_append]
  simp
def WOp (w0 : World) (p : Nat) (x : Rv) (bs : List UInt8) : Prop := ∀ L V, Q w0 V → Wr p L V → L.length ≤ 100000000 → Calls Tryz.prog 39 #[.pointer (some ⟨p, 0, none⟩), .agg x.L.toArray] V fun e V' => e = .returned (.tuple #[]) ∧ Wr p (L ++ bs) V' ∧ Ww p V V'
set_option maxHeartbeats 4000000 in
theorem wbatch_any (v : Value) (xs : List Rv) (ob : Rv → List UInt8) (w0 w : World) (p : Nat) (h : Sl Rv.L 23 w0 v xs) (hq0 : Q w0 w) (hp : w0.heap.size ≤ p) (hw : Wr p [] w) (hl : xs.length ≤ 1000) (hob : ∀ x ∈ xs, (ob x).length ≤ 10000) (ho : ∀ x ∈ xs, WOp w0 p x (ob x)) :
    Calls Tryz.prog 22 #[.pointer (some ⟨p, 0, none⟩), v] w fun e W' => e = .returned (.tuple #[]) ∧ Wr p (vn xs.length ++ xs.flatMap ob) W' ∧ Ww p w W' := by
  have HS := hid h
  have HQ0 := hid hq0
  have HO := hid ho
  have HOB := hid hob
  have HC := hid (wcount_any p xs.length [] w (by omega) hw (by simp))
  have HP := hid hp
  have HPL := hid hw.lt
  obtain ⟨ao, cap, rfl, h1, h2⟩ := h.len
  clear h hq0 ho hob hw hp
  have h3 : xs.length ≤ 9223372036854775807 := by omega
  go_enter Tryz.func22, Tryz.ntmps22
  go_upto_region 1 with (go_at_call 38; refine HC.out.mono ?_; rintro e9 w1 ⟨rfl, hw9, hq9⟩; have HW := hid hw9; have HQ := hid hq9; clear hw9 hq9)
  go_wp2_with fail
  go_loopw [12] (fun s W => ∃ (n : Nat), n ≤ xs.length ∧ s = .int .i64 n ∧ Hid (Wr p (vn xs.length ++ (xs.take n).flatMap ob) W) ∧ Hid (Ww p w W)) (fun s _ => xs.length - (intOf s).toNat)
  case atStart => exact ⟨0, Nat.zero_le _, rfl, by simpa using HW, HQ⟩
  case round =>
    obtain ⟨n, hn, rfl, hw9, hq9⟩ := hrel
    clear HW HQ
    have HW := hw9
    have HQ := hq9
    clear hw9 hq9
    have HQ1 : Hid (Q w0 wr) := hid (HQ.out.q HQ0.out HP.out)
    by_cases hlt : n < xs.length
    · have hlt' : (n : Int) < (xs.length : Int) := by omega
      obtain ⟨g, off, cap', e, _, _, hc⟩ := (HS.out.on HQ1.out).at hlt
      cases e
      have HX := hid (HO.out _ (List.getElem_mem hlt))
      have HRg : Hid (wr.rangeAt g (off + n * 23) (xs[n]).L) := hid (fun j u hu => hc j u hu)
      have HT := hid (fm_take (ob := ob) hlt)
      have HLN : Hid ((vn xs.length ++ (xs.take n).flatMap ob).length ≤ 100000000) := hid (by
        have a1 := vn_len xs.length
        have a2 := fm_bound (ob := ob) (xs := xs.take n) (fun x hx => HOB.out x (List.mem_of_mem_take hx))
        have a3 : (xs.take n).length ≤ 1000 := by simp; omega
        simp only [List.length_append]
        omega)
      clear hc
      generalize xs[n] = x at HX HRg HT
      have HPS : Hid (p ≤ wr.heap.size) := hid (Nat.le_of_lt HW.out.lt)
      go_wp2_with (first
        | (with_reducible refine wpl_loadm _ (by with_unfolding_all rfl) (by with_unfolding_all rfl) g (off + n * 23) x (by with_unfolding_all exact HRg.out) (by with_unfolding_all rfl) ?_)
        | (with_reducible refine wpl_lay wr _ _ (by with_unfolding_all rfl) (by with_unfolding_all rfl) x (by with_unfolding_all rfl) (by with_unfolding_all rfl) (by with_unfolding_all rfl) ?_)
        | (with_reducible refine wpl_loadg _ (by with_unfolding_all rfl) (by with_unfolding_all rfl) wr.heap.size (by with_unfolding_all rfl) x.L (by with_unfolding_all exact cq_new wr x.L) (by with_unfolding_all rfl) ?_)
        | (go_at_call 39; refine (HX.out _ _ (HQ1.out.alloc _) (HW.out.on ((Q.refl _).alloc _)) HLN.out).mono ?_; rintro e9 y1 ⟨rfl, hw9, hq9⟩; have HW2 := hid hw9; have HQ2 := hid (HQ.out.trans ((Ww.of ((Q.refl _).alloc _) HPS.out).trans hq9)); clear hw9 hq9))
      go_roundw
      case rel => exact ⟨n + 1, by omega, by go_num, hid (by rw [HT.out, ← List.append_assoc]; exact HW2.out), HQ2⟩
      case measure => simp [intOf]; omega
    · have HN : Hid ((xs.take n).flatMap ob = xs.flatMap ob) := hid (by rw [List.take_of_length_le (by omega)])
      go_wp2_with fail
      go_end0
      exact ⟨rfl, HN.out ▸ HW.out, HQ.out⟩
def EncP (w : World) (ok : Bool) (bs : List UInt8) (e : Ending) (W' : World) : Prop := Q w W' ∧ (ok = true → ∃ vb, e = .returned (.tuple #[vb, .int .i64 0]) ∧ Sl eb 1 W' vb bs) ∧ (ok = false → e = .returned (.tuple #[.slice none 0 0, .int .i64 4]))
theorem wr_new (W : World) : Wr W.heap.size [] (W.alloc (.cells #[.slice none 0 0] 59)) := ⟨.slice none 0 0, heap_alloc_last W _, World.ownsRow_nil _ _ _ _⟩
set_option maxHeartbeats 4000000 in
theorem encode_any (v : Value) (xs : List Rv) (mb : Rv → Bool) (ob : Rv → List UInt8) (w : World) (h : Sl Rv.L 23 w v xs) (hm : ∀ x ∈ xs, ∀ V, Q w V → Calls Tryz.prog 37 #[.agg x.L.toArray] V fun e V' => e = .returned (.bool (mb x)) ∧ Q V V') (hob : ∀ x ∈ xs, (ob x).length ≤ 10000) (ho : xs.all mb = true → ∀ x ∈ xs, ∀ p, w.heap.size ≤ p → WOp w p x (ob x)) :
    Calls Tryz.prog 10 #[v] w fun e W' => EncP w (decide (xs.length ≤ 32) && xs.all mb) (vn xs.length ++ xs.flatMap ob) e W' := by
  have HB := hid (batch_any v xs mb w h hm)
  have HS := hid h
  have HO := hid ho
  have HOB := hid hob
  obtain ⟨ao, cap, rfl, h1, h2⟩ := h.len
  clear h hm ho hob h1 h2
  cases hr : (decide (xs.length ≤ 32) && xs.all mb)
  · rw [hr] at HB
    clear hr
    go_enter Tryz.func10, Tryz.ntmps10
    go_wp2_with (go_at_call 21; refine HB.out.mono ?_; rintro e9 w1 ⟨rfl, hq9⟩; have HQ := hid hq9; clear hq9)
    go_ret2
    exact ⟨HQ.out, (fun e => absurd e Bool.false_ne_true), (fun _ => rfl)⟩
  · rw [hr] at HB
    simp only [Bool.and_eq_true, decide_eq_true_eq] at hr
    have HR := hid hr
    clear hr
    go_enter Tryz.func10, Tryz.ntmps10
    go_upto_region 4 with (go_at_call 21; refine HB.out.mono ?_; rintro e9 w1 ⟨rfl, hq9⟩; have HQ := hid hq9; clear hq9)
    have HW := hid (wr_new w1)
    have HP : Hid (w.heap.size ≤ w1.heap.size) := hid HQ.out.size
    have HQ2 := hid (HQ.out.alloc (.cells #[.slice none 0 0] 59))
    clear HQ
    generalize w1.alloc (.cells #[.slice none 0 0] 59) = w2 at HW HQ2 ⊢
    generalize w1.heap.size = p at HW HP ⊢
    have HC := hid (wbatch_any _ xs ob w w2 p HS.out HQ2.out HP.out HW.out (by have := HR.out.1; omega) HOB.out (fun x hx => HO.out HR.out.2 x hx p HP.out))
    go_upto_region 5 with (go_at_call 22; refine HC.out.mono ?_; rintro e9 w3 ⟨rfl, hw9, hq9⟩; have HW3 := hid hw9; have HQ3 := hid (hq9.q HQ2.out HP.out); clear hw9 hq9)
    obtain ⟨v, hbk, hown⟩ := HW3.out.h
    have c0 : w3.cell? ⟨p, 0, none⟩ = some v := by rw [Lib.cell_of_heap hbk]; rfl
    have HV : Hid (Sl eb 1 w3 v (vn xs.length ++ xs.flatMap ob)) := hid (Own.sl (e := 5) (B := p + 1) (by unfold Own; rw [flat_eb]; exact hown) eb_len (by decide))
    clear hown
    go_wp2_with fail
    go_ret2
    exact ⟨HQ3.out, (fun _ => ⟨v, rfl, HV.out⟩), (fun e => absurd e.symm Bool.false_ne_true)⟩
structure Rr (w0 : World) (r : Nat) (D : List UInt8) (W : World) : Prop where
  h : ∃ v nd, W.heap[r]? = some (.cells #[v, .int .i64 nd] 63 (0, 0)) ∧ Sl eb 1 w0 v D
theorem Rr.lt {w0 : World} {r : Nat} {D : List UInt8} {W : World} (h : Rr w0 r D W) : r < W.heap.size := by
  obtain ⟨v, nd, hb, _⟩ := h.h
  exact heap_of hb
theorem Rr.on {w0 : World} {r : Nat} {D : List UInt8} {W W' : World} (h : Rr w0 r D W) (q : Q W W') : Rr w0 r D W' := by
  obtain ⟨v, nd, hb, hs⟩ := h.h
  exact ⟨v, nd, (Q.block q (heap_of hb)).trans hb, hs⟩
theorem Rr.put {w0 : World} {r : Nat} {D : List UInt8} {W : World} {v v' : Value} {nd : Int} (hb : W.heap[r]? = some (.cells #[v, .int .i64 nd] 63 (0, 0))) (hs : Sl eb 1 w0 v' D) : Rr w0 r D (W.setCell ⟨r, 0, none⟩ v') ∧ Qx r W (W.setCell ⟨r, 0, none⟩ v') := by
  refine ⟨⟨v', nd, ?_, hs⟩, ⟨rfl, rfl, rfl, by simp, fun i hi hne => heap_setCell_other W _ i v' (fun e => hne (congrArg some e))⟩⟩
  rw [setCell_eq_setRow W r 0 _ _ _ v' hb, setRow_heap W r _ _ _ _ hb]
  rfl
theorem Qx.qq {r : Nat} {w0 W W' : World} (h : Qx r W W') (q : Q w0 W) (hr : w0.heap.size ≤ r) : Q w0 W' :=
  ⟨h.os.trans q.os, h.tape.trans q.tape, h.output.trans q.output, Nat.le_trans q.size h.size, fun i hi => (h.block i (Nat.lt_of_lt_of_le hi q.size) (fun e => by have := Option.some.inj e; omega)).trans (Q.block q hi)⟩
theorem Qx.cq {r q : Nat} {W W' : World} {cs : List Value} (h : Qx r W W') (hq : Cq W q cs) (hne : q ≠ r) : Cq W' q cs := ⟨(h.block q hq.l (fun e => hne (Option.some.inj e))).trans hq.h⟩
theorem nil_stop (w0 : World) : Sl eb 1 w0 (.slice none 0 0) [] := sl_nil w0
theorem run_from (W : World) (ao : Option Addr) (n cap k : Nat) (hk : k ≤ n) (hn : n ≤ cap) (hc : cap ≤ maxLen) : (Instr.sliceAt 25 (.slice ao n cap) (some (.int .i64 k)) none none).run Tryz.prog W = .ok (.slice (if cap = k then ao else ao.map (·.add k)) (n - k) (cap - k)) W := by
  have u25 := Tryz.underlying25
  have h1 : (cap : Int) ≤ 9223372036854775807 := by unfold maxLen at hc; omega
  have h2 : (k : Int) ≤ (n : Int) := by omega
  have h3 : (n : Int) ≤ (cap : Int) := by omega
  have h4 : (k : Int) ≤ (cap : Int) := by omega
  go_simp
theorem run_to (W : World) (ao : Option Addr) (n cap k : Nat) (hk : k ≤ n) (hn : n ≤ cap) (hc : cap ≤ maxLen) : (Instr.sliceAt 25 (.slice ao n cap) none (some (.int .i64 k)) none).run Tryz.prog W = .ok (.slice (if cap = 0 then ao else ao.map (·.add 0)) k cap) W := by
  have u25 := Tryz.underlying25
  have h1 : (cap : Int) ≤ 9223372036854775807 := by unfold maxLen at hc; omega
  have h2 : (k : Int) ≤ (n : Int) := by omega
  have h3 : (n : Int) ≤ (cap : Int) := by omega
  have h4 : (k : Int) ≤ (cap : Int) := by omega
  go_simp
theorem add_lit (g o k : Nat) : (⟨g, o, none⟩ : Addr).add k = ⟨g, o + k, none⟩ := by
  unfold Addr.add
  by_cases h : k = 0
  · subst h; simp
  · simp [h]
theorem cut_from {w0 : World} {ao : Option Addr} {n cap : Nat} {D : List UInt8} (h : Sl eb 1 w0 (.slice ao n cap) D) (k : Nat) (hk : k ≤ D.length) : Sl eb 1 w0 (.slice (if cap = k then ao else ao.map (·.add k)) (n - k) (cap - k)) (D.drop k) := by
  obtain ⟨ao', cap', hv, h1, h2, h⟩ := h
  cases hv
  refine ⟨_, _, by rw [List.length_drop], by rw [List.length_drop]; omega, by omega, fun hl => ?_⟩
  rw [List.length_drop] at hl
  obtain ⟨g, o, rfl, hc⟩ := h (by omega)
  refine ⟨g, o + k, ?_, fun i hi => ?_⟩
  · rw [if_neg (by omega)]
    show some ((⟨g, o, none⟩ : Addr).add k) = _
    rw [add_lit]
  · rw [List.length_drop] at hi
    have := hc (k + i) (by omega)
    rw [List.getElem_drop]
    rw [show o + k + i * 1 = o + (k + i) * 1 by omega]
    exact this
theorem cut_to {w0 : World} {ao : Option Addr} {n cap : Nat} {D : List UInt8} (h : Sl eb 1 w0 (.slice ao n cap) D) (k : Nat) (hk : k ≤ D.length) : Sl eb 1 w0 (.slice (if cap = 0 then ao else ao.map (·.add 0)) k cap) (D.take k) := by
  obtain ⟨ao', cap', hv, h1, h2, h⟩ := h
  cases hv
  refine ⟨_, _, by rw [List.length_take]; congr 1; omega, by rw [List.length_take]; omega, h2, fun hl => ?_⟩
  rw [List.length_take] at hl
  obtain ⟨g, o, rfl, hc⟩ := h (by omega)
  refine ⟨g, o, ?_, fun i hi => ?_⟩
  · rw [if_neg (by omega)]
    show some ((⟨g, o, none⟩ : Addr).add 0) = _
    rw [add_lit]
    rfl
  · rw [List.length_take] at hi
    rw [List.getElem_take]
    exact hc i (by omega)
theorem sl_from {w0 : World} {v : Value} {D : List UInt8} (h : Sl eb 1 w0 v D) (k : Nat) (hk : k ≤ D.length) : ∃ a c, Hid (∀ W, (Instr.sliceAt 25 v (some (.int .i64 k)) none none).run Tryz.prog W = .ok (.slice a (D.length - k) c) W) ∧ Sl eb 1 w0 (.slice a (D.length - k) c) (D.drop k) := by
  obtain ⟨ao, cap, rfl, h1, h2⟩ := h.len
  exact ⟨_, _, hid (fun W => run_from W ao D.length cap k hk h1 h2), cut_from h k hk⟩
theorem sl_to {w0 : World} {v : Value} {D : List UInt8} (h : Sl eb 1 w0 v D) (k : Nat) (hk : k ≤ D.length) : ∃ a c, Hid (∀ W, (Instr.sliceAt 25 v none (some (.int .i64 k)) none).run Tryz.prog W = .ok (.slice a k c) W) ∧ Sl eb 1 w0 (.slice a k c) (D.take k) := by
  obtain ⟨ao, cap, rfl, h1, h2⟩ := h.len
  exact ⟨_, _, hid (fun W => run_to W ao D.length cap k hk h1 h2), cut_to h k hk⟩
theorem or0 (c : Nat) (hc : c < 128 := by omega) : bits .or .u64 0 (c : Int) = (c : Int) := by
  unfold bits
  simp [IntKind.bits, IntKind.signed]
  refine (congrArg (fun x : BitVec 64 => IntKind.u64.wrap (x.toNat : Int)) (show (0#64 ||| BitVec.ofNat 64 c) = BitVec.ofNat 64 c from BitVec.zero_or)).trans ?_
  simp [IntKind.wrap, IntKind.bits, IntKind.signed]
  omega
set_option maxHeartbeats 2000000 in
theorem rstop_any (w0 : World) (r : Nat) (D : List UInt8) (w : World) (h : Rr w0 r D w) : Calls Tryz.prog 78 #[.pointer (some ⟨r, 0, none⟩)] w fun e W' => e = .returned (.tuple #[]) ∧ Rr w0 r [] W' ∧ Qx r w W' := by
  obtain ⟨v, nd, hb, hs⟩ := h.h
  have HF := hid (Rr.put hb (nil_stop w0))
  have f0 : w.frozen? ⟨r, 0, none⟩ = false := Lib.frozen_of_heap hb 0
  have c0 : w.cell? ⟨r, 0, none⟩ = some v := by rw [Lib.cell_of_heap hb]; rfl
  clear h hb hs
  go_enter Tryz.func78, Tryz.ntmps78
  go_wp2_with fail
  go_end0
  exact ⟨rfl, HF.out.1, HF.out.2⟩
set_option maxHeartbeats 2000000 in
theorem rnum0 (w0 : World) (r : Nat) (w : World) (h : Rr w0 r [] w) : Calls Tryz.prog 77 #[.pointer (some ⟨r, 0, none⟩)] w fun e W' => e = .returned (.int .u64 0) ∧ Rr w0 r [] W' ∧ Qx r w W' := by
  obtain ⟨v, nd, hb, hs⟩ := h.h
  have hlt : r < w.heap.size := heap_of hb
  have HR := hid h
  obtain ⟨ao, cap, rfl, h1, h2⟩ := hs.len
  obtain ⟨a1, c1, hr1, _⟩ := sl_to hs 0 (Nat.zero_le _)
  simp only [List.length_nil] at hb hr1
  have hR1 : ∀ W, (Instr.sliceAt 25 (.slice ao 0 cap) none (some (.int .i64 0)) none).run Tryz.prog W = .ok (.slice a1 0 c1) W := hr1.out
  have c0 : w.cell? ⟨r, 0, none⟩ = some (.slice ao 0 cap) := by rw [Lib.cell_of_heap hb]; rfl
  clear h hb hs hr1 h1 h2
  go_enter Tryz.func77, Tryz.ntmps77
  go_wp2_with fail
  go_quiet (fail)
  rename_i nq
  have HQ1 : Hid (Q w (w.drewN nq)) := hid ((Q.refl w).drewN nq)
  have HR1 := hid (HR.out.on HQ1.out)
  clear c0
  generalize w.drewN nq = w1 at HQ1 HR1 ⊢
  go_wp2_with fail
  go_loopw [2, 3, 18] (fun o i s W => o = .int .u64 0 ∧ i = .int .u64 0 ∧ s = .int .i64 0 ∧ W = w1) (fun _ _ _ _ => 0)
  case atStart => exact ⟨rfl, rfl, rfl, rfl⟩
  case round =>
    obtain ⟨rfl, rfl, rfl, rfl⟩ := hrel
    go_wp2_with (go_at_call 78; refine (rstop_any w0 r [] _ HR1.out).mono ?_; rintro e9 y9 ⟨rfl, hw9, hq9⟩; have HF := hid (And.intro hw9 ((Qx.of HQ1.out).trans hq9)); clear hw9 hq9)
    go_ret
    exact ⟨rfl, HF.out⟩
set_option maxHeartbeats 2000000 in
theorem rnum1 (w0 : World) (r : Nat) (b : UInt8) (D : List UInt8) (w : World) (hq : Q w0 w) (hlb : b.toNat < 128) (h : Rr w0 r (b :: D) w) : Calls Tryz.prog 77 #[.pointer (some ⟨r, 0, none⟩)] w fun e W' => e = .returned (.int .u64 b.toNat) ∧ Rr w0 r D W' ∧ Qx r w W' := by
  obtain ⟨v, nd, hb, hs⟩ := h.h
  have hlt : r < w.heap.size := heap_of hb
  have c0 : w.cell? ⟨r, 0, none⟩ = some v := by rw [Lib.cell_of_heap hb]; rfl
  have f0 : w.frozen? ⟨r, 0, none⟩ = false := Lib.frozen_of_heap hb 0
  have HB := hid hb
  obtain ⟨g, o, cap, rfl, h1, h2, ha⟩ := hs.at (i := 0) (by simp)
  obtain ⟨a1, c1, hr1, hs1⟩ := sl_from hs 1 (by simp)
  have a0 : w.cell? ⟨g, o, none⟩ = some (.int .u8 b.toNat) := by
    have := (ha.on hq) 0 (.int .u8 b.toNat) rfl
    simpa using this
  have HS := hid hs
  have HS1 := hid hs1
  clear h hb hs hs1 ha
  generalize hn : (b :: D).length = n at h1 hr1 c0 HB HS1
  have hn1 : 1 ≤ n := by simp at hn; omega
  generalize n - 1 = n1 at hr1 HS1
  clear hn
  obtain ⟨m, hm⟩ : ∃ m : Nat, m = min n 10 := ⟨_, rfl⟩
  have HT : Hid (∀ W, (Instr.sliceAt 25 (.slice (some ⟨g, o, none⟩) n cap) none (some (.int .i64 m)) none).run Tryz.prog W = .ok (.slice (some ⟨g, o, none⟩) m cap) W) := hid (fun W => by
    rw [run_to W _ n cap m (by omega) h1 h2, if_neg (by omega)]
    show Result.ok (Value.slice (some ((⟨g, o, none⟩ : Addr).add 0)) m cap) W = _
    rw [add_lit]
    rfl)
  have hR1 : ∀ W, (Instr.sliceAt 25 (.slice (some ⟨g, o, none⟩) n cap) (some (.int .i64 1)) none none).run Tryz.prog W = .ok (.slice a1 n1 c1) W := hr1.out
  have hT := HT.out
  have hm0 : 1 ≤ m := by omega
  have hm1 : min (n : Int) 10 = (m : Int) := by omega
  clear hr1 HT hm
  generalize b.toNat = c at hlb a0 ⊢
  have ho : bits .or .u64 0 (c : Int) = (c : Int) := or0 c
  have e1 : (c : Int) % 128 = (c : Int) := by omega
  go_enter Tryz.func77, Tryz.ntmps77
  go_wp2_with fail
  go_quiet (fail)
  rename_i nq
  have hlg : g < w.heap.size := World.block_lt_of_cell? w ⟨g, o, none⟩ a0
  have HQ1 : Hid (Q w (w.drewN nq)) := hid ((Q.refl w).drewN nq)
  have b0 : (w.drewN nq).cell? ⟨r, 0, none⟩ = some (.slice (some ⟨g, o, none⟩) n cap) := (HQ1.out.cell hlt).trans c0
  have b1 : (w.drewN nq).cell? ⟨g, o, none⟩ = some (.int .u8 c) := (HQ1.out.cell hlg).trans a0
  have HB1 : Hid ((w.drewN nq).heap[r]? = some (.cells #[.slice (some ⟨g, o, none⟩) n cap, .int .i64 nd] 63 (0, 0))) := hid ((Q.block HQ1.out hlt).trans HB.out)
  clear c0 a0 f0
  generalize w.drewN nq = w1 at HQ1 b0 b1 HB1 ⊢
  have f1 : w1.frozen? ⟨r, 0, none⟩ = false := Lib.frozen_of_heap HB1.out 0
  have HF := hid (Rr.put HB1.out HS1.out)
  go_wp2_with fail
  go_loopw [2, 3, 18] (fun o i s W => o = .int .u64 0 ∧ i = .int .u64 0 ∧ s = .int .i64 0 ∧ W = w1) (fun _ _ _ _ => 0)
  case atStart => exact ⟨rfl, rfl, rfl, rfl⟩
  case round =>
    obtain ⟨rfl, rfl, rfl, rfl⟩ := hrel
    go_wp2_with fail
    go_ret
    exact ⟨rfl, HF.out.1, (Qx.of HQ1.out).trans HF.out.2⟩
set_option maxHeartbeats 2000000 in
theorem rcount0 (w0 : World) (r m : Nat) (w : World) (hm : m < 9223372036854775808) (h : Rr w0 r [] w) : Calls Tryz.prog 46 #[.pointer (some ⟨r, 0, none⟩), .int .i64 m] w fun e W' => e = .returned (.int .i64 0) ∧ Rr w0 r [] W' ∧ Qx r w W' := by
  have HN := hid (rnum0 w0 r w h)
  have eW : IntKind.u64.wrap (m : Int) = (m : Int) := by simp [IntKind.wrap, IntKind.bits, IntKind.signed]; omega
  have hn : ¬ (m : Int) < 0 := by omega
  clear h
  go_enter Tryz.func46, Tryz.ntmps46
  go_wp2_with (go_at_call 77; refine HN.out.mono ?_; rintro e9 y9 ⟨rfl, hw9, hq9⟩; have HF := hid (And.intro hw9 hq9); clear hw9 hq9)
  go_ret
  exact ⟨rfl, HF.out⟩
set_option maxHeartbeats 2000000 in
theorem rcount1 (w0 : World) (r m : Nat) (b : UInt8) (D : List UInt8) (w : World) (hq : Q w0 w) (hlb : b.toNat < 128) (hbm : b.toNat ≤ m) (hm : m < 9223372036854775808) (h : Rr w0 r (b :: D) w) : Calls Tryz.prog 46 #[.pointer (some ⟨r, 0, none⟩), .int .i64 m] w fun e W' => e = .returned (.int .i64 b.toNat) ∧ Rr w0 r D W' ∧ Qx r w W' := by
  have HN := hid (rnum1 w0 r b D w hq hlb h)
  clear h
  generalize b.toNat = c at hlb hbm HN ⊢
  have eW : IntKind.u64.wrap (m : Int) = (m : Int) := by simp [IntKind.wrap, IntKind.bits, IntKind.signed]; omega
  have eC : IntKind.i64.wrap (c : Int) = (c : Int) := by simp [IntKind.wrap, IntKind.bits, IntKind.signed]; omega
  have hn : ¬ (m : Int) < (c : Int) := by omega
  go_enter Tryz.func46, Tryz.ntmps46
  go_wp2_with (go_at_call 77; refine HN.out.mono ?_; rintro e9 y9 ⟨rfl, hw9, hq9⟩; have HF := hid (And.intro hw9 hq9); clear hw9 hq9)
  go_ret
  exact ⟨rfl, HF.out⟩
set_option maxHeartbeats 2000000 in
theorem rline1 (w0 : World) (r : Nat) (b : UInt8) (D : List UInt8) (w : World) (hq : Q w0 w) (hlb : b.toNat < 128) (h : Rr w0 r (b :: D) w) : Calls Tryz.prog 79 #[.pointer (some ⟨r, 0, none⟩)] w fun e W' => e = .returned (.int .i64 b.toNat) ∧ Rr w0 r D W' ∧ Qx r w W' := by
  have HN := hid (rnum1 w0 r b D w hq hlb h)
  clear h
  generalize b.toNat = c at hlb HN ⊢
  have eC : IntKind.i64.wrap (c : Int) = (c : Int) := by simp [IntKind.wrap, IntKind.bits, IntKind.signed]; omega
  go_enter Tryz.func79, Tryz.ntmps79
  go_wp2_with (go_at_call 77; refine HN.out.mono ?_; rintro e9 y9 ⟨rfl, hw9, hq9⟩; have HF := hid (And.intro hw9 hq9); clear hw9 hq9)
  go_ret
  exact ⟨rfl, HF.out⟩
theorem sl_bytes {W : World} {ao : Option Addr} {n cap : Nat} {D : List UInt8} (h : Sl eb 1 W (.slice ao n cap) D) : D.length = n ∧ Lib.BytesIn W ao n (D.map fun b => (b.toNat : Int)) := by
  obtain ⟨ao', cap', hv, h1, h2, h⟩ := h
  cases hv
  refine ⟨rfl, ?_⟩
  rcases Nat.eq_zero_or_pos D.length with h0 | h0
  · rw [h0]
    exact Lib.BytesIn.nil _ _ _
  · obtain ⟨g, o, rfl, hc⟩ := h h0
    exact Lib.BytesIn.of_cells (fun i hi => by
      have := hc i hi 0 (.int .u8 D[i].toNat) rfl
      rw [add_lit]
      simpa [List.getD, hi] using this)
theorem str_nums (D : List UInt8) : strOfNums (D.map fun b => (b.toNat : Int)) = ⟨D.toArray⟩ := by
  unfold strOfNums
  congr 2
  induction D with
  | nil => rfl
  | cons x D ih => simp [ih]
theorem sl_conv {W : World} {ao : Option Addr} {n cap : Nat} {D : List UInt8} (h : Sl eb 1 W (.slice ao n cap) D) : (convert 25 9 (.slice ao n cap)).run Tryz.prog W = .ok (.string ⟨D.toArray⟩) W := by
  obtain ⟨h1, h2⟩ := sl_bytes h
  have := Lib.BytesIn.convert (P := Tryz.prog) h2 (by simpa using h1) cap 25 5 9 Tryz.underlying25 (by kernel_rfl) Tryz.underlying9
  rw [str_nums] at this
  exact this
set_option maxHeartbeats 2000000 in
theorem bytesEqual_any (u v : Value) (D E : List UInt8) (w : World) (hu : Sl eb 1 w u D) (hv : Sl eb 1 w v E) : Calls Tryz.prog 25 #[u, v] w fun e W' => e = .returned (.bool (decide (D = E))) ∧ Q w W' := by
  obtain ⟨a1, c1, rfl, _, _⟩ := hu.len
  obtain ⟨a2, c2, rfl, _, _⟩ := hv.len
  have k1 := sl_conv hu
  have k2 := sl_conv hv
  clear hu hv
  generalize D.length = n1 at k1 ⊢
  generalize E.length = n2 at k2 ⊢
  by_cases hde : D = E
  · subst hde
    rw [decide_eq_true rfl]
    go_enter Tryz.func25, Tryz.ntmps25
    go_wp2_with fail
    go_ret
    exact ⟨ret_bool (by simp), Q.refl _⟩
  · rw [decide_eq_false hde]
    have hne : ((⟨D.toArray⟩ : ByteArray).toList == (⟨E.toArray⟩ : ByteArray).toList) = false := by
      rw [Lib.toList_data, Lib.toList_data]
      simpa using hde
    go_enter Tryz.func25, Tryz.ntmps25
    go_wp2_with fail
    go_ret
    exact ⟨ret_bool (by simpa using hne), Q.refl _⟩
set_option maxHeartbeats 2000000 in
theorem rtext1 (w0 : World) (r : Nat) (b : UInt8) (s D : List UInt8) (w : World) (hq : Q w0 w) (hr0 : w0.heap.size ≤ r) (hlb : b.toNat < 128) (hb : b.toNat = s.length) (h : Rr w0 r (b :: (s ++ D)) w) : Calls Tryz.prog 62 #[.pointer (some ⟨r, 0, none⟩)] w fun e W' => e = .returned (.string ⟨s.toArray⟩) ∧ Rr w0 r D W' ∧ Qx r w W' := by
  have HN := hid (rcount1 w0 r 200 b (s ++ D) w hq hlb (by omega) (by decide) h)
  clear h
  rw [hb] at HN
  go_enter Tryz.func62, Tryz.ntmps62
  go_upto_region 2 with (go_at_call 46; refine HN.out.mono ?_; rintro e9 w1 ⟨rfl, hw9, hq9⟩; have HR := hid hw9; have HX := hid hq9; clear hw9 hq9)
  obtain ⟨v, nd, hbk, hs⟩ := HR.out.h
  have HQ1 : Hid (Q w0 w1) := hid (HX.out.qq hq hr0)
  obtain ⟨ao, cap, rfl, h1, h2⟩ := hs.len
  obtain ⟨a1, c1, hr1, hs1⟩ := sl_to hs s.length (by simp)
  obtain ⟨a2, c2, hr2, hs2⟩ := sl_from hs s.length (by simp)
  have hT := hr1.out
  have hF := hr2.out
  have hC := sl_conv (hs1.on HQ1.out)
  rw [List.take_left] at hC
  rw [List.drop_left] at hs2
  have c0 : w1.cell? ⟨r, 0, none⟩ = some (.slice ao (s ++ D).length cap) := by rw [Lib.cell_of_heap hbk]; rfl
  have f0 : w1.frozen? ⟨r, 0, none⟩ = false := Lib.frozen_of_heap hbk 0
  have HF := hid (Rr.put hbk hs2)
  clear hbk hs hs1 hs2 hr1 hr2 h1 h2
  have hle : ¬ ((s ++ D).length : Int) < (s.length : Int) := by simp; omega
  generalize (s ++ D).length - s.length = n2 at hF HF
  generalize (s ++ D).length = n at c0 hT hF hle
  generalize s.length = m at hT hF hC hle
  go_wp2_with fail
  go_ret
  exact ⟨rfl, HF.out.1, HX.out.trans HF.out.2⟩
def z5 : Array Value := #[.int .i64 0, .int .i64 0, .string ⟨#[]⟩, .bool false, .int .i64 0]
def z13 : Array Value := #[.bool false, .int .i64 0, .int .i64 0, .string ⟨#[]⟩, .bool false, .int .i64 0, .int .i64 0, .int .i64 0, .string ⟨#[]⟩, .bool false, .int .i64 0, .slice none 0 0, .slice none 0 0]
theorem info36 : (Tryz.prog.info? 36).map (·.size) = some 5 := by kernel_rfl
theorem info42 : (Tryz.prog.info? 42).map (·.size) = some 13 := by kernel_rfl
theorem wpl_layt (w : World) {ops : Array Oper} {rest : List Oper} {o : Oper} {a : Act} {Q : Exit → Act → World → Prop} (t : TypeId) (x y : Operand) (ho : o.op = .store t x y) (hgd : o.guard = none) (z old : Array Value)
    (hx : a.eval x = .pointer (some ⟨w.heap.size, 0, none⟩)) (hy : a.eval y = .agg z) (hi : (Tryz.prog.info? t).map (·.size) = some z.size) (hold : old.size = z.size) (h1 : z.all (·.oneCell') = true)
    {W : World} (hW : W = w.alloc (.cells old t)) (h : wpList Tryz.prog ops Q rest (a.put o.dst undef) (w.alloc (.cells z t))) : wpList Tryz.prog ops Q (o :: rest) a W := by
  subst hW
  refine wpList_store_row hgd t x y ho w.heap.size z hx hy t old (heap_alloc_last w _) hi hold h1 ?_
  rw [World.setRow_alloc_new]
  exact h
set_option maxHeartbeats 4000000 in
theorem rcell0 (w0 : World) (r : Nat) (D : List UInt8) (w : World) (hq : Q w0 w) (hr0 : w0.heap.size ≤ r) (h : Rr w0 r (0 :: D) w) : Calls Tryz.prog 34 #[.pointer (some ⟨r, 0, none⟩)] w fun e W' => e = .returned (.agg z13) ∧ Rr w0 r D W' ∧ Qx r w W' := by
  have HR := hid h
  have HRL : Hid (r < w.heap.size) := hid h.lt
  have HQ := hid hq
  clear h hq
  go_enter Tryz.func34, Tryz.ntmps34
  go_upto_region 1 with fail
  have HB : Hid ((w.alloc (.cells #[.bool false, .int .i64 0, .int .i64 0, .string ⟨#[]⟩, .bool false, .int .i64 0, .int .i64 0, .int .i64 0, .string ⟨#[]⟩, .bool false, .int .i64 0, .slice none 0 0, .slice none 0 0] 42)).heap[w.heap.size]? = some (.cells z13 42 (0, 0))) := hid (heap_alloc_last w _)
  have QA : Hid (Q w (w.alloc (.cells #[.bool false, .int .i64 0, .int .i64 0, .string ⟨#[]⟩, .bool false, .int .i64 0, .int .i64 0, .int .i64 0, .string ⟨#[]⟩, .bool false, .int .i64 0, .slice none 0 0, .slice none 0 0] 42))) := hid ((Q.refl w).alloc _)
  have HNE : Hid (w.heap.size ≠ r) := hid (by have := HRL.out; omega)
  have HGE : Hid (w.heap.size ≤ w.heap.size) := hid (Nat.le_refl _)
  generalize w.alloc (.cells #[.bool false, .int .i64 0, .int .i64 0, .string ⟨#[]⟩, .bool false, .int .i64 0, .int .i64 0, .int .i64 0, .string ⟨#[]⟩, .bool false, .int .i64 0, .slice none 0 0, .slice none 0 0] 42) = w1 at HB QA ⊢
  have HN : Hid (Calls Tryz.prog 46 #[.pointer (some ⟨r, 0, none⟩), .int .i64 5] w1 fun e W' => e = .returned (.int .i64 0) ∧ Rr w0 r D W' ∧ Qx r w1 W') := hid (rcount1 w0 r 5 0 D w1 (HQ.out.trans QA.out) (by decide) (by decide) (by decide) (HR.out.on QA.out))
  obtain ⟨b0, hb0⟩ : ∃ b0, b0 = w.heap.size := ⟨_, rfl⟩
  rw [← hb0] at HB HNE HGE ⊢
  have HB0 := hid hb0
  clear hb0
  go_upto_region 5 with (go_at_call 46; refine HN.out.mono ?_; rintro e9 w2 ⟨rfl, hw9, hq9⟩; have HR2 := hid hw9; have HX2 := hid hq9; have HB2 : Hid (w2.heap[b0]? = some (.cells z13 42 (0, 0))) := hid ((hq9.block b0 (heap_of HB.out) (fun e => HNE.out (Option.some.inj e))).trans HB.out); clear hw9 hq9)
  go_upto_region 6 with (first
    | (with_reducible refine wpl_buildt 36 _ (by with_unfolding_all rfl) (by with_unfolding_all rfl) z5 (by kernel_rfl) ?_)
    | (with_reducible refine wpl_layt w2 36 _ _ (by with_unfolding_all rfl) (by with_unfolding_all rfl) z5 z5 (by with_unfolding_all rfl) (by with_unfolding_all rfl) (by with_unfolding_all exact info36) (by with_unfolding_all rfl) (by kernel_rfl) (by with_unfolding_all rfl) ?_))
  have HB3 : Hid ((w2.alloc (.cells z5 36)).heap[b0]? = some (.cells z13 42 (0, 0))) := hid ((Lib.alloc_old w2 _ b0 (heap_of HB2.out)).trans HB2.out)
  have HV3 : Hid ((w2.alloc (.cells z5 36)).heap[w2.heap.size]? = some (.cells z5 36 (0, 0))) := hid (heap_alloc_last w2 _)
  have HR3 := hid (HR2.out.on ((Q.refl _).alloc (.cells z5 36)))
  have HX3 : Hid (Qx r w (w2.alloc (.cells z5 36))) := hid (((Qx.of QA.out).trans HX2.out).alloc _)
  clear HB HB2 HR2 HX2
  generalize w2.alloc (.cells z5 36) = w3 at HB3 HV3 HR3 HX3 ⊢
  generalize w2.heap.size = b1 at HV3 ⊢
  go_wp2_with (first
    | (with_reducible refine wpList_load_row (by with_unfolding_all rfl) 36 _ (by with_unfolding_all rfl) b1 (by with_unfolding_all rfl) 36 z5 (0, 0) _ HV3.out Tryz.underlying36 (by with_unfolding_all rfl) (by with_unfolding_all exact info36) ?_)
    | (with_reducible refine wpl_buildt 42 _ (by with_unfolding_all rfl) (by with_unfolding_all rfl) z13 (by kernel_rfl) ?_)
    | (with_reducible refine wpList_store_row (by with_unfolding_all rfl) 42 _ _ (by with_unfolding_all rfl) b0 z13 (by with_unfolding_all rfl) (by with_unfolding_all rfl) 42 z13 HB3.out (by with_unfolding_all exact info42) (by with_unfolding_all rfl) (by kernel_rfl) ?_))
  refine bodyPost_ret (v := .agg z13) (results_cell_row Tryz.results34 _ _ b0 42 z13 (0, 0) _ (by rfl) (setRow_heap w3 b0 _ _ _ _ HB3.out) Tryz.underlying42 rfl info42) rfl ?_
  have QS : Qx r w (w3.setRow b0 z13) := HX3.out.trans ⟨rfl, rfl, rfl, by simp [World.setRow], fun i hi hne => by
    rcases Nat.lt_or_ge 0 1 with _ | _
    · by_cases e : i = b0
      · subst e
        rw [setRow_heap w3 i _ _ _ _ HB3.out, HB3.out]
      · exact setRow_other w3 b0 i z13 e
    · omega⟩
  refine ⟨rfl, ?_, QS⟩
  obtain ⟨v, nd, hb, hs⟩ := HR3.out.h
  exact ⟨v, nd, (setRow_other w3 b0 r z13 (fun e => HNE.out e.symm)).trans hb, hs⟩
def zL : List Value := [.int .i64 0, .string ⟨#[]⟩, .int .i64 0, .int .i64 0, .bool false, .int .i64 0, .int .i64 0, .string ⟨#[]⟩, .bool false, .int .i64 0, .int .i64 0, .int .i64 0, .string ⟨#[]⟩, .bool false, .int .i64 0, .slice none 0 0, .slice none 0 0, .int .i64 0, .int .i64 0, .int .i64 0, .slice none 0 0, .int .i64 0, .string ⟨#[]⟩]
structure RS (w0 w : World) (r b0 b1 : Nat) (D : List UInt8) (cs : List Value) (W : World) : Prop where
  rr : Rr w0 r D W
  x : Qx r w W
  c : Cq W b1 cs
  z : Cq W b0 zL
  q : Q w0 w
  n : w0.heap.size ≤ r ∧ b0 ≠ r ∧ b1 ≠ r ∧ b0 ≠ b1 ∧ w.heap.size ≤ b0 ∧ w.heap.size ≤ b1
theorem RS.qq {w0 w : World} {r b0 b1 : Nat} {D : List UInt8} {cs : List Value} {W : World} (h : RS w0 w r b0 b1 D cs W) : Q w0 W := h.x.qq h.q h.n.1
theorem RS.call {w0 w : World} {r b0 b1 : Nat} {D D' : List UInt8} {cs : List Value} {W W' : World} (h : RS w0 w r b0 b1 D cs W) (hr : Rr w0 r D' W') (hq : Qx r W W') : RS w0 w r b0 b1 D' cs W' :=
  ⟨hr, h.x.trans hq, hq.cq h.c h.n.2.2.1, hq.cq h.z h.n.2.1, h.q, h.n⟩
theorem Rr.oth {w0 : World} {r b : Nat} {D : List UInt8} {W : World} (h : Rr w0 r D W) (hb : b ≠ r) (j : Nat) (v : Value) : Rr w0 r D (W.setCell ⟨b, j, none⟩ v) := by
  obtain ⟨u, nd, hk, hs⟩ := h.h
  exact ⟨u, nd, (heap_setCell_other W _ r v (fun e => hb e.symm)).trans hk, hs⟩
theorem RS.put {w0 w : World} {r b0 b1 : Nat} {D : List UInt8} {cs : List Value} {W : World} (h : RS w0 w r b0 b1 D cs W) (j : Nat) (v : Value) : RS w0 w r b0 b1 D (cs.set j v) (W.setCell ⟨b1, j, none⟩ v) :=
  ⟨h.rr.oth h.n.2.2.1 j v, h.x.new h.n.2.2.2.2.2 j v, h.c.put j v, h.z.oth h.n.2.2.2.1 j v, h.q, h.n⟩
theorem RS.puts {w0 w : World} {r b0 b1 : Nat} {D : List UInt8} : ∀ (vs : List Value) (o : Nat) {cs : List Value} {W : World}, RS w0 w r b0 b1 D cs W → RS w0 w r b0 b1 D (setL cs o vs) (W.setCells b1 o vs)
  | [], _, _, _, h => h
  | v :: l, o, _, _, h => RS.puts l (o + 1) (h.put o v)
theorem rs_new {w0 w : World} {r : Nat} {D : List UInt8} (hq : Q w0 w) (hr0 : w0.heap.size ≤ r) (h : Rr w0 r D w) : RS w0 w r w.heap.size (w.heap.size + 1) D zL ((w.alloc (.cells zL.toArray 54)).alloc (.cells zL.toArray 54)) := by
  have hlt := h.lt
  refine ⟨(h.on ((Q.refl _).alloc _)).on ((Q.refl _).alloc _), ((Qx.refl r w).alloc _).alloc _, ?_, (cq_new w zL).on ((Q.refl _).alloc _), hq, ⟨hr0, by omega, by omega, by omega, by omega, by omega⟩⟩
  have := cq_new (w.alloc (.cells zL.toArray 54)) zL
  simpa using this
theorem RS.fin {w0 w : World} {r b0 b1 : Nat} {D : List UInt8} {cs : List Value} {W : World} (h : RS w0 w r b0 b1 D cs W) : Rr w0 r D (W.setRow b0 cs.toArray) ∧ Qx r w (W.setRow b0 cs.toArray) ∧ (W.setRow b0 cs.toArray).heap[b0]? = some (.cells cs.toArray 54 (0, 0)) := by
  have hx := h.x
  have h4 := h.n.2.2.2.2.1
  refine ⟨?_, ⟨hx.os, hx.tape, hx.output, Nat.le_trans hx.size (by simp [World.setRow]), fun i hi hne => (setRow_other W b0 i _ (by omega)).trans (hx.block i hi hne)⟩, setRow_heap W b0 _ _ _ _ h.z.h⟩
  obtain ⟨u, nd, hk, hs⟩ := h.rr.h
  exact ⟨u, nd, (setRow_other W b0 r _ (fun e => h.n.2.1 e.symm)).trans hk, hs⟩
set_option maxHeartbeats 8000000 in
theorem rop1 (w0 : World) (r : Nat) (bs br bc : UInt8) (s : List UInt8) (D : List UInt8) (w : World) (hq : Q w0 w) (hr0 : w0.heap.size ≤ r) (hbs : bs.toNat < 128) (hs : bs.toNat = s.length) (hbr : br.toNat < 128) (hbc : bc.toNat < 128) (h : Rr w0 r (1 :: bs :: (s ++ (br :: bc :: 0 :: D))) w) : Calls Tryz.prog 47 #[.pointer (some ⟨r, 0, none⟩)] w fun e W' => e = .returned (.agg #[.int .i64 1, .string ⟨s.toArray⟩, .int .i64 br.toNat, .int .i64 bc.toNat, .bool false, .int .i64 0, .int .i64 0, .string ⟨#[]⟩, .bool false, .int .i64 0, .int .i64 0, .int .i64 0, .string ⟨#[]⟩, .bool false, .int .i64 0, .slice none 0 0, .slice none 0 0, .int .i64 0, .int .i64 0, .int .i64 0, .slice none 0 0, .int .i64 0, .string ⟨#[]⟩]) ∧ Rr w0 r D W' ∧ Qx r w W' := by
  have HS := hid (rs_new hq hr0 h)
  clear h
  go_enter Tryz.func47, Tryz.ntmps47
  go_upto_region 2 with fail
  rw [show zL.toArray = #[.int .i64 0, .string ⟨#[]⟩, .int .i64 0, .int .i64 0, .bool false, .int .i64 0, .int .i64 0, .string ⟨#[]⟩, .bool false, .int .i64 0, .int .i64 0, .int .i64 0, .string ⟨#[]⟩, .bool false, .int .i64 0, .slice none 0 0, .slice none 0 0, .int .i64 0, .int .i64 0, .int .i64 0, .slice none 0 0, .int .i64 0, .string ⟨#[]⟩] from rfl] at HS
  generalize (w.alloc (.cells #[.int .i64 0, .string ⟨#[]⟩, .int .i64 0, .int .i64 0, .bool false, .int .i64 0, .int .i64 0, .string ⟨#[]⟩, .bool false, .int .i64 0, .int .i64 0, .int .i64 0, .string ⟨#[]⟩, .bool false, .int .i64 0, .slice none 0 0, .slice none 0 0, .int .i64 0, .int .i64 0, .int .i64 0, .slice none 0 0, .int .i64 0, .string ⟨#[]⟩] 54)).alloc (.cells #[.int .i64 0, .string ⟨#[]⟩, .int .i64 0, .int .i64 0, .bool false, .int .i64 0, .int .i64 0, .string ⟨#[]⟩, .bool false, .int .i64 0, .int .i64 0, .int .i64 0, .string ⟨#[]⟩, .bool false, .int .i64 0, .slice none 0 0, .slice none 0 0, .int .i64 0, .int .i64 0, .int .i64 0, .slice none 0 0, .int .i64 0, .string ⟨#[]⟩] 54) = w1 at HS ⊢
  generalize w.heap.size + 1 = b1 at HS ⊢
  generalize w.heap.size = b0 at HS ⊢
  have HN1 : Hid (Calls Tryz.prog 46 #[.pointer (some ⟨r, 0, none⟩), .int .i64 7] w1 fun e W' => e = .returned (.int .i64 1) ∧ Rr w0 r (bs :: (s ++ (br :: bc :: 0 :: D))) W' ∧ Qx r w1 W') := hid (rcount1 w0 r 7 1 _ w1 HS.out.qq (by decide) (by decide) (by decide) HS.out.rr)
  go_upto_region 3 with (go_at_call 46; refine (HN1.out).mono ?_; rintro e9 y2 ⟨rfl, hw9, hq9⟩; have HS9 := hid (HS.out.call hw9 hq9); have d0 := HS9.out.c.c 0 _ rfl; have f0 := HS9.out.c.f 0; clear hw9 hq9)
  replace HS := hid (HS9.out.put 0 (.int .i64 1))
  clear HS9 d0 f0
  generalize y2.setCell ⟨b1, 0, none⟩ (.int .i64 1) = w2 at HS ⊢
  clear HN1
  go_upto_region 4 with (go_at_call 62; refine (rtext1 w0 r bs s _ _ HS.out.qq HS.out.n.1 hbs hs HS.out.rr).mono ?_; rintro e9 y3 ⟨rfl, hw9, hq9⟩; have HS9 := hid (HS.out.call hw9 hq9); have d1 := HS9.out.c.c 1 _ rfl; have f1 := HS9.out.c.f 1; clear hw9 hq9)
  replace HS := hid (HS9.out.put 1 (.string ⟨s.toArray⟩))
  clear HS9 d1 f1
  generalize y3.setCell ⟨b1, 1, none⟩ (.string ⟨s.toArray⟩) = w3 at HS ⊢
  have e0 : w3.cell? ⟨b1, 0, none⟩ = some (.int .i64 1) := HS.out.c.c 0 _ rfl
  go_upto_region 6 with fail
  clear e0
  go_upto_region 7 with (go_at_call 79; refine (rline1 w0 r br _ _ HS.out.qq hbr HS.out.rr).mono ?_; rintro e9 y4 ⟨rfl, hw9, hq9⟩; have HS9 := hid (HS.out.call hw9 hq9); have d2 := HS9.out.c.c 2 _ rfl; have f2 := HS9.out.c.f 2; clear hw9 hq9)
  replace HS := hid (HS9.out.put 2 (.int .i64 br.toNat))
  clear HS9 d2 f2
  generalize y4.setCell ⟨b1, 2, none⟩ (.int .i64 br.toNat) = w4 at HS ⊢
  go_upto_region 8 with (go_at_call 79; refine (rline1 w0 r bc _ _ HS.out.qq hbc HS.out.rr).mono ?_; rintro e9 y5 ⟨rfl, hw9, hq9⟩; have HS9 := hid (HS.out.call hw9 hq9); have d3 := HS9.out.c.c 3 _ rfl; have f3 := HS9.out.c.f 3; clear hw9 hq9)
  replace HS := hid (HS9.out.put 3 (.int .i64 bc.toNat))
  clear HS9 d3 f3
  generalize y5.setCell ⟨b1, 3, none⟩ (.int .i64 bc.toNat) = w5 at HS ⊢
  go_upto_region 20 with (first
    | (go_at_call 34; refine (rcell0 w0 r D _ HS.out.qq HS.out.n.1 HS.out.rr).mono ?_; rintro e9 y6 ⟨rfl, hw9, hq9⟩; have HS9 := hid (HS.out.call hw9 hq9); clear hw9 hq9)
    | (with_reducible refine wpList_store_mid (by with_unfolding_all rfl) 42 _ _ (by with_unfolding_all rfl) b1 4 z13 (by with_unfolding_all rfl) (by with_unfolding_all rfl) (by with_unfolding_all exact there_cq HS9.out.c 4 13 (by simp [zL])) (by with_unfolding_all exact info42) (by kernel_rfl) ?_))
  replace HS := hid (HS9.out.puts z13.toList 4)
  clear HS9
  generalize y6.setCells b1 4 z13.toList = w6 at HS ⊢
  rw [show setL ((((zL.set 0 (.int .i64 1)).set 1 (.string ⟨s.toArray⟩)).set 2 (.int .i64 br.toNat)).set 3 (.int .i64 bc.toNat)) 4 z13.toList = [.int .i64 1, .string ⟨s.toArray⟩, .int .i64 br.toNat, .int .i64 bc.toNat, .bool false, .int .i64 0, .int .i64 0, .string ⟨#[]⟩, .bool false, .int .i64 0, .int .i64 0, .int .i64 0, .string ⟨#[]⟩, .bool false, .int .i64 0, .slice none 0 0, .slice none 0 0, .int .i64 0, .int .i64 0, .int .i64 0, .slice none 0 0, .int .i64 0, .string ⟨#[]⟩] from rfl] at HS
  go_wp2_with (first
    | (with_reducible refine wpl_load (by with_unfolding_all rfl) _ (by with_unfolding_all rfl) b1 (by with_unfolding_all rfl) [.int .i64 1, .string ⟨s.toArray⟩, .int .i64 br.toNat, .int .i64 bc.toNat, .bool false, .int .i64 0, .int .i64 0, .string ⟨#[]⟩, .bool false, .int .i64 0, .int .i64 0, .int .i64 0, .string ⟨#[]⟩, .bool false, .int .i64 0, .slice none 0 0, .slice none 0 0, .int .i64 0, .int .i64 0, .int .i64 0, .slice none 0 0, .int .i64 0, .string ⟨#[]⟩] (by with_unfolding_all exact HS.out.c) (by with_unfolding_all rfl) ?_)
    | (with_reducible refine wpList_store_row (by with_unfolding_all rfl) 54 _ _ (by with_unfolding_all rfl) b0 #[.int .i64 1, .string ⟨s.toArray⟩, .int .i64 br.toNat, .int .i64 bc.toNat, .bool false, .int .i64 0, .int .i64 0, .string ⟨#[]⟩, .bool false, .int .i64 0, .int .i64 0, .int .i64 0, .string ⟨#[]⟩, .bool false, .int .i64 0, .slice none 0 0, .slice none 0 0, .int .i64 0, .int .i64 0, .int .i64 0, .slice none 0 0, .int .i64 0, .string ⟨#[]⟩] (by with_unfolding_all rfl) (by with_unfolding_all rfl) 54 zL.toArray HS.out.z.h (by with_unfolding_all exact info35) (by with_unfolding_all rfl) (by kernel_rfl) ?_))
  refine bodyPost_ret (v := .agg #[.int .i64 1, .string ⟨s.toArray⟩, .int .i64 br.toNat, .int .i64 bc.toNat, .bool false, .int .i64 0, .int .i64 0, .string ⟨#[]⟩, .bool false, .int .i64 0, .int .i64 0, .int .i64 0, .string ⟨#[]⟩, .bool false, .int .i64 0, .slice none 0 0, .slice none 0 0, .int .i64 0, .int .i64 0, .int .i64 0, .slice none 0 0, .int .i64 0, .string ⟨#[]⟩]) (results_cell_row Tryz.results47 _ _ b0 54 #[.int .i64 1, .string ⟨s.toArray⟩, .int .i64 br.toNat, .int .i64 bc.toNat, .bool false, .int .i64 0, .int .i64 0, .string ⟨#[]⟩, .bool false, .int .i64 0, .int .i64 0, .int .i64 0, .string ⟨#[]⟩, .bool false, .int .i64 0, .slice none 0 0, .slice none 0 0, .int .i64 0, .int .i64 0, .int .i64 0, .slice none 0 0, .int .i64 0, .string ⟨#[]⟩] (0, 0) _ (by rfl) HS.out.fin.2.2 Tryz.underlying54 rfl (by exact info35)) rfl ?_
  exact ⟨rfl, HS.out.fin.1, HS.out.fin.2.1⟩
set_option maxHeartbeats 8000000 in
theorem rop5 (w0 : World) (r : Nat) (bs bm : UInt8) (s m : List UInt8) (D : List UInt8) (w : World) (hq : Q w0 w) (hr0 : w0.heap.size ≤ r) (hbs : bs.toNat < 128) (hs : bs.toNat = s.length) (hbm : bm.toNat < 128) (hm : bm.toNat = m.length) (h : Rr w0 r (5 :: bs :: (s ++ (bm :: (m ++ D)))) w) : Calls Tryz.prog 47 #[.pointer (some ⟨r, 0, none⟩)] w fun e W' => e = .returned (.agg #[.int .i64 5, .string ⟨s.toArray⟩, .int .i64 0, .int .i64 0, .bool false, .int .i64 0, .int .i64 0, .string ⟨#[]⟩, .bool false, .int .i64 0, .int .i64 0, .int .i64 0, .string ⟨#[]⟩, .bool false, .int .i64 0, .slice none 0 0, .slice none 0 0, .int .i64 0, .int .i64 0, .int .i64 0, .slice none 0 0, .int .i64 0, .string ⟨m.toArray⟩]) ∧ Rr w0 r D W' ∧ Qx r w W' := by
  have HS := hid (rs_new hq hr0 h)
  clear h
  go_enter Tryz.func47, Tryz.ntmps47
  go_upto_region 2 with fail
  rw [show zL.toArray = #[.int .i64 0, .string ⟨#[]⟩, .int .i64 0, .int .i64 0, .bool false, .int .i64 0, .int .i64 0, .string ⟨#[]⟩, .bool false, .int .i64 0, .int .i64 0, .int .i64 0, .string ⟨#[]⟩, .bool false, .int .i64 0, .slice none 0 0, .slice none 0 0, .int .i64 0, .int .i64 0, .int .i64 0, .slice none 0 0, .int .i64 0, .string ⟨#[]⟩] from rfl] at HS
  generalize (w.alloc (.cells #[.int .i64 0, .string ⟨#[]⟩, .int .i64 0, .int .i64 0, .bool false, .int .i64 0, .int .i64 0, .string ⟨#[]⟩, .bool false, .int .i64 0, .int .i64 0, .int .i64 0, .string ⟨#[]⟩, .bool false, .int .i64 0, .slice none 0 0, .slice none 0 0, .int .i64 0, .int .i64 0, .int .i64 0, .slice none 0 0, .int .i64 0, .string ⟨#[]⟩] 54)).alloc (.cells #[.int .i64 0, .string ⟨#[]⟩, .int .i64 0, .int .i64 0, .bool false, .int .i64 0, .int .i64 0, .string ⟨#[]⟩, .bool false, .int .i64 0, .int .i64 0, .int .i64 0, .string ⟨#[]⟩, .bool false, .int .i64 0, .slice none 0 0, .slice none 0 0, .int .i64 0, .int .i64 0, .int .i64 0, .slice none 0 0, .int .i64 0, .string ⟨#[]⟩] 54) = w1 at HS ⊢
  generalize w.heap.size + 1 = b1 at HS ⊢
  generalize w.heap.size = b0 at HS ⊢
  have HN1 : Hid (Calls Tryz.prog 46 #[.pointer (some ⟨r, 0, none⟩), .int .i64 7] w1 fun e W' => e = .returned (.int .i64 5) ∧ Rr w0 r (bs :: (s ++ (bm :: (m ++ D)))) W' ∧ Qx r w1 W') := hid (rcount1 w0 r 7 5 _ w1 HS.out.qq (by decide) (by decide) (by decide) HS.out.rr)
  go_upto_region 3 with (go_at_call 46; refine (HN1.out).mono ?_; rintro e9 y2 ⟨rfl, hw9, hq9⟩; have HS9 := hid (HS.out.call hw9 hq9); have d0 := HS9.out.c.c 0 _ rfl; have f0 := HS9.out.c.f 0; clear hw9 hq9)
  replace HS := hid (HS9.out.put 0 (.int .i64 5))
  clear HS9 d0 f0
  generalize y2.setCell ⟨b1, 0, none⟩ (.int .i64 5) = w2 at HS ⊢
  clear HN1
  go_upto_region 4 with (go_at_call 62; refine (rtext1 w0 r bs s _ _ HS.out.qq HS.out.n.1 hbs hs HS.out.rr).mono ?_; rintro e9 y3 ⟨rfl, hw9, hq9⟩; have HS9 := hid (HS.out.call hw9 hq9); have d1 := HS9.out.c.c 1 _ rfl; have f1 := HS9.out.c.f 1; clear hw9 hq9)
  replace HS := hid (HS9.out.put 1 (.string ⟨s.toArray⟩))
  clear HS9 d1 f1
  generalize y3.setCell ⟨b1, 1, none⟩ (.string ⟨s.toArray⟩) = w3 at HS ⊢
  have e0 : w3.cell? ⟨b1, 0, none⟩ = some (.int .i64 5) := HS.out.c.c 0 _ rfl
  go_upto_region 19 with fail
  clear e0
  go_upto_region 20 with (go_at_call 62; refine (rtext1 w0 r bm m _ _ HS.out.qq HS.out.n.1 hbm hm HS.out.rr).mono ?_; rintro e9 y4 ⟨rfl, hw9, hq9⟩; have HS9 := hid (HS.out.call hw9 hq9); have d22 := HS9.out.c.c 22 _ rfl; have f22 := HS9.out.c.f 22; clear hw9 hq9)
  replace HS := hid (HS9.out.put 22 (.string ⟨m.toArray⟩))
  clear HS9 d22 f22
  generalize y4.setCell ⟨b1, 22, none⟩ (.string ⟨m.toArray⟩) = w4 at HS ⊢
  rw [show ((zL.set 0 (.int .i64 5)).set 1 (.string ⟨s.toArray⟩)).set 22 (.string ⟨m.toArray⟩) = [.int .i64 5, .string ⟨s.toArray⟩, .int .i64 0, .int .i64 0, .bool false, .int .i64 0, .int .i64 0, .string ⟨#[]⟩, .bool false, .int .i64 0, .int .i64 0, .int .i64 0, .string ⟨#[]⟩, .bool false, .int .i64 0, .slice none 0 0, .slice none 0 0, .int .i64 0, .int .i64 0, .int .i64 0, .slice none 0 0, .int .i64 0, .string ⟨m.toArray⟩] from rfl] at HS
  go_wp2_with (first
    | (with_reducible refine wpl_load (by with_unfolding_all rfl) _ (by with_unfolding_all rfl) b1 (by with_unfolding_all rfl) [.int .i64 5, .string ⟨s.toArray⟩, .int .i64 0, .int .i64 0, .bool false, .int .i64 0, .int .i64 0, .string ⟨#[]⟩, .bool false, .int .i64 0, .int .i64 0, .int .i64 0, .string ⟨#[]⟩, .bool false, .int .i64 0, .slice none 0 0, .slice none 0 0, .int .i64 0, .int .i64 0, .int .i64 0, .slice none 0 0, .int .i64 0, .string ⟨m.toArray⟩] (by with_unfolding_all exact HS.out.c) (by with_unfolding_all rfl) ?_)
    | (with_reducible refine wpList_store_row (by with_unfolding_all rfl) 54 _ _ (by with_unfolding_all rfl) b0 #[.int .i64 5, .string ⟨s.toArray⟩, .int .i64 0, .int .i64 0, .bool false, .int .i64 0, .int .i64 0, .string ⟨#[]⟩, .bool false, .int .i64 0, .int .i64 0, .int .i64 0, .string ⟨#[]⟩, .bool false, .int .i64 0, .slice none 0 0, .slice none 0 0, .int .i64 0, .int .i64 0, .int .i64 0, .slice none 0 0, .int .i64 0, .string ⟨m.toArray⟩] (by with_unfolding_all rfl) (by with_unfolding_all rfl) 54 zL.toArray HS.out.z.h (by with_unfolding_all exact info35) (by with_unfolding_all rfl) (by kernel_rfl) ?_))
  refine bodyPost_ret (v := .agg #[.int .i64 5, .string ⟨s.toArray⟩, .int .i64 0, .int .i64 0, .bool false, .int .i64 0, .int .i64 0, .string ⟨#[]⟩, .bool false, .int .i64 0, .int .i64 0, .int .i64 0, .string ⟨#[]⟩, .bool false, .int .i64 0, .slice none 0 0, .slice none 0 0, .int .i64 0, .int .i64 0, .int .i64 0, .slice none 0 0, .int .i64 0, .string ⟨m.toArray⟩]) (results_cell_row Tryz.results47 _ _ b0 54 #[.int .i64 5, .string ⟨s.toArray⟩, .int .i64 0, .int .i64 0, .bool false, .int .i64 0, .int .i64 0, .string ⟨#[]⟩, .bool false, .int .i64 0, .int .i64 0, .int .i64 0, .string ⟨#[]⟩, .bool false, .int .i64 0, .slice none 0 0, .slice none 0 0, .int .i64 0, .int .i64 0, .int .i64 0, .slice none 0 0, .int .i64 0, .string ⟨m.toArray⟩] (0, 0) _ (by rfl) HS.out.fin.2.2 Tryz.underlying54 rfl (by exact info35)) rfl ?_
  exact ⟨rfl, HS.out.fin.1, HS.out.fin.2.1⟩
theorem info35y : (Tryz.prog.info? 54).map (fun i => (i.zero, i.size, i.bytes)) = some (some (.agg zero23), 23, 264) := by kernel_rfl
theorem flat_y (y : Rv) : (flat Rv.L [y]).toArray = y.L.toArray := by simp [flat]
def ROp (w0 : World) (r : Nat) (x : Rv) (bs : List UInt8) : Prop := ∀ D W, Q w0 W → w0.heap.size ≤ r → Rr w0 r (bs ++ D) W → Calls Tryz.prog 47 #[.pointer (some ⟨r, 0, none⟩)] W fun e W' => e = .returned (.agg x.L.toArray) ∧ Rr w0 r D W' ∧ Qx r W W'
theorem own_qx {B r : Nat} {W W' : World} {v : Value} {L : List Rv} (h : Own Rv.L 54 23 B W v L) (q : Qx r W W') (hr : r < B) : Own Rv.L 54 23 B W' v L := by
  obtain ⟨hl, h⟩ := h
  refine ⟨hl, ?_⟩
  rcases h with h | ⟨g, cap, cur, hv, hb, hg, h1, h2, h3, h4⟩
  · exact .inl h
  · exact .inr ⟨g, cap, cur, hv, hb, (q.block g (heap_of hg) (fun e => by have := Option.some.inj e; omega)).trans hg, h1, h2, h3, h4⟩
theorem rr_grow {w0 : World} {r : Nat} {D : List UInt8} {W W' : World} {v : Value} (h : Rr w0 r D W) (hg : W.grownBy W' v.ownBlock) (hne : ∀ j, v.ownBlock = some j → r ≠ j) : Rr w0 r D W' := by
  obtain ⟨u, nd, hk, hs⟩ := h.h
  exact ⟨u, nd, (hg.block r (heap_of hk) (fun e => hne r e.symm rfl)).trans hk, hs⟩
theorem qx_grow {r : Nat} {w W W' : World} {v : Value} (h : Qx r w W) (hg : W.grownBy W' v.ownBlock) (hne : ∀ j, v.ownBlock = some j → w.heap.size ≤ j) : Qx r w W' :=
  ⟨hg.os.trans h.os, hg.tape.trans h.tape, hg.output.trans h.output, Nat.le_trans h.size hg.size, fun i hi hr => (hg.block i (Nat.lt_of_lt_of_le hi h.size) (fun e => by have := hne i e.symm; omega)).trans (h.block i hi hr)⟩
set_option maxHeartbeats 8000000 in
theorem rbatch_any (w0 : World) (r : Nat) (bn : UInt8) (xs : List Rv) (ob : Rv → List UInt8) (w : World) (hq : Q w0 w) (hr0 : w0.heap.size ≤ r) (hbn : bn.toNat = xs.length) (hl : xs.length ≤ 32) (ho : ∀ x ∈ xs, ROp w0 r x (ob x)) (h : Rr w0 r (bn :: xs.flatMap ob) w) :
    Calls Tryz.prog 24 #[.pointer (some ⟨r, 0, none⟩)] w fun e W' => ∃ v, e = .returned v ∧ Own Rv.L 54 23 w.heap.size W' v xs ∧ Qx r w W' := by
  obtain ⟨i0, HI⟩ := inf_of info35y
  have HI := hid HI
  have HC := hid (rcount1 w0 r 32 bn _ w hq (by omega) (by omega) (by decide) h)
  have HRL : Hid (r < w.heap.size) := hid h.lt
  have HQ0 := hid hq
  have HO := hid ho
  have HR0 := hid hr0
  rw [hbn] at HC
  clear h hq ho hbn hr0
  go_enter Tryz.func24, Tryz.ntmps24
  go_upto_region 3 with (go_at_call 46; refine HC.out.mono ?_; rintro e9 w1 ⟨rfl, hw9, hq9⟩; have HR := hid hw9; have HX := hid hq9; clear hw9 hq9)
  clear HC
  go_wp2_with fail
  go_loopw [3, 6] (fun o s W => ∃ (n : Nat), n ≤ xs.length ∧ s = .int .i64 n ∧ Hid (Own Rv.L 54 23 w.heap.size W o (xs.take n)) ∧ Hid (Rr w0 r ((xs.drop n).flatMap ob) W) ∧ Hid (Qx r w W)) (fun _ s _ => xs.length - (intOf s).toNat)
  case atStart => exact ⟨0, Nat.zero_le _, rfl, hid (own_nil _), by simpa using HR, HX⟩
  case round =>
    obtain ⟨n, hn, rfl, hown, hr9, hq9⟩ := hrel
    clear HR HX
    have HOW := hown
    have HR := hr9
    have HX := hq9
    clear hown hr9 hq9
    have HQ : Hid (Q w0 wr) := hid (HX.out.qq HQ0.out HR0.out)
    by_cases hlt : n < xs.length
    · have hlt' : (n : Int) < (xs.length : Int) := by omega
      have HT : Hid (xs.take (n + 1) = xs.take n ++ [xs[n]]) := hid (List.take_succ_eq_append_getElem hlt)
      have HD : Hid ((xs.drop n).flatMap ob = ob xs[n] ++ (xs.drop (n + 1)).flatMap ob) := hid (by rw [List.drop_eq_getElem_cons hlt, List.flatMap_cons])
      have HX1 := hid (HO.out _ (List.getElem_mem hlt))
      have HLN : Hid ((xs.take n).length = n) := hid (by simp; omega)
      generalize xs[n] = x at HT HD HX1
      rw [HD.out] at HR
      have HCall := hid (HX1.out _ wr HQ.out HR0.out HR.out)
      go_wp2_with (first
        | (go_at_call 47; refine HCall.out.mono ?_; rintro e9 V ⟨rfl, hw9, hq9⟩; have HRV := hid hw9; have HXV := hid hq9; clear hw9 hq9)
        | (with_reducible refine wpl_bsl 1 _ (by with_unfolding_all rfl) (by with_unfolding_all rfl) [x] (by decide) (by kernel_rfl) ?_)
        | (at_builtin; refine wpList_append_own (w := V.alloc (.cells (flat Rv.L [x]).toArray 54)) rfl _ _ 22 rfl w.heap.size 54 i0 (.agg zero23) 23 264 Tryz.underlying22 HI.out.1 HI.out.2.1 HI.out.2.2.1 HI.out.2.2.2 rfl (by decide) _ _ _ rfl ((own_qx HOW.out HXV.out HRL.out).alloc _) _ 1 1 x.L rfl rfl ?c1 ?c2 ?c3 ?c4 ?c5 ?_))
      case c1 => rw [flat_y]; exact news_new V x.L 54
      case c2 => exact x.ones
      case c3 => unfold maxLen; have := HLN.out; omega
      case c4 => have := HLN.out; omega
      case c5 => have := HX.out.size; have := HXV.out.size; simp; omega
      intro v3 w3 hown3 hgrow _
      have HO3 := hid (own_snoc' (enc := Rv.L) (x := x) hown3 (by have := HLN.out; omega))
      have HB := hid (((own_qx HOW.out HXV.out HRL.out).alloc (.cells (flat Rv.L [x]).toArray 54)).blk)
      have HR3 := hid (rr_grow (HRV.out.on ((Q.refl _).alloc (.cells (flat Rv.L [x]).toArray 54))) hgrow (fun j hj => by have := HB.out j hj; have := HRL.out; omega))
      have HX3 := hid (qx_grow ((HX.out.trans HXV.out).alloc (.cells (flat Rv.L [x]).toArray 54)) hgrow (fun j hj => HB.out j hj))
      clear hown3 hgrow HOW HR HX HRV HXV HCall HB
      go_wp2_with fail
      go_roundw
      case rel => exact ⟨n + 1, by omega, by go_num, hid (by rw [HT.out]; exact HO3.out), HR3, HX3⟩
      case measure => simp [intOf]; omega
    · have HN : Hid (xs.take n = xs) := hid (List.take_of_length_le (by omega))
      rw [HN.out] at HOW
      go_wp2_with fail
      go_ret
      exact ⟨_, rfl, HOW.out, HX.out⟩
set_option maxHeartbeats 4000000 in
theorem rbatch_nil (w0 : World) (r : Nat) (w : World) (h : Rr w0 r [] w) :
    Calls Tryz.prog 24 #[.pointer (some ⟨r, 0, none⟩)] w fun e W' => e = .returned (.slice none 0 0) ∧ Qx r w W' := by
  have HC := hid (rcount0 w0 r 32 w (by decide) h)
  clear h
  go_enter Tryz.func24, Tryz.ntmps24
  go_upto_region 3 with (go_at_call 46; refine HC.out.mono ?_; rintro e9 w1 ⟨rfl, hw9, hq9⟩; have HX := hid hq9; clear hw9 hq9)
  clear HC
  go_wp2_with fail
  go_loopw [3, 6] (fun o s W => o = .slice none 0 0 ∧ s = .int .i64 0 ∧ W = w1) (fun _ _ _ => 0)
  case atStart => exact ⟨rfl, rfl, rfl⟩
  case round =>
    obtain ⟨rfl, rfl, rfl⟩ := hrel
    go_wp2_with fail
    go_ret
    exact ⟨rfl, HX.out⟩
structure OpT (w : World) (x : Rv) (b : Bool) (bs : List UInt8) : Prop where
  may : ∀ V, Q w V → Calls Tryz.prog 37 #[.agg x.L.toArray] V fun e V' => e = .returned (.bool b) ∧ Q V V'
  wr : b = true → ∀ V p, WOp V p x bs
  rd : b = true → ∀ V r, ROp V r x bs
  len : bs.length ≤ 10000
theorem OpT.on {w V : World} {x : Rv} {b : Bool} {bs : List UInt8} (h : OpT w x b bs) (q : Q w V) : OpT V x b bs := ⟨fun U u => h.may U (q.trans u), h.wr, h.rd, h.len⟩
theorem encode_t (v : Value) (xs : List Rv) (mb : Rv → Bool) (ob : Rv → List UInt8) (w : World) (h : Sl Rv.L 23 w v xs) (ho : ∀ x ∈ xs, OpT w x (mb x) (ob x)) :
    Calls Tryz.prog 10 #[v] w fun e W' => EncP w (decide (xs.length ≤ 32) && xs.all mb) (vn xs.length ++ xs.flatMap ob) e W' :=
  encode_any v xs mb ob w h (fun x hx => (ho x hx).may) (fun x hx => (ho x hx).len) (fun ha x hx p hp => (ho x hx).wr (List.all_eq_true.1 ha x hx) w p)
def DecP (w : World) (xs : List Rv) (e : Ending) (W' : World) : Prop := Q w W' ∧ ∃ v, e = .returned (.tuple #[v, .int .i64 0]) ∧ Sl Rv.L 23 W' v xs
set_option maxHeartbeats 8000000 in
theorem decode_any (u : Value) (xs : List Rv) (mb : Rv → Bool) (ob : Rv → List UInt8) (w : World) (hl : xs.length ≤ 32) (ha : xs.all mb = true) (ho : ∀ x ∈ xs, OpT w x (mb x) (ob x)) (h : Sl eb 1 w u (vn xs.length ++ xs.flatMap ob)) :
    Calls Tryz.prog 12 #[u] w fun e W' => DecP w xs e W' := by
  have HS := hid h
  have HO := hid ho
  have HA := hid ha
  have HL := hid hl
  obtain ⟨au, cu, rfl, _, _⟩ := h.len
  have HR0 : Hid (Rr w w.heap.size (vn xs.length ++ xs.flatMap ob) (w.alloc (.cells #[.slice au (vn xs.length ++ xs.flatMap ob).length cu, .int .i64 0] 63))) := hid ⟨_, 0, heap_alloc_last w _, h⟩
  clear h ho ha hl
  generalize (vn xs.length ++ xs.flatMap ob).length = nu at HS HR0 ⊢
  rw [vn_lt (by have := HL.out; omega)] at HR0
  have QA : Hid (Q w (w.alloc (.cells #[.slice au nu cu, .int .i64 0] 63))) := hid ((Q.refl w).alloc _)
  have HGE : Hid (w.heap.size ≤ w.heap.size) := hid (Nat.le_refl _)
  have HBN : Hid ((UInt8.ofNat xs.length).toNat = xs.length) := hid (by have := HL.out; simp; omega)
  go_enter Tryz.func12, Tryz.ntmps12
  go_upto_region 2 with fail
  generalize w.alloc (.cells #[.slice au nu cu, .int .i64 0] 63) = w1 at HR0 QA ⊢
  obtain ⟨r, hr⟩ : ∃ r, w.heap.size = r := ⟨_, rfl⟩
  rw [hr] at HR0 ⊢
  have HRW : Hid (w.heap.size ≤ r) := hid (by omega)
  clear hr HGE
  have HB := hid (rbatch_any w r (UInt8.ofNat xs.length) xs ob w1 QA.out HRW.out HBN.out HL.out (fun x hx => (HO.out x hx).rd (List.all_eq_true.1 HA.out x hx) w r) HR0.out)
  go_upto_region 3 with (go_at_call 24; refine HB.out.mono ?_; rintro e9 w2 ⟨v, rfl, hw9, hq9⟩; have HV := hid (hw9.sl Rv.len (by decide)); have HQ2 := hid (hq9.qq QA.out HRW.out); clear hw9 hq9)
  clear HB HR0
  have HE := hid (encode_t v xs mb ob w2 HV.out (fun x hx => (HO.out x hx).on HQ2.out))
  rw [decide_eq_true HL.out, HA.out] at HE
  go_upto_region 4 with (go_at_call 10; refine HE.out.mono ?_; rintro e9 w3 ⟨hq9, he9, _⟩; obtain ⟨vb, rfl, hs9⟩ := he9 rfl; have HQ3 := hid hq9; have HVB := hid hs9; clear hq9 he9 hs9)
  have HEQ := hid (bytesEqual_any vb (.slice au nu cu) _ _ w3 HVB.out (HS.out.on (HQ2.out.trans HQ3.out)))
  rw [decide_eq_true rfl] at HEQ
  go_wp2_with (go_at_call 25; refine HEQ.out.mono ?_; rintro e9 w4 ⟨rfl, hq9⟩; have HQ4 := hid hq9; clear hq9)
  go_ret2
  exact ⟨HQ2.out.trans (HQ3.out.trans HQ4.out), v, rfl, (HV.out.on HQ3.out).on HQ4.out⟩
set_option maxHeartbeats 8000000 in
theorem decode_nil (w : World) : Calls Tryz.prog 12 #[.slice none 0 0] w fun e W' => e = .returned (.tuple #[.slice none 0 0, .int .i64 5]) ∧ Q w W' := by
  have HR0 : Hid (Rr w w.heap.size [] (w.alloc (.cells #[.slice none 0 0, .int .i64 0] 63))) := hid ⟨_, 0, heap_alloc_last w _, sl_nil w⟩
  have QA : Hid (Q w (w.alloc (.cells #[.slice none 0 0, .int .i64 0] 63))) := hid ((Q.refl w).alloc _)
  go_enter Tryz.func12, Tryz.ntmps12
  go_upto_region 2 with fail
  generalize w.alloc (.cells #[.slice none 0 0, .int .i64 0] 63) = w1 at HR0 QA ⊢
  obtain ⟨r, hr⟩ : ∃ r, w.heap.size = r := ⟨_, rfl⟩
  rw [hr] at HR0 ⊢
  have HRW : Hid (w.heap.size ≤ r) := hid (by omega)
  clear hr
  have HB := hid (rbatch_nil w r w1 HR0.out)
  go_upto_region 3 with (go_at_call 24; refine HB.out.mono ?_; rintro e9 w2 ⟨rfl, hq9⟩; have HQ2 := hid (hq9.qq QA.out HRW.out); clear hq9)
  clear HB HR0
  have HE := hid (encode_t (.slice none 0 0) [] (fun _ => true) (fun _ => []) w2 (sl_nil w2) (fun x hx => absurd hx (by simp)))
  go_upto_region 4 with (go_at_call 10; refine HE.out.mono ?_; rintro e9 w3 ⟨hq9, he9, _⟩; obtain ⟨vb, rfl, hs9⟩ := he9 rfl; have HQ3 := hid hq9; have HVB := hid hs9; clear hq9 he9 hs9)
  have HEQ := hid (bytesEqual_any vb (.slice none 0 0) _ [] w3 HVB.out (sl_nil w3))
  rw [decide_eq_false (by simp [vn_lt])] at HEQ
  go_wp2_with (go_at_call 25; refine HEQ.out.mono ?_; rintro e9 w4 ⟨rfl, hq9⟩; have HQ4 := hid hq9; clear hq9)
  go_ret2
  exact ⟨rfl, HQ2.out.trans (HQ3.out.trans HQ4.out)⟩
def xSet (i : Nat) : Rv := ⟨1, ⟨#[99, 48, 110, 48]⟩, i, 0, false, 0, 0, ⟨#[]⟩, false, 0, 0, 0, ⟨#[]⟩, false, 0, none, 0, 0, none, 0, 0, 0, 0, 0, none, 0, 0, 0, ⟨#[]⟩⟩
def xAdd : Rv := ⟨5, ⟨#[99, 49, 110, 49]⟩, 0, 0, false, 0, 0, ⟨#[]⟩, false, 0, 0, 0, ⟨#[]⟩, false, 0, none, 0, 0, none, 0, 0, 0, 0, 0, none, 0, 0, 0, ⟨#[120]⟩⟩
def xZero : Rv := ⟨0, ⟨#[]⟩, 0, 0, false, 0, 0, ⟨#[]⟩, false, 0, 0, 0, ⟨#[]⟩, false, 0, none, 0, 0, none, 0, 0, 0, 0, 0, none, 0, 0, 0, ⟨#[]⟩⟩
def ob (x : Rv) : List UInt8 := if x.k = 1 then [1, 4, 99, 48, 110, 48, UInt8.ofNat x.row.toNat, 0, 0] else if x.k = 5 then [5, 4, 99, 49, 110, 49, 1, 120] else []
def mb (x : Rv) : Bool := decide (x.k = 1 ∨ x.k = 5)
theorem lnB_nat (i : Nat) (h : i < 128) : lnB (i : Int) = true := decide_eq_true (by omega)
theorem of_u8 {i : Nat} (h : i < 128) : (UInt8.ofNat i).toNat = i := by simp; omega
theorem may_set (i : Nat) (hi : i < 128) (w : World) (hg : Gd w) : Calls Tryz.prog 37 #[.agg (xSet i).L.toArray] w fun e V' => e = .returned (.bool true) ∧ Q w V' := by
  have HE := hid (fun V (q : Q w V) => opeq_any (⟨1, ⟨#[99, 48, 110, 48]⟩, 0, 0, false, 0, 0, ⟨#[]⟩, false, 0, 0, 0, ⟨#[]⟩, false, 0, none, 0, 0, none, 0, 0, 0, 0, 0, none, 0, 0, 0, ⟨#[]⟩⟩ : Rv) (⟨1, ⟨#[99, 48, 110, 48]⟩, 0, 0, false, 0, 0, ⟨#[]⟩, false, 0, 0, 0, ⟨#[]⟩, false, 0, none, 0, 0, none, 0, 0, 0, 0, 0, none, 0, 0, 0, ⟨#[]⟩⟩ : Rv) zeroE zeroE [] [] true V ⟨rd_zero V, R.sl_nil V⟩ ⟨rd_zero V, R.sl_nil V⟩ (by decide) (by decide) (by decide) ⟨fun _ => ⟨rfl, rfl, rfl, rfl, ⟨rfl, rfl, rfl⟩, rfl, rfl, rfl, rfl, ⟨rfl, rfl, rfl, rfl, rfl⟩, rfl⟩, fun _ => rfl⟩)
  unfold Rv.v at HE
  exact om1 1 ⟨#[99, 48, 110, 48]⟩ (.int .i64 (i : Nat)) (.int .i64 0) (.bool false) (.int .i64 0) (.int .i64 0) (.string ⟨#[]⟩) (.bool false) (.int .i64 0) (.int .i64 0) (.int .i64 0) (.string ⟨#[]⟩) (.bool false) (.int .i64 0) (.slice none 0 0) (.slice none 0 0) (.int .i64 0) (.int .i64 0) (.int .i64 0) (.slice none 0 0) (.int .i64 0) (.string ⟨#[]⟩) w true true true true true (by decide) (hid (by kernel_rfl)) (hid (fun V q => (mayLine_any' i V).mono fun e V' h => ⟨h.1.trans (ret_bool (lnB_nat i hi)), h.2 ▸ Q.refl _⟩)) (hid (fun V q => (mayLine_any' 0 V).mono fun e V' h => ⟨h.1, h.2 ▸ Q.refl _⟩)) (hid (fun V q => smay_val 0 0 ⟨#[]⟩ false 0 0 0 ⟨#[]⟩ false 0 none 0 0 none 0 0 zeroE V (hg.on q) (by decide) (by decide) (rd_zero V))) (hid (fun V q => id_any ⟨#[99, 48, 110, 48]⟩ V (hg.on q).1 (by decide))) HE
theorem may_add (w : World) (hg : Gd w) : Calls Tryz.prog 37 #[.agg xAdd.L.toArray] w fun e V' => e = .returned (.bool true) ∧ Q w V' := by
  have HE := hid (fun V (q : Q w V) => opeq_any (⟨5, ⟨#[99, 49, 110, 49]⟩, 0, 0, false, 0, 0, ⟨#[]⟩, false, 0, 0, 0, ⟨#[]⟩, false, 0, none, 0, 0, none, 0, 0, 0, 0, 0, none, 0, 0, 0, ⟨#[]⟩⟩ : Rv) (⟨5, ⟨#[99, 49, 110, 49]⟩, 0, 0, false, 0, 0, ⟨#[]⟩, false, 0, 0, 0, ⟨#[]⟩, false, 0, none, 0, 0, none, 0, 0, 0, 0, 0, none, 0, 0, 0, ⟨#[]⟩⟩ : Rv) zeroE zeroE [] [] true V ⟨rd_zero V, R.sl_nil V⟩ ⟨rd_zero V, R.sl_nil V⟩ (by decide) (by decide) (by decide) ⟨fun _ => ⟨rfl, rfl, rfl, rfl, ⟨rfl, rfl, rfl⟩, rfl, rfl, rfl, rfl, ⟨rfl, rfl, rfl, rfl, rfl⟩, rfl⟩, fun _ => rfl⟩)
  unfold Rv.v at HE
  exact om5 5 ⟨#[99, 49, 110, 49]⟩ (.int .i64 0) (.int .i64 0) (.bool false) (.int .i64 0) (.int .i64 0) (.string ⟨#[]⟩) (.bool false) (.int .i64 0) (.int .i64 0) (.int .i64 0) (.string ⟨#[]⟩) (.bool false) (.int .i64 0) (.slice none 0 0) (.slice none 0 0) (.int .i64 0) (.int .i64 0) (.int .i64 0) (.slice none 0 0) (.int .i64 0) (.string ⟨#[120]⟩) w true true true (by decide) (by decide) (by decide) (by decide) (by decide) (hid (by kernel_rfl)) (hid (fun V q => (mayName_any' ⟨#[120]⟩ V (by decide)).mono fun e V' h => ⟨h.1, h.2 ▸ Q.refl _⟩)) (hid (fun V q => id_any ⟨#[99, 49, 110, 49]⟩ V (hg.on q).1 (by decide))) HE
theorem may_zero (w : World) : Calls Tryz.prog 37 #[.agg xZero.L.toArray] w fun e V' => e = .returned (.bool false) ∧ Q w V' :=
  om0 0 ⟨#[]⟩ (.int .i64 0) (.int .i64 0) (.bool false) (.int .i64 0) (.int .i64 0) (.string ⟨#[]⟩) (.bool false) (.int .i64 0) (.int .i64 0) (.int .i64 0) (.string ⟨#[]⟩) (.bool false) (.int .i64 0) (.slice none 0 0) (.slice none 0 0) (.int .i64 0) (.int .i64 0) (.int .i64 0) (.slice none 0 0) (.int .i64 0) (.string ⟨#[]⟩) w (by decide) (by decide) (by decide) (by decide) (by decide) (by decide) (by decide) (hid (by kernel_rfl))
theorem ob_set (i : Nat) (h : i < 128) : vn 1 ++ (vn (⟨#[99, 48, 110, 48]⟩ : ByteArray).size ++ ((⟨#[99, 48, 110, 48]⟩ : ByteArray).data.toList ++ (vn i ++ (vn 0 ++ [0])))) = ob (xSet i) := by
  rw [vn_lt (m := 1) (by decide), vn_lt (m := (⟨#[99, 48, 110, 48]⟩ : ByteArray).size) (by decide), vn_lt h, vn_lt (m := 0) (by decide)]
  rfl
theorem ob_add : vn 5 ++ (vn (⟨#[99, 49, 110, 49]⟩ : ByteArray).size ++ ((⟨#[99, 49, 110, 49]⟩ : ByteArray).data.toList ++ (vn (⟨#[120]⟩ : ByteArray).size ++ (⟨#[120]⟩ : ByteArray).data.toList))) = ob xAdd := by
  rw [vn_lt (m := 5) (by decide), vn_lt (m := (⟨#[99, 49, 110, 49]⟩ : ByteArray).size) (by decide), vn_lt (m := (⟨#[120]⟩ : ByteArray).size) (by decide)]
  rfl
theorem opt_set (i : Nat) (hi : i < 128) (w : World) (hg : Gd w) : OpT w (xSet i) (mb (xSet i)) (ob (xSet i)) := by
  refine ⟨fun V q => may_set i hi V (hg.on q), fun _ V p L U q hw hl => ?_, fun _ V r D W q hr h => ?_, by decide +revert⟩
  · have h := wop1 p L ⟨#[99, 48, 110, 48]⟩ i 0 (.bool false) (.int .i64 0) (.int .i64 0) (.string ⟨#[]⟩) (.bool false) (.int .i64 0) (.int .i64 0) (.int .i64 0) (.string ⟨#[]⟩) (.bool false) (.int .i64 0) (.slice none 0 0) (.slice none 0 0) (.int .i64 0) (.int .i64 0) (.int .i64 0) (.slice none 0 0) (.int .i64 0) (.string ⟨#[]⟩) [0] U hw hl (by decide) (by omega) (by decide) (fun L' W hw' _ hl' => wcell0 p L' (.int .i64 0) (.string ⟨#[]⟩) (.bool false) (.int .i64 0) (.int .i64 0) (.int .i64 0) (.string ⟨#[]⟩) (.bool false) (.int .i64 0) (.slice none 0 0) (.slice none 0 0) W hw' hl')
    rw [ob_set i hi] at h
    exact h
  · have h := rop1 V r 4 (UInt8.ofNat i) 0 [99, 48, 110, 48] D W q hr (by decide) (by decide) (by rw [of_u8 hi]; exact hi) (by decide) h
    rw [of_u8 hi] at h
    exact h
theorem opt_add (w : World) (hg : Gd w) : OpT w xAdd (mb xAdd) (ob xAdd) := by
  refine ⟨fun V q => may_add V (hg.on q), fun _ V p L U q hw hl => ?_, fun _ V r D W q hr h => ?_, by decide⟩
  · have h := wop5 p L ⟨#[99, 49, 110, 49]⟩ ⟨#[120]⟩ (.int .i64 0) (.int .i64 0) (.bool false) (.int .i64 0) (.int .i64 0) (.string ⟨#[]⟩) (.bool false) (.int .i64 0) (.int .i64 0) (.int .i64 0) (.string ⟨#[]⟩) (.bool false) (.int .i64 0) (.slice none 0 0) (.slice none 0 0) (.int .i64 0) (.int .i64 0) (.int .i64 0) (.slice none 0 0) (.int .i64 0) U hw hl (by decide) (by decide)
    rw [ob_add] at h
    exact h
  · exact rop5 V r 4 1 [99, 49, 110, 49] [120] D W q hr (by decide) (by decide) (by decide) (by decide) h
theorem opt_zero (w : World) : OpT w xZero (mb xZero) (ob xZero) :=
  ⟨fun V q => may_zero V, fun e => absurd e (by decide), fun e => absurd e (by decide), by decide⟩
theorem eqop_add (V : World) : Calls Tryz.prog 19 #[.agg xAdd.L.toArray, .agg xAdd.L.toArray] V fun e V' => e = .returned (.bool true) ∧ Q V V' :=
  eqop_any xAdd xAdd zeroE zeroE [] [] true V ⟨rd_zero V, R.sl_nil V⟩ ⟨rd_zero V, R.sl_nil V⟩ (by decide) (by decide) ⟨fun _ => ⟨rfl, rfl, rfl, rfl, ⟨rfl, rfl, rfl⟩, rfl, rfl, rfl, rfl, ⟨rfl, rfl, rfl, rfl, rfl⟩, rfl⟩, fun _ => rfl⟩
end Go.Proofs.YtcgddnliiondoaaGreatDoor
