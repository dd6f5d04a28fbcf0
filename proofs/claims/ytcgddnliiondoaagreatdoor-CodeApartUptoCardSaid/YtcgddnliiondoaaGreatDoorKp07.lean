/- Rectangles one behind the other, by a function that hands th. -/
import Derived.Test.YtcgddnliiondoaaGreatDoorKp03
import Derived.RangeFuncNested
import Derived.RangeFuncBound
import Derived.RangeFuncCalls
import Derived.RangeFuncLeaves
import Derived.RangeFuncBox
import Derived.Shelf.Abstract
import Derived.Shelf.RegionOpen
import Derived.OwnWalkIn
import Derived.TacticsInMore
import Derived.LoopNIn
import Derived.LoopIn
import Derived.Maps.AppendAt
set_option linter.unusedVariables false
set_option linter.unusedSimpArgs false
set_option maxRecDepth 100000
set_option maxHeartbeats 8000000
namespace Go.Proofs.YtcgddnliiondoaaGreatDoor.R
open Go.RowKit Go.Shelf
set_option linter.unusedVariables false
set_option linter.unusedSimpArgs false
attribute [local go_sem] Oper.semAt_some
def Lies (n₀ : Nat) (W : World) (v : Value) (L : List Rg.Rc) : Prop :=
  ∃ (ao : Option Addr) (cap : Nat), v = .slice ao L.length cap ∧ (0 < L.length → ∃ b off, ao = some ⟨b, off, none⟩ ∧ b < n₀ ∧ ∀ i (h : i < L.length), At rc W b (off + i * 4) L[i])
theorem Lies.below {n₀ : Nat} {A B : World} (h : Below n₀ A B) {v : Value} {L : List Rg.Rc} (hl : Lies n₀ A v L) : Lies n₀ B v L := by
  obtain ⟨ao, cap, hv, h1⟩ := hl
  refine ⟨ao, cap, hv, fun hp => ?_⟩
  obtain ⟨b, off, ha, hb, hc⟩ := h1 hp
  exact ⟨b, off, ha, hb, fun i hi j u hu => (h.cell (p := ⟨b, off + i * 4 + j, none⟩) hb).trans (hc i hi j u hu)⟩
theorem Sl.lies {W : World} {v : Value} {L : List Rg.Rc} (h : Sl rc 4 W v L) : Lies W.heap.size W v L := by
  obtain ⟨ao, cap, hv, _, _, h1⟩ := h
  refine ⟨ao, cap, hv, fun hp => ?_⟩
  obtain ⟨b, off, ha, hc⟩ := h1 hp
  exact ⟨b, off, ha, World.block_lt_of_cell? W ⟨b, off + 0 * 4 + 0, none⟩ (hc 0 hp 0 _ rfl), hc⟩
set_option maxHeartbeats 2000000 in
theorem values1_in (F : Fence) (n : Nat) (h41 : F.fn 151) (hro : F.round = none) (hn : 1 ≤ n) (l Bs n₀ : Nat) (v : Value) (L : List Rg.Rc) (hL : L.length ≤ 1000000) (J Jx : List Rg.Rc → World → Prop)
    (hY : ∀ pre x W, J pre W → pre.length < L.length → YieldAt F (n - 1) Tryz.prog l #[.agg (rc x).toArray] W fun e W' =>
      (e = .returned (.bool true) ∧ J (pre ++ [x]) W' ∧ Below n₀ W W') ∨ (e = .returned (.bool false) ∧ Jx (pre ++ [x]) W'))
    (W : World) (hJ : ∀ s A o, J s A → J s (A.alloc o)) (hn₀ : n₀ ≤ W.heap.size) (hBs : W.cell? ⟨Bs, 0, none⟩ = some v) (hl : Lies n₀ W v L) (h0 : J [] W) :
    CallsIn F n Tryz.prog 151 #[.func (.yield l) #[] #[], .pointer (some ⟨Bs, 0, none⟩)] W fun e W' => (∃ v, e = .returned v) ∧
      ((∃ ys, ys = L ∧ J ys W') ∨ (∃ pre, pre <+: L ∧ Jx pre W')) := by
  have HL := hid hl
  have HJ := hid hJ
  have HY := hid hY
  obtain ⟨ao, cap, rfl, _⟩ := hl
  clear hJ hY
  refine callsIn_of_wp Tryz.func151 rfl h41 ?_ hro
  simp only [Tryz.ntmps151, List.size_toArray, List.length_cons, List.length_nil, Nat.reduceAdd, Nat.reduceSub, Array.replicate_succ, Array.replicate_zero, List.push_toArray, List.append_toArray, List.nil_append, List.cons_append]
  gi_wp2
  gi_loopw [7] (fun i wr => ∃ k : Nat, k ≤ L.length ∧ i = .int .i64 k ∧ J (L.take k) wr ∧ Below n₀ W wr)
    (fun i _ => L.length - (intOf i).toNat)
  case atStart => exact ⟨0, Nat.zero_le _, rfl, by rw [List.take_zero]; exact h0, Below.refl _ _⟩
  case round =>
    obtain ⟨k, hk, rfl, hJs, hnx⟩ := hrel
    have HNX := hid hnx
    have hsz : n₀ ≤ wr.heap.size := Nat.le_trans hn₀ hnx.size
    clear hnx
    by_cases hlt : k < L.length
    · have hlt' : (k : Int) < (L.length : Int) := by omega
      obtain ⟨ao', cap', e, h1⟩ := HL.out.below HNX.out
      cases e
      obtain ⟨b, off, rfl, hb, hc⟩ := h1 (by omega)
      have hc := hc k hlt
      have HT := hid (List.take_succ_eq_append_getElem hlt)
      generalize L[k] = x at *
      obtain ⟨xa, xb, xc, xd⟩ := x
      have c0 : wr.cell? ⟨b, off + k * 4, none⟩ = some (.int .i64 xa) := hc 0 _ rfl
      have c1 : wr.cell? ⟨b, off + k * 4 + 1, none⟩ = some (.int .i64 xb) := hc 1 _ rfl
      have c2 : wr.cell? ⟨b, off + k * 4 + 2, none⟩ = some (.int .i64 xc) := hc 2 _ rfl
      have c3 : wr.cell? ⟨b, off + k * 4 + 3, none⟩ = some (.int .i64 xd) := hc 3 _ rfl
      clear hc h1
      obtain ⟨fn, tmps, assign, body, hy, hR⟩ := HY.out _ ⟨xa, xb, xc, xd⟩ (wr.alloc (.cells #[.int .i64 xa, .int .i64 xb, .int .i64 xc, .int .i64 xd] 101)) (HJ.out _ _ _ hJs) (by rw [List.length_take]; omega)
      simp only [rc] at hy
      gi_wp2
      refine hR.mono ?_
      rintro e W3 (⟨rfl, hJ3, hk3⟩ | ⟨rfl, hJx3⟩)
      · have HK3 := hid hk3
        clear hk3
        gi_wp2
        go_roundw
        case rel => exact ⟨k + 1, by omega, by simp, by rw [HT.out]; exact hJ3, HNX.out.trans (((Below.refl _ wr).alloc hsz _).trans HK3.out)⟩
        case measure => simp [intOf]; omega
      · gi_wp2
        refine bodyPost_ret (results_none rfl _ _ _) rfl ?_
        exact ⟨⟨_, rfl⟩, .inr ⟨_, by rw [← HT.out]; exact List.take_prefix _ _, hJx3⟩⟩
    · obtain rfl : k = L.length := by omega
      gi_wp2
      go_end0
      exact ⟨⟨_, rfl⟩, .inl ⟨_, List.take_of_length_le (Nat.le_refl _), hJs⟩⟩
end Go.Proofs.YtcgddnliiondoaaGreatDoor.R
namespace Go.Proofs.YtcgddnliiondoaaGreatDoor.R
open Go.RowKit Go.Shelf
set_option linter.unusedVariables false
set_option linter.unusedSimpArgs false
attribute [local go_sem] Oper.semAt_some
theorem values_stops (F : Fence) (n : Nat) (h41 : F.fn 151) (hro : F.round = none) (hn : 1 ≤ n) (Bs n₀ : Nat) (v : Value) (L : List Rg.Rc) (hL : L.length ≤ 1000000) (w : World) (hBs : Bs < w.heap.size) (hn₀ : n₀ ≤ w.heap.size)
    (hc : w.cell? ⟨Bs, 0, none⟩ = some v) (hI : Lies n₀ w v L) :
    SeqStopsK F n Tryz.prog 151 #[.pointer (some ⟨Bs, 0, none⟩)] (fun x : Rg.Rc => #[Value.agg (rc x).toArray]) (Below n₀) (fun ys => ys = L) (fun pre => pre <+: L) L.length w := fun l J Jx W hW hJ _ hY h0 =>
  values1_in F n h41 hro hn l Bs n₀ v L hL J Jx hY W (fun s A o h => hJ s A _ none h (World.grownBy_alloc A o none) (fun r e => by cases e)) (Nat.le_trans hn₀ hW.size) ((hW.cell (p := ⟨Bs, 0, none⟩) hBs).trans hc) (hI.below (hW.mono hn₀)) h0
def Ax (b : Nat) (fv : Value) (x : Rg.Rc) (a' : Act) (W : World) : Prop :=
  ∃ Bx, b < Bx ∧ W.heap[Bx]? = some (.cells (rc x).toArray 101 (0, 0)) ∧ a' = { tmps := #[.slice none 0 0, fv, .pointer (some ⟨b, 0, none⟩), undef, .slice none 0 0, .pointer (some ⟨Bx, 0, none⟩), fv, .agg (rc x).toArray, undef, undef, undef, undef, undef], defers := [] }
theorem ax_own (b : Nat) (fv : Value) (B : Nat) (x : Rg.Rc) (a' : Act) : OwnFrom B (fun (_ : Unit) W => Ax b fv x a' W) := by
  rintro _ X Y row ⟨Bx, h1, h2, h3⟩ hg hr
  refine ⟨Bx, h1, (hg.block Bx (Array.getElem?_eq_some_iff.1 h2).1 (fun e => ?_)).trans h2, h3⟩
  obtain ⟨_, o, ho, hc⟩ := hr Bx e.symm
  rw [h2] at ho
  cases ho
  cases hc
set_option maxHeartbeats 4000000 in
theorem appendSeq_in (Bs : Nat) (sv : Value) (L : List Rg.Rc) (hL : L.length ≤ 1000000) (w : World) (hBs : Bs < w.heap.size) (hc : w.cell? ⟨Bs, 0, none⟩ = some sv) (hI : Lies w.heap.size w sv L) :
    CallsIn Fence.wide 3 Tryz.prog 160 #[.slice none 0 0, .func (.func 151) #[] #[.pointer (some ⟨Bs, 0, none⟩)]] w fun e w' => ∃ v, e = .returned v ∧ Own rc 101 4 w.heap.size w' v L ∧ Q w w' := by
  obtain ⟨i0, HI⟩ := inf_of info28
  have HI := hid HI
  refine callsIn_of_wp_marks Tryz.func160 rfl trivial ?_ rfl
  simp only [Tryz.ntmps160, List.size_toArray, List.length_cons, List.length_nil, Nat.reduceAdd, Nat.reduceSub, Array.replicate_succ, Array.replicate_zero, List.push_toArray, List.append_toArray, List.nil_append, List.cons_append]
  gi_wp2
  have bO := Boxed.new w 52 (.slice none 0 0)
  have hB0 : Below w.heap.size w (w.alloc (.cells #[.slice none 0 0] 52)) := (Below.refl _ w).alloc (Nat.le_refl _) _
  refine wpIn_rangeFunc_ownH (n := 3) rfl (by decide) (gf := 151) (lb := #[.pointer (some ⟨Bs, 0, none⟩)]) rfl trivial (enters_of Tryz.func151 (by kernel_rfl) rfl)
    (values_stops Fence.wide (3 - 1) trivial rfl (by decide) Bs w.heap.size sv L hL _ (by simp; omega) (by simp) ((hB0.cell (p := ⟨Bs, 0, none⟩) hBs).trans hc) (hI.below hB0)) belowK_t (belowK_b (by simp)) (Below.refl _ _) (fun _ => rfl)
    (fun pre W => (∃ v, Boxed W w.heap.size 52 v ∧ W.ownsRow w.heap.size 101 4 v pre.length (flat rc pre) ∧ True) ∧ Below w.heap.size w W)
    (fun _ _ _ => False)
    (OwnFrom.and (_root_.Go.Own.from (holdsRow_own w.heap.size w.heap.size 52 101 4 (fun pre => pre.length) (fun pre => flat rc pre) (fun _ _ => True)) _) (ownFrom_below (Nat.le_refl _) (by simp)))
    (fun _ _ _ _ _ hs _ _ => hs)
    ⟨⟨_, bO, World.ownsRow_nil _ _ _ _, trivial⟩, hB0⟩
    (Ax w.heap.size (.func (.func 151) #[] #[.pointer (some ⟨Bs, 0, none⟩)])) (fun x a' => ax_own _ _ _ x a') ?assign ?body ?done ?stop
  case assign =>
    rintro l pre ⟨xa, xb, xc, xd⟩ W K ⟨⟨v, hv, hrow, -⟩, hB⟩ hK
    simp only [rc]
    gi_wp2
    exact hK _ _ ((KeepsOthers.alloc _ _).from _) ((Below.refl _ W).alloc hB.size _) ⟨⟨v, hv.alloc _, hrow.alloc _, trivial⟩, hB.alloc hB.size _⟩ ⟨W.heap.size, hv.lt, World.alloc_heap_new W _, rfl⟩
  case body =>
    rintro l pre ⟨xa, xb, xc, xd⟩ a' W hl ⟨r, hr⟩ ⟨⟨v, hv, hrow, -⟩, hB⟩ ⟨Bx, hBx, bX, rfl⟩ hlt
    have hc0 := hv.cell
    simp only [rc] at bX
    have c0 : W.cell? ⟨Bx, 0, none⟩ = some (.int .i64 xa) := by simp [World.cell?, bX]
    have c1 : W.cell? ⟨Bx, 1, none⟩ = some (.int .i64 xb) := by simp [World.cell?, bX]
    have c2 : W.cell? ⟨Bx, 2, none⟩ = some (.int .i64 xc) := by simp [World.cell?, bX]
    have c3 : W.cell? ⟨Bx, 3, none⟩ = some (.int .i64 xd) := by simp [World.cell?, bX]
    have hlt' : pre.length < L.length := hlt
    simp only [rc]
    gi_wp2_with (gi_at_builtin; refine wpListIn_append_own _ rfl _ _ 52 rfl w.heap.size 101 i0 (.agg #[.int .i64 0, .int .i64 0, .int .i64 0, .int .i64 0]) 4 32 Tryz.underlying52 HI.out.1 HI.out.2.1 HI.out.2.2.1 HI.out.2.2.2 rfl (by decide) _ _ _ rfl (hrow.alloc _) ⟨W.heap.size, 0, none⟩ 1 1 [.int .i64 xa, .int .i64 xb, .int .i64 xc, .int .i64 xd] rfl rfl (news_new W [.int .i64 xa, .int .i64 xb, .int .i64 xc, .int .i64 xd] 101) (rc_one ⟨xa, xb, xc, xd⟩) (by unfold maxLen; omega) (by omega) (by have := hB.size; simp; omega) ?_; intro v' w1 hown' hgrow _; obtain ⟨g', cap', rfl⟩ := ownsRow_succ hown'; obtain ⟨hv1, hv2, hr2, hk2, hb2⟩ := hv.appended (by decide) hrow hB.size (Nat.le_refl _) hown' hgrow; have hc1 := hv1.cell; have hf1 := hv1.frozen)
    exact ⟨hk2.from _, hb2, ⟨_, hv2, by rw [flat_snoc, List.length_append]; exact hr2, trivial⟩, hB.trans hb2⟩
  case done =>
    rintro D ys W hD rfl ⟨⟨v, hv, hrow, -⟩, hB⟩ hK
    have hc := hv.cell
    gi_wp2
    refine ⟨by simp, .inl ⟨_, _, rfl, run_takeDeferred hK, ?_⟩⟩
    exact ⟨_, results_tmp rfl _ _ _, v, rfl, ownsRow_putObj hrow _ hK rfl, hB.trans (belowK_b (w := w) (Nat.le_refl _) W D _ _ (by simp at hD; omega) hK rfl rfl)⟩
  case stop =>
    rintro D c pre W _ _ h _
    exact h.elim
theorem appendSeq_any (Bs : Nat) (sv : Value) (L : List Rg.Rc) (hL : L.length ≤ 1000000) (w : World) (hBs : Bs < w.heap.size) (hc : w.cell? ⟨Bs, 0, none⟩ = some sv) (hI : Sl rc 4 w sv L) :
    Calls Tryz.prog 160 #[.slice none 0 0, .func (.func 151) #[] #[.pointer (some ⟨Bs, 0, none⟩)]] w fun e w' => ∃ v, e = .returned v ∧ Own rc 101 4 w.heap.size w' v L ∧ Q w w' :=
  (callsIn_wide (n := 3)).1 (appendSeq_in Bs sv L hL w hBs hc hI.lies)
set_option maxHeartbeats 1000000 in
theorem collect_any (Bs : Nat) (sv : Value) (L : List Rg.Rc) (hL : L.length ≤ 1000000) (w : World) (hBs : Bs < w.heap.size) (hc : w.cell? ⟨Bs, 0, none⟩ = some sv) (hI : Sl rc 4 w sv L) :
    Calls Tryz.prog 149 #[.func (.func 151) #[] #[.pointer (some ⟨Bs, 0, none⟩)]] w fun e w' => ∃ v, e = .returned v ∧ Own rc 101 4 w.heap.size w' v L ∧ Q w w' := by
  have H := hid (appendSeq_any Bs sv L hL w hBs hc hI)
  clear hc hI
  go_enter Tryz.func149, Tryz.ntmps149
  go_wp2_with (go_at_call 160; refine H.out.mono ?_; rintro e w1 ⟨v', rfl, own, q1⟩; have HO := hid own; have HQ := hid q1; clear own q1)
  go_ret
  exact ⟨_, rfl, HO.out, HQ.out⟩
set_option maxHeartbeats 1000000 in
theorem values_any (ao : Option Addr) (len cap : Nat) (w : World) : Calls Tryz.prog 137 #[.slice ao len cap] w fun e w' => e = .returned (.func (.func 151) #[] #[.pointer (some ⟨w.heap.size, 0, none⟩)]) ∧ w' = w.alloc (.cells #[.slice ao len cap] 52) := by
  go_enter Tryz.func137, Tryz.ntmps137
  go_wp2
  go_ret
  exact ⟨rfl, rfl⟩
end Go.Proofs.YtcgddnliiondoaaGreatDoor.R
