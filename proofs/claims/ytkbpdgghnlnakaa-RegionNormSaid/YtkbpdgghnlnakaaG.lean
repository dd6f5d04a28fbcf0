/- Rectangles one behind the other, by a function that hands them out: slices.Values, slices.Collect. -/
import Derived.Test.YtkbpdgghnlnakaaQ
import Derived.RangeFuncNested
import Derived.RangeFuncBound
import Derived.RangeFuncCalls
import Derived.RangeFuncLeaves
import Derived.RangeFuncBox
import Derived.Shelf.Abstract
import Derived.Shelf.RegionOpen
import Derived.OwnWalkIn
import Derived.TacticsInMore
import Derived.LoopNIn
import Derived.LoopIn
import Derived.Maps.AppendAt
namespace Go.Proofs.Ytkbpdgghnlnakaa
open Go.RowKit Go.Shelf
set_option linter.unusedVariables false
set_option linter.unusedSimpArgs false
attribute [local go_sem] Oper.semAt_some

/-- where a slice of rectangles lies, below a border -/
def Lies (n₀ : Nat) (W : World) (v : Value) (L : List Rg.Rc) : Prop :=
  ∃ (ao : Option Addr) (cap : Nat), v = .slice ao L.length cap ∧ (0 < L.length → ∃ b off, ao = some ⟨b, off, none⟩ ∧ b < n₀ ∧ ∀ i (h : i < L.length), At rc W b (off + i * 4) L[i])
theorem Lies.below {n₀ : Nat} {A B : World} (h : Below n₀ A B) {v : Value} {L : List Rg.Rc} (hl : Lies n₀ A v L) : Lies n₀ B v L := by
  obtain ⟨ao, cap, hv, h1⟩ := hl
  refine ⟨ao, cap, hv, fun hp => ?_⟩
  obtain ⟨b, off, ha, hb, hc⟩ := h1 hp
  exact ⟨b, off, ha, hb, fun i hi j u hu => (h.cell (p := ⟨b, off + i * 4 + j, none⟩) hb).trans (hc i hi j u hu)⟩
theorem Sl.lies {W : World} {v : Value} {L : List Rg.Rc} (h : Sl rc 4 W v L) : Lies W.heap.size W v L := by
  obtain ⟨ao, cap, hv, _, _, h1⟩ := h
  refine ⟨ao, cap, hv, fun hp => ?_⟩
  obtain ⟨b, off, ha, hc⟩ := h1 hp
  exact ⟨b, off, ha, World.block_lt_of_cell? W ⟨b, off + 0 * 4 + 0, none⟩ (hc 0 hp 0 _ rfl), hc⟩

set_option maxRecDepth 100000 in
set_option maxHeartbeats 2000000 in
theorem values1_in (F : Fence) (n : Nat) (h41 : F.fn 41) (hro : F.round = none) (hn : 1 ≤ n) (l Bs n₀ : Nat) (v : Value) (L : List Rg.Rc) (hL : L.length ≤ 1000000) (J Jx : List Rg.Rc → World → Prop)
    (hY : ∀ pre x W, J pre W → pre.length < L.length → YieldAt F (n - 1) Try.prog l #[.agg (rc x).toArray] W fun e W' =>
      (e = .returned (.bool true) ∧ J (pre ++ [x]) W' ∧ Below n₀ W W') ∨ (e = .returned (.bool false) ∧ Jx (pre ++ [x]) W'))
    (W : World) (hJ : ∀ s A o, J s A → J s (A.alloc o)) (hn₀ : n₀ ≤ W.heap.size) (hBs : W.cell? ⟨Bs, 0, none⟩ = some v) (hl : Lies n₀ W v L) (h0 : J [] W) :
    CallsIn F n Try.prog 41 #[.func (.yield l) #[] #[], .pointer (some ⟨Bs, 0, none⟩)] W fun e W' => (∃ v, e = .returned v) ∧
      ((∃ ys, ys = L ∧ J ys W') ∨ (∃ pre, pre <+: L ∧ Jx pre W')) := by
  have HL := hid hl
  have HJ := hid hJ
  have HY := hid hY
  obtain ⟨ao, cap, rfl, _⟩ := hl
  clear hJ hY
  refine callsIn_of_wp Try.func41 rfl h41 ?_ hro
  simp only [Try.ntmps41, List.size_toArray, List.length_cons, List.length_nil, Nat.reduceAdd, Nat.reduceSub, Array.replicate_succ, Array.replicate_zero, List.push_toArray, List.append_toArray, List.nil_append, List.cons_append]
  gi_wp2
  gi_loopw [7] (fun i wr => ∃ k : Nat, k ≤ L.length ∧ i = .int .i64 k ∧ J (L.take k) wr ∧ Below n₀ W wr)
    (fun i _ => L.length - (intOf i).toNat)
  case atStart => exact ⟨0, Nat.zero_le _, rfl, by rw [List.take_zero]; exact h0, Below.refl _ _⟩
  case round =>
    obtain ⟨k, hk, rfl, hJs, hnx⟩ := hrel
    have HNX := hid hnx
    have hsz : n₀ ≤ wr.heap.size := Nat.le_trans hn₀ hnx.size
    clear hnx
    by_cases hlt : k < L.length
    · have hlt' : (k : Int) < (L.length : Int) := by omega
      obtain ⟨ao', cap', e, h1⟩ := HL.out.below HNX.out
      cases e
      obtain ⟨b, off, rfl, hb, hc⟩ := h1 (by omega)
      have hc := hc k hlt
      have HT := hid (List.take_succ_eq_append_getElem hlt)
      generalize L[k] = x at *
      obtain ⟨xa, xb, xc, xd⟩ := x
      have c0 : wr.cell? ⟨b, off + k * 4, none⟩ = some (.int .i64 xa) := hc 0 _ rfl
      have c1 : wr.cell? ⟨b, off + k * 4 + 1, none⟩ = some (.int .i64 xb) := hc 1 _ rfl
      have c2 : wr.cell? ⟨b, off + k * 4 + 2, none⟩ = some (.int .i64 xc) := hc 2 _ rfl
      have c3 : wr.cell? ⟨b, off + k * 4 + 3, none⟩ = some (.int .i64 xd) := hc 3 _ rfl
      clear hc h1
      obtain ⟨fn, tmps, assign, body, hy, hR⟩ := HY.out _ ⟨xa, xb, xc, xd⟩ (wr.alloc (.cells #[.int .i64 xa, .int .i64 xb, .int .i64 xc, .int .i64 xd] 28)) (HJ.out _ _ _ hJs) (by rw [List.length_take]; omega)
      simp only [rc] at hy
      gi_wp2
      refine hR.mono ?_
      rintro e W3 (⟨rfl, hJ3, hk3⟩ | ⟨rfl, hJx3⟩)
      · have HK3 := hid hk3
        clear hk3
        gi_wp2
        go_roundw
        case rel => exact ⟨k + 1, by omega, by simp, by rw [HT.out]; exact hJ3, HNX.out.trans (((Below.refl _ wr).alloc hsz _).trans HK3.out)⟩
        case measure => simp [intOf]; omega
      · gi_wp2
        refine bodyPost_ret (results_none rfl _ _ _) rfl ?_
        exact ⟨⟨_, rfl⟩, .inr ⟨_, by rw [← HT.out]; exact List.take_prefix _ _, hJx3⟩⟩
    · obtain rfl : k = L.length := by omega
      gi_wp2
      go_end0
      exact ⟨⟨_, rfl⟩, .inl ⟨_, List.take_of_length_le (Nat.le_refl _), hJs⟩⟩
end Go.Proofs.Ytkbpdgghnlnakaa
