/- maps.Clone, giveBack; slices.Backward over marks. -/
import Derived.Test.YtbknbffmpnomlaaDj
import Derived.RangeFuncNested
import Derived.RangeFuncBound
import Derived.RangeFuncCalls
import Derived.RangeFuncLeaves
import Derived.Shelf.Abstract
import Derived.Shelf.RegionOpen
import Derived.WalkKit
import Derived.OwnWalkIn
import Derived.TacticsInMore
import Derived.LoopNIn
import Derived.LoopIn
import Derived.Maps.OwnIn
namespace Go.Proofs.Ytbknbffmpnomlaa
open Go.RowKit Go.Shelf
set_option linter.unusedVariables false
set_option linter.unusedSimpArgs false
attribute [local go_sem] Oper.semAt_some
variable {S S' : Nat → Prop} {w w' : World} {p : Nat} {mv : Option Nat} {n : Nat} {f : Fv} {pv : Value} {ms : List Mk} {u s : Nat}

set_option maxRecDepth 100000 in
set_option maxHeartbeats 1000000 in
theorem mclone_some (b : Nat) (n : Nat) (g : ByteArray → Option Sv) (w : World) (hm : Mp w b n g) :
    Calls Try.prog 25 #[.map (some b)] w fun e W' => e = .returned (.map (some w.heap.size)) ∧ Mp W' w.heap.size n g ∧ Q w W' ∧ W'.heap.size = w.heap.size + 1 := by
  obtain ⟨es, clock, hb⟩ := hm.block
  have HM := hid hm
  have hq := fun w => run_eql_map_nil_sl (P := Try.prog) w 47 _ _ (some b) Try.underlying47
  clear hm
  go_enter Try.func25, Try.ntmps25
  go_wp2
  rw [run_callFunc_extern Try.func30 (by kernel_rfl) (by kernel_rfl) (by kernel_rfl) (e := Extern.MapsClone.clone) (by kernel_rfl), run_maps_clone_sl w 47 hb]
  simp only [Result.andThen]
  rw [Oper.upon_value]
  go_wp2
  rw [run_typeAssert_map_sl _ 47 20 _ _ _ Try.underlying47]
  simp only [Result.andThen]
  rw [Oper.upon_value]
  go_wp2
  go_ret
  obtain ⟨D, ⟨es', clock', hb', F, hs, hD⟩, h2⟩ := HM.out
  rw [hb] at hb'
  cases hb'
  exact ⟨rfl, ⟨D, ⟨es, clock, heap_alloc_new w _, F, hs, hD⟩, h2⟩, (Q.refl w).alloc _, by simp⟩
set_option maxRecDepth 100000 in
theorem mclone_none (w : World) : Calls Try.prog 25 #[.map none] w fun e W' => e = .returned (.map none) ∧ W' = w := by
  have hq := fun w => run_eql_map_nil_sl (P := Try.prog) w 47 _ _ none Try.underlying47
  go_enter Try.func25, Try.ntmps25
  go_wp2
  go_ret
  exact ⟨rfl, rfl⟩
/-- a file that is given back -/
def giv (m : Mk) (g : ByteArray → Option Sv) : ByteArray → Option Sv := upd g m.x (if m.t then some m.v else none)
set_option maxRecDepth 100000 in
set_option maxHeartbeats 1000000 in
theorem give_any (m : Mk) (hx : m.x.size ≤ maxLen) (mv : Option Nat) (n : Nat) (g : ByteArray → Option Sv) (w : World) (hm : Mv w mv n g) (hn : n ≤ 100000) (ht : mv = none → m.t = false) :
    Calls Try.prog 27 #[.agg (em m).toArray, .map mv] w fun e W' => (∃ v, e = .returned v) ∧ Mv W' mv (n + 1) (giv m g) ∧ Qp (fun i => mv = some i) w W' := by
  obtain ⟨x, ⟨a, l, c⟩, L, t, k⟩ := m
  have H := hid hm
  have hb := bk_new w 60 #[.string x, .slice a l c, .bool t, .int .i64 k]
  have c0 := hb.c 0 _ rfl
  have c1 := hb.c 1 _ rfl
  have c2 := hb.c 2 _ rfl
  have q : Q w (w.alloc (.cells #[.string x, .slice a l c, .bool t, .int .i64 k] 60)) := (Q.refl w).alloc _
  have H1 : Hid (Mv (w.alloc (.cells #[.string x, .slice a l c, .bool t, .int .i64 k] 60)) mv n g) := hid (hm.on q)
  clear hm hb
  unfold em sv
  cases t with
  | true =>
    cases mv with
    | none => cases ht rfl
    | some b =>
      go_enter Try.func27, Try.ntmps27
      go_wp2_with (at_mapUpdate; refine wpl_put _ rfl _ _ _ rfl b n _ rfl H1.out (by unfold maxLen; omega) x rfl hx ⟨a, l, c⟩ rfl ?_)
      intro w2 h1 h2 h3
      have K1 := hid h1
      have K2 := hid h2
      clear h1 h2 h3
      go_wp2_with fail
      go_end0
      exact ⟨⟨_, rfl⟩, K1.out, (Qp.of q).grown K2.out (fun k e => .inl e)⟩
  | false =>
    go_enter Try.func27, Try.ntmps27
    go_wp2_with (at_delete; refine wpl_del _ rfl _ _ rfl mv n _ rfl H1.out x rfl hx ?_)
    intro w2 h1 h2 h3
    have K1 := hid h1
    have K2 := hid h2
    clear h1 h2 h3
    go_wp2_with fail
    go_end0
    refine ⟨⟨_, rfl⟩, ?_, (Qp.of q).grown K2.out (fun k e => .inl (by rw [e]))⟩
    cases mv with
    | none => exact K1.out
    | some b => exact Mp.mono K1.out (Nat.le_succ n)
theorem backward_any (a : Option Addr) (l c : Nat) (w : World) : Calls Try.prog 26 #[.slice a l c] w fun e W' => e = .returned (.func (.func 31) #[] #[.pointer (some ⟨w.heap.size, 0, none⟩)]) ∧ W' = w.alloc (.cells #[.slice a l c] 48) := by
  go_enter Try.func26, Try.ntmps26
  go_wp2
  go_ret
  exact ⟨rfl, rfl⟩
set_option maxRecDepth 100000 in
set_option maxHeartbeats 2000000 in
theorem back_in (F : Fence) (n : Nat) (h31 : F.fn 31) (hro : F.round = none) (hn : 1 ≤ n) (l Bn g cap : Nat) (ao : Option Addr) (ms : List Mk) (hao : 0 < ms.length → ao = some ⟨g, 0, none⟩) (hlen : ms.length ≤ 100000) (J : Nat → World → Prop) (Jx : World → Prop)
    (hc : ∀ i W, J i W → W.cell? ⟨Bn, 0, none⟩ = some (.slice ao ms.length cap) ∧ ∀ i (h : i < ms.length), Ats em W g (i * 4) ms[i])
    (hY : ∀ i (h : i < ms.length) W, J (i + 1) W → YieldAt F (n - 1) Try.prog l #[.int .i64 (i : Nat), .agg (em ms[i]).toArray] W fun e W' => (e = .returned (.bool true) ∧ J i W') ∨ (e = .returned (.bool false) ∧ Jx W'))
    (W : World) (h0 : J ms.length W) :
    CallsIn F n Try.prog 31 #[.func (.yield l) #[] #[], .pointer (some ⟨Bn, 0, none⟩)] W fun e W' => (∃ v, e = .returned v) ∧ (J 0 W' ∨ Jx W') := by
  have hBs := (hc _ _ h0).1
  refine callsIn_of_wp Try.func31 rfl h31 ?_ hro
  simp only [Try.ntmps31, List.size_toArray, List.length_cons, List.length_nil, Nat.reduceAdd, Nat.reduceSub, Array.replicate_succ, Array.replicate_zero, List.push_toArray, List.append_toArray, List.nil_append, List.cons_append]
  gi_wp2
  gi_loopw [3] (fun i wr => ∃ k : Nat, k ≤ ms.length ∧ i = .int .i64 ((k : Int) - 1) ∧ J k wr) (fun i _ => (intOf i + 1).toNat)
  case atStart => exact ⟨ms.length, Nat.le_refl _, rfl, h0⟩
  case round =>
    obtain ⟨k, hk, rfl, hJs⟩ := hrel
    obtain ⟨hbw, hcw⟩ := hc _ _ hJs
    cases k with
    | zero =>
      gi_wp2
      go_end0
      exact ⟨⟨_, rfl⟩, .inl hJs⟩
    | succ k =>
      have hlt : k < ms.length := by omega
      obtain rfl := hao (by omega)
      obtain ⟨fn, tmps, assign, body, hy, hR⟩ := hY k hlt wr hJs
      have hc4 := hcw k hlt
      generalize ms[k] = m at hy hc4
      obtain ⟨mx, ⟨ma, ml, mc⟩, mL, mt, mk⟩ := m
      have hx0 : wr.cell? ⟨g, k * 4, none⟩ = some (.string mx) := hc4 0 _ rfl
      have hx1 : wr.cell? ⟨g, k * 4 + 1, none⟩ = some (.slice ma ml mc) := hc4 1 _ rfl
      have hx2 : wr.cell? ⟨g, k * 4 + 2, none⟩ = some (.bool mt) := hc4 2 _ rfl
      have hx3 : wr.cell? ⟨g, k * 4 + 3, none⟩ = some (.int .i64 mk) := hc4 3 _ rfl
      simp only [em, sv] at hy
      clear hc4
      have e1 : ((k + 1 : Nat) : Int) - 1 = (k : Int) := by omega
      rw [e1]
      gi_wp2
      refine hR.mono ?_
      rintro e W3 (⟨rfl, hJ3⟩ | ⟨rfl, hJx3⟩)
      · gi_wp2
        go_roundw
        case rel => exact ⟨k, by omega, rfl, hJ3⟩
        case measure => simp [intOf]
      · gi_wp2
        refine bodyPost_ret (results_none rfl _ _ _) rfl ?_
        exact ⟨⟨_, rfl⟩, .inr hJx3⟩
end Go.Proofs.Ytbknbffmpnomlaa
