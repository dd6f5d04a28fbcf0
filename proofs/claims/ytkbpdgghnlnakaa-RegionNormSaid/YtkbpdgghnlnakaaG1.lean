/- slices.Values, slices.AppendSeq, slices.Collect of rectangles. -/
import Derived.Test.YtkbpdgghnlnakaaG
namespace Go.Proofs.Ytkbpdgghnlnakaa
open Go.RowKit Go.Shelf
set_option linter.unusedVariables false
set_option linter.unusedSimpArgs false
attribute [local go_sem] Oper.semAt_some

theorem values_stops (F : Fence) (n : Nat) (h41 : F.fn 41) (hro : F.round = none) (hn : 1 ≤ n) (Bs n₀ : Nat) (v : Value) (L : List Rg.Rc) (hL : L.length ≤ 1000000) (w : World) (hBs : Bs < w.heap.size) (hn₀ : n₀ ≤ w.heap.size)
    (hc : w.cell? ⟨Bs, 0, none⟩ = some v) (hI : Lies n₀ w v L) :
    SeqStopsK F n Try.prog 41 #[.pointer (some ⟨Bs, 0, none⟩)] (fun x : Rg.Rc => #[Value.agg (rc x).toArray]) (Below n₀) (fun ys => ys = L) (fun pre => pre <+: L) L.length w := fun l J Jx W hW hJ _ hY h0 =>
  values1_in F n h41 hro hn l Bs n₀ v L hL J Jx hY W (fun s A o h => hJ s A _ none h (World.grownBy_alloc A o none) (fun r e => by cases e)) (Nat.le_trans hn₀ hW.size) ((hW.cell (p := ⟨Bs, 0, none⟩) hBs).trans hc) (hI.below (hW.mono hn₀)) h0

def Ax (b : Nat) (fv : Value) (x : Rg.Rc) (a' : Act) (W : World) : Prop :=
  ∃ Bx, b < Bx ∧ W.heap[Bx]? = some (.cells (rc x).toArray 28 (0, 0)) ∧ a' = { tmps := #[.slice none 0 0, fv, .pointer (some ⟨b, 0, none⟩), undef, .slice none 0 0, .pointer (some ⟨Bx, 0, none⟩), fv, .agg (rc x).toArray, undef, undef, undef, undef, undef], defers := [] }
theorem ax_own (b : Nat) (fv : Value) (B : Nat) (x : Rg.Rc) (a' : Act) : OwnFrom B (fun (_ : Unit) W => Ax b fv x a' W) := by
  rintro _ X Y row ⟨Bx, h1, h2, h3⟩ hg hr
  refine ⟨Bx, h1, (hg.block Bx (Array.getElem?_eq_some_iff.1 h2).1 (fun e => ?_)).trans h2, h3⟩
  obtain ⟨_, o, ho, hc⟩ := hr Bx e.symm
  rw [h2] at ho
  cases ho
  cases hc

set_option maxRecDepth 100000 in
set_option maxHeartbeats 4000000 in
theorem appendSeq_in (Bs : Nat) (sv : Value) (L : List Rg.Rc) (hL : L.length ≤ 1000000) (w : World) (hBs : Bs < w.heap.size) (hc : w.cell? ⟨Bs, 0, none⟩ = some sv) (hI : Lies w.heap.size w sv L) :
    CallsIn Fence.wide 3 Try.prog 45 #[.slice none 0 0, .func (.func 41) #[] #[.pointer (some ⟨Bs, 0, none⟩)]] w fun e w' => ∃ v, e = .returned v ∧ Own rc 28 4 w.heap.size w' v L ∧ Q w w' := by
  obtain ⟨i0, HI⟩ := inf_of info28
  have HI := hid HI
  refine callsIn_of_wp_marks Try.func45 rfl trivial ?_ rfl
  simp only [Try.ntmps45, List.size_toArray, List.length_cons, List.length_nil, Nat.reduceAdd, Nat.reduceSub, Array.replicate_succ, Array.replicate_zero, List.push_toArray, List.append_toArray, List.nil_append, List.cons_append]
  gi_wp2
  have bO := Boxed.new w 22 (.slice none 0 0)
  have hB0 : Below w.heap.size w (w.alloc (.cells #[.slice none 0 0] 22)) := (Below.refl _ w).alloc (Nat.le_refl _) _
  refine wpIn_rangeFunc_ownH (n := 3) rfl (by decide) (gf := 41) (lb := #[.pointer (some ⟨Bs, 0, none⟩)]) rfl trivial (enters_of Try.func41 (by kernel_rfl) rfl)
    (values_stops Fence.wide (3 - 1) trivial rfl (by decide) Bs w.heap.size sv L hL _ (by simp; omega) (by simp) ((hB0.cell (p := ⟨Bs, 0, none⟩) hBs).trans hc) (hI.below hB0)) belowK_t (belowK_b (by simp)) (Below.refl _ _) (fun _ => rfl)
    (fun pre W => (∃ v, Boxed W w.heap.size 22 v ∧ W.ownsRow w.heap.size 28 4 v pre.length (flat rc pre) ∧ True) ∧ Below w.heap.size w W)
    (fun _ _ _ => False)
    (OwnFrom.and (_root_.Go.Own.from (holdsRow_own w.heap.size w.heap.size 22 28 4 (fun pre => pre.length) (fun pre => flat rc pre) (fun _ _ => True)) _) (ownFrom_below (Nat.le_refl _) (by simp)))
    (fun _ _ _ _ _ hs _ _ => hs)
    ⟨⟨_, bO, World.ownsRow_nil _ _ _ _, trivial⟩, hB0⟩
    (Ax w.heap.size (.func (.func 41) #[] #[.pointer (some ⟨Bs, 0, none⟩)])) (fun x a' => ax_own _ _ _ x a') ?assign ?body ?done ?stop
  case assign =>
    rintro l pre ⟨xa, xb, xc, xd⟩ W K ⟨⟨v, hv, hrow, -⟩, hB⟩ hK
    simp only [rc]
    gi_wp2
    exact hK _ _ ((KeepsOthers.alloc _ _).from _) ((Below.refl _ W).alloc hB.size _) ⟨⟨v, hv.alloc _, hrow.alloc _, trivial⟩, hB.alloc hB.size _⟩ ⟨W.heap.size, hv.lt, World.alloc_heap_new W _, rfl⟩
  case body =>
    rintro l pre ⟨xa, xb, xc, xd⟩ a' W hl ⟨r, hr⟩ ⟨⟨v, hv, hrow, -⟩, hB⟩ ⟨Bx, hBx, bX, rfl⟩ hlt
    have hc0 := hv.cell
    simp only [rc] at bX
    have c0 : W.cell? ⟨Bx, 0, none⟩ = some (.int .i64 xa) := by simp [World.cell?, bX]
    have c1 : W.cell? ⟨Bx, 1, none⟩ = some (.int .i64 xb) := by simp [World.cell?, bX]
    have c2 : W.cell? ⟨Bx, 2, none⟩ = some (.int .i64 xc) := by simp [World.cell?, bX]
    have c3 : W.cell? ⟨Bx, 3, none⟩ = some (.int .i64 xd) := by simp [World.cell?, bX]
    have hlt' : pre.length < L.length := hlt
    simp only [rc]
    gi_wp2_with (gi_at_builtin; refine wpListIn_append_own _ rfl _ _ 22 rfl w.heap.size 28 i0 (.agg #[.int .i64 0, .int .i64 0, .int .i64 0, .int .i64 0]) 4 32 Try.underlying22 HI.out.1 HI.out.2.1 HI.out.2.2.1 HI.out.2.2.2 rfl (by decide) _ _ _ rfl (hrow.alloc _) ⟨W.heap.size, 0, none⟩ 1 1 [.int .i64 xa, .int .i64 xb, .int .i64 xc, .int .i64 xd] rfl rfl (news_new W [.int .i64 xa, .int .i64 xb, .int .i64 xc, .int .i64 xd] 28) (rc_one ⟨xa, xb, xc, xd⟩) (by unfold maxLen; omega) (by omega) (by have := hB.size; simp; omega) ?_; intro v' w1 hown' hgrow _; obtain ⟨g', cap', rfl⟩ := ownsRow_succ hown'; obtain ⟨hv1, hv2, hr2, hk2, hb2⟩ := hv.appended (by decide) hrow hB.size (Nat.le_refl _) hown' hgrow; have hc1 := hv1.cell; have hf1 := hv1.frozen)
    exact ⟨hk2.from _, hb2, ⟨_, hv2, by rw [flat_snoc, List.length_append]; exact hr2, trivial⟩, hB.trans hb2⟩
  case done =>
    rintro D ys W hD rfl ⟨⟨v, hv, hrow, -⟩, hB⟩ hK
    have hc := hv.cell
    gi_wp2
    refine ⟨by simp, .inl ⟨_, _, rfl, run_takeDeferred hK, ?_⟩⟩
    exact ⟨_, results_tmp rfl _ _ _, v, rfl, ownsRow_putObj hrow _ hK rfl, hB.trans (belowK_b (w := w) (Nat.le_refl _) W D _ _ (by simp at hD; omega) hK rfl rfl)⟩
  case stop =>
    rintro D c pre W _ _ h _
    exact h.elim

theorem appendSeq_any (Bs : Nat) (sv : Value) (L : List Rg.Rc) (hL : L.length ≤ 1000000) (w : World) (hBs : Bs < w.heap.size) (hc : w.cell? ⟨Bs, 0, none⟩ = some sv) (hI : Sl rc 4 w sv L) :
    Calls Try.prog 45 #[.slice none 0 0, .func (.func 41) #[] #[.pointer (some ⟨Bs, 0, none⟩)]] w fun e w' => ∃ v, e = .returned v ∧ Own rc 28 4 w.heap.size w' v L ∧ Q w w' :=
  (callsIn_wide (n := 3)).1 (appendSeq_in Bs sv L hL w hBs hc hI.lies)

set_option maxHeartbeats 1000000 in
theorem collect_any (Bs : Nat) (sv : Value) (L : List Rg.Rc) (hL : L.length ≤ 1000000) (w : World) (hBs : Bs < w.heap.size) (hc : w.cell? ⟨Bs, 0, none⟩ = some sv) (hI : Sl rc 4 w sv L) :
    Calls Try.prog 39 #[.func (.func 41) #[] #[.pointer (some ⟨Bs, 0, none⟩)]] w fun e w' => ∃ v, e = .returned v ∧ Own rc 28 4 w.heap.size w' v L ∧ Q w w' := by
  have H := hid (appendSeq_any Bs sv L hL w hBs hc hI)
  clear hc hI
  go_enter Try.func39, Try.ntmps39
  go_wp2_with (go_at_call 45; refine H.out.mono ?_; rintro e w1 ⟨v', rfl, own, q1⟩; have HO := hid own; have HQ := hid q1; clear own q1)
  go_ret
  exact ⟨_, rfl, HO.out, HQ.out⟩
set_option maxHeartbeats 1000000 in
theorem values_any (ao : Option Addr) (len cap : Nat) (w : World) : Calls Try.prog 34 #[.slice ao len cap] w fun e w' => e = .returned (.func (.func 41) #[] #[.pointer (some ⟨w.heap.size, 0, none⟩)]) ∧ w' = w.alloc (.cells #[.slice ao len cap] 22) := by
  go_enter Try.func34, Try.ntmps34
  go_wp2
  go_ret
  exact ⟨rfl, rfl⟩
end Go.Proofs.Ytkbpdgghnlnakaa
