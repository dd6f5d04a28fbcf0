/- The law counterpanelaw1.FixSum returns true for every slice of numbers: Sum of (the first forty of) it, Sum of it turned round and the reference's sum agree, value and refusal; no condition beyond the given row's own list of tables of Go's library. -/
import Derived.Test.YtiplfalnaaeljaaDoorL
import Derived.Test.YtiplfalnaaeljaaDoorY
import Derived.ChangeOld
namespace Go.Proofs.YtiplfalnaaeljaaDoor
namespace fixSum
open Go.ChangeShapes Go.WideShapes Go.ChangeAt Go.RowKit

theorem laidOut : laidOutB Tryd.prog = true := by kernel_rfl

/-- a slice of numbers that came in: nil, or a row of cap cells -/
def IsRow (w : World) (a : Option Addr) (len cap : Nat) (zs : List Int) : Prop :=
  (a = none ∧ len = 0 ∧ cap = 0 ∧ zs = []) ∨
  ∃ x, a = some x ∧ len ≤ cap ∧ cap ≤ maxLen ∧ zs.length = cap ∧ (∀ i, i < zs.length → w.cell? (x.add i) = some (.int .i64 (zs.getD i 0))) ∧ ∀ n ∈ zs, (Lit.int .i64 n).wf = true

theorem getD_take (zs : List Int) (n i : Nat) (h : i < n) : (zs.take n).getD i 0 = zs.getD i 0 := by
  simp only [List.getD_eq_getElem?_getD]
  rw [List.getElem?_take_of_lt h]

set_option maxHeartbeats 400000 in
theorem sum_zero (x : Addr) (cap : Nat) (w : World) :
    Calls Tryd.prog 18 #[.slice (some x) 0 cap] w fun e w' => e = .returned (.tuple #[.int .i64 0, .bool true]) ∧ Q w w' := by
  go_enter Tryd.func18, Tryd.ntmps18
  go_wp2
  refine wp_loop_rounds 1 ?_
  rw [rounds_succ]
  go_wp2
  go_ret2
  exact ⟨rfl, Q.refl _⟩

set_option maxHeartbeats 1000000 in
theorem rsum_zero (x : Addr) (cap : Nat) (w : World) :
    Calls Tryd.prog 19 #[.slice (some x) 0 cap] w fun e w' => e = .returned (.tuple #[.int .i64 0, .bool true]) ∧ Q w w' := by
  have L := hid (fun W => less_any 0 0 0 0 0 0 0 0 0 0 0 0 0 0 W dg_zero dg_zero)
  have M := hid (fun W => minus_any 0 0 0 0 0 0 0 0 0 0 0 0 0 0 W dg_zero dg_zero (by omega))
  have ed : decide ((0 : Int) < 0) = false := rfl
  rw [ed] at L
  have RU : ∀ o, Row ((w.alloc (.cells #[.int .u64 0, .int .u64 0, .int .u64 0, .int .u64 0, .int .u64 0, .int .u64 0] 45)).alloc o) w.heap.size 0 0 0 0 0 0 := fun o => (row_new w 45 0 0 0 0 0 0).on ((Q.refl _).alloc _)
  have RV : Row ((w.alloc (.cells #[.int .u64 0, .int .u64 0, .int .u64 0, .int .u64 0, .int .u64 0, .int .u64 0] 45)).alloc (.cells #[.int .u64 0, .int .u64 0, .int .u64 0, .int .u64 0, .int .u64 0, .int .u64 0] 45)) (w.heap.size + 1) 0 0 0 0 0 0 := by
    have h := row_new (w.alloc (.cells #[.int .u64 0, .int .u64 0, .int .u64 0, .int .u64 0, .int .u64 0, .int .u64 0] 45)) 45 0 0 0 0 0 0
    simp only [World.size_alloc] at h
    exact h
  have R1 := hid (RU (.cells #[.int .u64 0, .int .u64 0, .int .u64 0, .int .u64 0, .int .u64 0, .int .u64 0] 45))
  have R2 := hid RV
  clear RU RV ed
  go_enter Tryd.func19, Tryd.ntmps19
  go_wp2
  refine wp_loop_rounds 1 ?_
  rw [rounds_succ]
  go_wp2_with (first
    | (go_at_call 36; refine (L.out _).mono ?_; rintro e w5 ⟨rfl, q5⟩; have j1 := R1.out.on q5; have j2 := R2.out.on q5; have x0 := j1.c0; have x1 := j1.c1; have x2 := j1.c2; have x3 := j1.c3; have x4 := j1.c4; have x5 := j1.c5; have y0 := j2.c0; have y1 := j2.c1; have y2 := j2.c2; have y3 := j2.c3; have y4 := j2.c4; have y5 := j2.c5)
    | (go_at_call 37; refine (M.out _).mono ?_; rintro e w6 ⟨⟨t0, t1, t2, t3, t4, t5, rfl, dt⟩, q6⟩)
    | (go_at_call 28; refine (fix_any t0 t1 t2 t3 t4 t5 _ false _ dt).mono ?_; rintro e w7 ⟨rfl, q7⟩))
  go_ret2
  exact ⟨ret_two (by decide +kernel) (by decide +kernel), ((((Q.refl w).alloc _).alloc _).trans q5).trans (q6.trans q7)⟩

set_option maxHeartbeats 2000000 in
theorem fsum_zero (x : Addr) (cap : Nat) (w : World) (hw : Std w) :
    Calls Tryd.prog 4 #[.slice (some x) 0 cap] w fun e w' => e = .returned (.bool true) ∧ Q w w' := by
  go_enter Tryd.func4, Tryd.ntmps4
  go_wp2_with (go_at_call 9; refine (begun_any _ hw).mono ?_; rintro e w1 ⟨rfl, q1⟩)
  refine wp_loop_rounds 1 ?_
  rw [rounds_succ]
  go_wp2_with fail
  refine (sum_zero x cap _).mono ?_
  rintro e w2 ⟨rfl, q2⟩
  go_wp2_with fail
  refine (sum_nil _).mono ?_
  rintro e w3 ⟨rfl, q3⟩
  go_wp2_with fail
  refine (rsum_zero x cap _).mono ?_
  rintro e w4 ⟨rfl, q4⟩
  go_wp2
  go_ret
  exact ⟨rfl, ((q1.trans q2).trans q3).trans q4⟩

theorem walk (a0 : Option Addr) (len cap : Nat) (zs : List Int) (w : World) (hw : Std w) (h : IsRow w a0 len cap zs) :
    Calls Tryd.prog 4 #[.slice a0 len cap] w fun e w' => e = .returned (.bool true) ∧ Q w w' := by
  rcases h with ⟨rfl, rfl, rfl, rfl⟩ | ⟨x, rfl, hl, hm, hz, hcell, hwz⟩
  · exact fsum_nil w hw
  · unfold maxLen at hm
    rcases Nat.eq_zero_or_pos len with rfl | hp
    · exact fsum_zero x cap w hw
    · obtain ⟨b, off, spot⟩ := x
      have hc0 := hcell 0 (by omega)
      have hspot : spot = none := by simpa [Addr.add] using World.cell?_spot hc0
      subst hspot
      have hcc : ∀ i, i < zs.length → w.cell? ⟨b, off + i, none⟩ = some (.int .i64 (zs.getD i 0)) := fun i hi => by
        have := hcell i hi
        rw [Lib.add_plain] at this
        exact this
      have hfx : ∀ i, i < zs.length → Fx (zs.getD i 0) := fun i hi => by
        have hmem : zs.getD i 0 ∈ zs := by
          rw [List.getD_eq_getElem?_getD, List.getElem?_eq_getElem hi]
          exact List.getElem_mem hi
        have := bounds_i64 (hwz _ hmem)
        exact ⟨this.1, this.2⟩
      by_cases h40 : len ≤ 40
      · exact fsum_row b off len cap len (zs.take len) w hw (.inl ⟨h40, rfl⟩) hl hm (by rw [List.length_take]; omega) (fun i hi => by rw [getD_take _ _ _ hi]; exact hfx i (by omega)) (fun i hi => by rw [getD_take _ _ _ hi]; exact hcc i (by omega))
      · exact fsum_row b off len cap 40 (zs.take 40) w hw (.inr ⟨by omega, rfl⟩) hl hm (by rw [List.length_take]; omega) (fun i hi => by rw [getD_take _ _ _ hi]; exact hfx i (by omega)) (fun i hi => by rw [getD_take _ _ _ hi]; exact hcc i (by omega))

set_option maxRecDepth 100000 in
theorem contract (H : Type) (enc : TypeId × Value → H) (W : World) (base : Nat) (args : Array Value) (ds gs : List (DataW H)) (before : List MemPlace)
    (hval : ∀ (j : Nat) t v, Tryd.f4.params[j]? = some t → args[j]? = some v → Value.okWide Tryd.prog W .any base t v)
    (hW : DataW.Whole enc Tryd.prog Tryd.f4.params.toList Rows.fixSumSpec.vars false W args.toList ds gs before) (hS : Std W) :
    Calls Tryd.prog 4 args W fun e W' => ∃ v, e = .returned v ∧ Rows.fixSumSpec.post enc Tryd.prog Tryd.f4 false true false false W args v W' := by
  have hW' := hW
  obtain ⟨p, q, hA0, hV, rfl, hfz, hnd⟩ := hW
  have hA : DataW.TrodAll enc Tryd.prog W 0 (fun _ => true) true Tryd.f4.params.toList args.toList ds p := hA0
  rw [Tryd.params4] at hA hval
  obtain ⟨v0, vs0, d0, ds0, p0, q0, hargs, rfl, rfl, h0, r0⟩ := trodAll_cons hA
  obtain ⟨rfl, rfl, rfl⟩ := trodAll_nil r0
  obtain rfl : args = #[v0] := Array.ext' hargs
  obtain ⟨rfl, rfl⟩ := trodVars_none hV
  obtain ⟨a0, len0, cap0, rfl⟩ := okWide_slice Tryd.underlying27 (hval 0 27 v0 rfl rfl)
  have k0 := h0
  have lt0 : ∀ x ∈ p0, x.block < W.heap.size := by obtain ⟨m, hm⟩ := k0; exact DataW.trod_lt m _ _ _ hm
  obtain ⟨z0, w0⟩ : ∃ zs, IsRow W a0 len0 cap0 zs := by
    obtain ⟨fuel, hf⟩ := h0
    rcases open_ints Tryd.underlying27 Tryd.underlying22 (by kernel_rfl) hf with ⟨hcs, _⟩ | ⟨x, l, c, zs, hcs, _, hl, hm, hz, _, hcell, hwz⟩
    · simp [Value.cells] at hcs
      obtain ⟨rfl, rfl, rfl⟩ := hcs
      exact ⟨[], .inl ⟨rfl, rfl, rfl, rfl⟩⟩
    · simp [Value.cells] at hcs
      obtain ⟨rfl, rfl, rfl⟩ := hcs
      exact ⟨zs, .inr ⟨_, rfl, hl, hm, by simpa using hz, hcell, hwz⟩⟩
  clear hA0
  refine (walk a0 len0 cap0 z0 W hS w0).mono fun e W' ⟨he, bel⟩ => ?_
  subst he
  exact ⟨_, rfl, _, _, _, [], _, [], hW', trodAll_mk1 (shut_bool Tryd.underlying4 _), (trodAll_cons_mk (Below.trod laidOut (by kernel_rfl) (of_decide_eq_true (by kernel_rfl)) k0 bel lt0) trodAll_mk0), rfl, Below.frame bel _, fun h => by cases h⟩

set_option maxRecDepth 100000 in
theorem lifted (os : Os) (started : os.Started) (H : Type) (enc : TypeId × Value → H) (F : Stop.Interp) :
    ReturnsInHanded {} Tryd.checked os 4 .any ((OpenSpec.ofChange Rows.fixSumSpec).preRow enc Tryd.prog Tryd.f4 Rows.fixSumRow.domain false Rows.fixSumRow.laid) (((OpenSpec.ofChange Rows.fixSumSpec).at F).post enc Tryd.prog Tryd.f4 false true false false) := by
  have hx : DataW.whole enc Tryd.prog ((lay (World.holding Tryd.prog os ⟨#[], #[], []⟩)).forCall (fun _ _ => 0) ⟨#[], #[.slice none 0 0], []⟩).memory Tryd.f4.params.toList Rows.fixSumSpec.vars false #[Value.slice none 0 0].toList 8 = some ([.nil], [], []) := by kernel_rfl
  refine returnsInHanded_of_row (C := Tryd.checked) (s := OpenSpec.ofChange Rows.fixSumSpec) own started (by kernel_rfl) Tryd.func4
    (witness_row_at (enc := enc) (C := Tryd.checked) false (lay (World.holding Tryd.prog os ⟨#[], #[], []⟩)) #[.slice none 0 0] rfl (by kernel_rfl) (by kernel_rfl) (by kernel_rfl)
      (OpenSpec.preRow_of_cond 8 hx (by kernel_rfl) (fun k hk => by cases hk) (by kernel_rfl) (laid_met os _))) ?_
  intro W base args ds gs before hval hW _ _ _ hL hsh _
  exact contract H enc W base args ds gs before hval hW (std_of hL hsh)

theorem said : Rows.FixSumSaid :=
  OpenClaim.holds_of_cond 4 Tryd.f4 rfl rfl rfl rfl rfl rfl rfl ⟨rfl, rfl, rfl, rfl, rfl⟩ rfl rfl rfl rfl rfl (by kernel_rfl) Tryd.func4 (by kernel_rfl)
    (of_decide_eq_true (by kernel_rfl)) (by unfold Func.isWrapper; first | (rw [if_pos (by decide +kernel)]; kernel_rfl) | (rw [if_neg (by decide +kernel)]; exact ⟨rfl, rfl⟩))
    (fun os started H enc _ F => by rw [OpenClaim.pre_eq_preRow]; exact lifted os started H enc F)

theorem plain (f : FuncId) (fn : Func) (hf : Tryd.pinned.checked.prog.funcNamed "counterpane/counterpanelaw1.FixSum" = some f) (hfn : Tryd.pinned.checked.prog.funcs[f]? = some fn) :
    false = Tryd.pinned.checked.prog.looks [] ∧ ∀ (j : Nat) t, fn.params[j]? = some t → Tryd.pinned.checked.prog.wantsStandIn t = false := by
  obtain rfl : f = 4 := Option.some.inj ((show Tryd.prog.funcNamed "counterpane/counterpanelaw1.FixSum" = some 4 by kernel_rfl).symm.trans hf) |>.symm
  obtain rfl : fn = Tryd.f4 := (Option.some.inj (Tryd.func4.symm.trans hfn)).symm
  refine ⟨by kernel_rfl, fun j t ht => ?_⟩
  rw [Tryd.params4] at ht
  obtain rfl : t = 27 := by simpa using Array.mem_of_getElem? ht
  exact (show Tryd.prog.wantsStandIn 27 = false by kernel_rfl)

end fixSum

theorem fixSum_card : Rows.FixSumCardSaid :=
  Claim7.holds_tied_plain_at .later [] _ _ _ _ fixSum.said (fun _ h => by cases h) (by kernel_rfl) (fun _ h => by cases h) fixSum_row_tie rfl ⟨rfl, rfl⟩ (by kernel_rfl) rfl fixSum.plain (by kernel_rfl)
end Go.Proofs.YtiplfalnaaeljaaDoor
