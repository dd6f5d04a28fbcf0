/- counterpanelaw10.Cut, walked; . -/
import Derived.Test.YtngnakdbhkjbjaaGreatDoorKd48
import Derived.Test.YtngnakdbhkjbjaaGreatDoorKd18
import Derived.Test.YtngnakdbhkjbjaaGreatDoorKd30
import Derived.Test.YtngnakdbhkjbjaaGreatDoorKd49
import Derived.Deep.AppendLies
import Derived.Test.YtngnakdbhkjbjaaGreatDoorKd39
import Derived.Test.YtngnakdbhkjbjaaGreatDoorKd06
set_option linter.unusedVariables false
set_option linter.unusedSimpArgs false
set_option maxRecDepth 100000
set_option maxHeartbeats 8000000
namespace Go.Proofs.YtngnakdbhkjbjaaGreatDoor
open Go.RowKit
def S30 (s : ByteArray) : ByteArray := if (30 : Int) < (s.size : Int) then s.extract 0 (30 : Int).toNat else s
theorem S30_size (s : ByteArray) : (S30 s).size ≤ 30 := by
  unfold S30
  by_cases h : (30 : Int) < (s.size : Int)
  · rw [if_pos h]
    simp [ByteArray.size_extract]
    omega
  · rw [if_neg h]
    omega
theorem short30 (s : ByteArray) (w : World) : Calls Tryz.prog 17 #[.string s, .int .i64 30] w fun e w' => e = .returned (.string (S30 s)) ∧ w' = w := short_any s 30 w (by omega) (by omega)
def OpX (W0 : World) (P : Nat → Prop) (V : World) (y : Rv) (b : Bool) : Prop := ∃ X M mr, Rdg P V X (.agg #[.int .i64 y.tk, .int .i64 y.tm, .string y.tt, .bool y.tb, .int .i64 y.te, .slice y.a1 y.l1 y.c1, .slice y.a2 y.l2 y.c2]) ∧ R.Sl R.rc 4 W0 (.slice y.ra y.rl y.rc) M ∧ OK1 y X M ∧ MR M mr ∧ b = mayO y X M mr
theorem OpX.g {W0 : World} {P : Nat → Prop} {V : World} {y : Rv} {b : Bool} (h : OpX W0 P V y b) (q : Q W0 V) : OpG V y b := by
  obtain ⟨X, M, mr, h1, h2, h3, h4, h5⟩ := h
  exact ⟨X, M, mr, ⟨Rdg.rd _ _ h1, h2.on q⟩, h3, h4, h5⟩
def CutP (W0 W : World) (e : Ending) (V : World) : Prop := ∃ y b, e = .returned (.agg (Rv.L y).toArray) ∧ OpX W0 (fun n => n < W0.heap.size ∨ W.heap.size ≤ n) V y b ∧ Q W V
theorem cuT_sz (t : ByteArray) : (cuT t).size ≤ 250 := by
  unfold cuT
  by_cases h : 250 < t.size
  · rw [if_pos h]
    simp [ByteArray.size_extract]
    omega
  · rw [if_neg h]
    omega
theorem qx_setRow (V : World) (q : Nat) (cs : Array Value) : Qx q V (V.setRow q cs) := ⟨rfl, rfl, rfl, by simp [World.setRow], fun i hi hne => setRow_other V q i cs (fun e => hne (by rw [e]))⟩
theorem Qx.cells {p : Nat} {a : World} : ∀ (vs : List Value) (o : Nat) {w : World}, Qx p a w → Qx p a (w.setCells p o vs)
  | [], _, _, h => h
  | v :: r, o, w, h => Qx.cells r (o + 1) (h.own _ _)
set_option maxHeartbeats 8000000 in
theorem cutop_any (x : Rv) (X : Ex) (M : List R.Rg.Rc) (W0 W : World) (hr : RdI W0 X (.agg #[.int .i64 x.tk, .int .i64 x.tm, .string x.tt, .bool x.tb, .int .i64 x.te, .slice x.a1 x.l1 x.c1, .slice x.a2 x.l2 x.c2])) (hM : R.Sl R.rc 4 W0 (.slice x.ra x.rl x.rc) M) (hq0 : Q W0 W) (hS : Sm (cutE X 1 220).1) (hN : nodes (cutE X 1 220).1 ≤ 1000) :
    Calls Tryz.prog 7 #[.agg x.L.toArray] W fun e V' => CutP W0 W e V' := by
  go_enter Tryz.func7, Tryz.ntmps7
  go_upto_region 1 with fail
  have Z1 := hid ((cq_new W x.L).on ((Q.refl _).alloc (.cells zero23 35)))
  have Z2 : Hid (Cq ((W.alloc (.cells x.L.toArray 35)).alloc (.cells zero23 35)) (W.heap.size + 1) zero23.toList) := hid (by have h := cq_new (W.alloc (.cells x.L.toArray 35)) zero23.toList; rw [show (W.alloc (.cells x.L.toArray 35)).heap.size = W.heap.size + 1 by simp] at h; exact h)
  have QA : Hid (Q W ((W.alloc (.cells x.L.toArray 35)).alloc (.cells zero23 35))) := hid (((Q.refl W).alloc _).alloc _)
  have hne : W.heap.size ≠ W.heap.size + 1 := by omega
  have hp : W.heap.size ≤ W.heap.size := Nat.le_refl _
  have hq : W.heap.size ≤ W.heap.size + 1 := by omega
  unfold zero23 at Z1 Z2 QA
  generalize (W.alloc (.cells x.L.toArray 35)).alloc _ = w2 at Z1 Z2 QA ⊢
  have Z1D := hid (Z1.out.on (Q.refl _).drew)
  have d1 := Z1.out.c 1 _ rfl
  have d22 := Z1.out.c 22 _ rfl
  have f1 := Z1.out.f 1
  have f22 := Z1.out.f 22
  refine two (F := ?F) (fun HF => ?both) ?rest
  case both =>
    go_region_with (go_at_call 17; refine (short30 _ _).mono ?_; rintro e9 v9 ⟨rfl, h9⟩; replace h9 := h9.symm; subst h9)
    all_goals exact HF
  clear Z1D d1 d22 f1 f22
  have ZA : Hid (Cq (((w2.setCell ⟨W.heap.size, 1, none⟩ (.string (S30 x.sh))).setCell ⟨W.heap.size, 22, none⟩ (.string (S30 x.nm))).drew) W.heap.size (Rv.L { x with sh := S30 x.sh, nm := S30 x.nm })) := hid (((Z1.out.put 1 (.string (S30 x.sh))).put 22 (.string (S30 x.nm))).on (Q.refl _).drew)
  have ZB := hid (((Z2.out.oth hne.symm 1 (.string (S30 x.sh))).oth hne.symm 22 (.string (S30 x.nm))).on (Q.refl _).drew)
  have QB : Hid (Q W (((w2.setCell ⟨W.heap.size, 1, none⟩ (.string (S30 x.sh))).setCell ⟨W.heap.size, 22, none⟩ (.string (S30 x.nm))).drew)) := hid ((Q.setCell (Q.setCell QA.out hp _) hp _).drew)
  clear Z1 Z2 QA
  generalize ((w2.setCell ⟨W.heap.size, 1, none⟩ (.string (S30 x.sh))).setCell ⟨W.heap.size, 22, none⟩ (.string (S30 x.nm))).drew = V1 at ZA ZB QB ⊢
  have d4 : V1.cell? ⟨W.heap.size, 4, none⟩ = some (.bool x.f) := ZA.out.c 4 _ rfl
  have d5 : V1.cell? ⟨W.heap.size, 5, none⟩ = some (.int .i64 x.vk) := ZA.out.c 5 _ rfl
  have d6 : V1.cell? ⟨W.heap.size, 6, none⟩ = some (.int .i64 x.vn) := ZA.out.c 6 _ rfl
  have d7 : V1.cell? ⟨W.heap.size, 7, none⟩ = some (.string x.vt) := ZA.out.c 7 _ rfl
  have d8 : V1.cell? ⟨W.heap.size, 8, none⟩ = some (.bool x.vb) := ZA.out.c 8 _ rfl
  have d9 : V1.cell? ⟨W.heap.size, 9, none⟩ = some (.int .i64 x.ve) := ZA.out.c 9 _ rfl
  have d10 : V1.cell? ⟨W.heap.size, 10, none⟩ = some (.int .i64 x.tk) := ZA.out.c 10 _ rfl
  have d11 : V1.cell? ⟨W.heap.size, 11, none⟩ = some (.int .i64 x.tm) := ZA.out.c 11 _ rfl
  have d12 : V1.cell? ⟨W.heap.size, 12, none⟩ = some (.string x.tt) := ZA.out.c 12 _ rfl
  have d13 : V1.cell? ⟨W.heap.size, 13, none⟩ = some (.bool x.tb) := ZA.out.c 13 _ rfl
  have d14 : V1.cell? ⟨W.heap.size, 14, none⟩ = some (.int .i64 x.te) := ZA.out.c 14 _ rfl
  have d15 : V1.cell? ⟨W.heap.size, 15, none⟩ = some (.slice x.a1 x.l1 x.c1) := ZA.out.c 15 _ rfl
  have d16 : V1.cell? ⟨W.heap.size, 16, none⟩ = some (.slice x.a2 x.l2 x.c2) := ZA.out.c 16 _ rfl
  have HC := hid (cutc_any x.f x.vk x.vn x.vt x.vb x.ve x.tk x.tm x.tt x.tb x.te x.a1 x.l1 x.c1 x.a2 x.l2 x.c2 X W0 V1 hr (hq0.trans QB.out))
  go_upto_region 3 with (first
    | (go_at_call 18; refine HC.out.mono ?_; rintro e9 V2 ⟨k8, m8, t8, bb8, er8, a18, l18, c18, a28, l28, c28, rfl, hd8, q9⟩; have QC : Hid (Q W V2) := hid (QB.out.trans q9); have ZC := hid (ZA.out.on q9); have ZD := hid (ZB.out.on q9); have RD := hid hd8; clear q9 hd8)
    | (with_reducible refine wpList_store_mid (by with_unfolding_all rfl) 30 _ _ (by with_unfolding_all rfl) W.heap.size 4 #[.bool x.f, .int .i64 x.vk, .int .i64 x.vn, .string (cuT x.vt), .bool x.vb, .int .i64 x.ve, .int .i64 k8, .int .i64 m8, .string t8, .bool bb8, .int .i64 er8, .slice a18 l18 c18, .slice a28 l28 c28] (by with_unfolding_all rfl) (by with_unfolding_all rfl) (by with_unfolding_all exact there_cq ZC.out 4 13 (by simp [Rv.L])) (by with_unfolding_all exact info30) (by kernel_rfl) ?_))
  have ZE : Hid (Cq (V2.setCells W.heap.size 4 [.bool x.f, .int .i64 x.vk, .int .i64 x.vn, .string (cuT x.vt), .bool x.vb, .int .i64 x.ve, .int .i64 k8, .int .i64 m8, .string t8, .bool bb8, .int .i64 er8, .slice a18 l18 c18, .slice a28 l28 c28]) W.heap.size (Rv.L { x with sh := S30 x.sh, nm := S30 x.nm, vt := cuT x.vt, tk := k8, tm := m8, tt := t8, tb := bb8, te := er8, a1 := a18, l1 := l18, c1 := c18, a2 := a28, l2 := l28, c2 := c28 })) := hid (Cq.cells [.bool x.f, .int .i64 x.vk, .int .i64 x.vn, .string (cuT x.vt), .bool x.vb, .int .i64 x.ve, .int .i64 k8, .int .i64 m8, .string t8, .bool bb8, .int .i64 er8, .slice a18 l18 c18, .slice a28 l28 c28] 4 ZC.out)
  have ZF := hid (Cq.othcells hne.symm [.bool x.f, .int .i64 x.vk, .int .i64 x.vn, .string (cuT x.vt), .bool x.vb, .int .i64 x.ve, .int .i64 k8, .int .i64 m8, .string t8, .bool bb8, .int .i64 er8, .slice a18 l18 c18, .slice a28 l28 c28] 4 ZD.out)
  have QE : Hid (Q W (V2.setCells W.heap.size 4 [.bool x.f, .int .i64 x.vk, .int .i64 x.vn, .string (cuT x.vt), .bool x.vb, .int .i64 x.ve, .int .i64 k8, .int .i64 m8, .string t8, .bool bb8, .int .i64 er8, .slice a18 l18 c18, .slice a28 l28 c28])) := hid (Q.cells hp _ _ QC.out)
  have XE : Qx W.heap.size V2 (V2.setCells W.heap.size 4 [.bool x.f, .int .i64 x.vk, .int .i64 x.vn, .string (cuT x.vt), .bool x.vb, .int .i64 x.ve, .int .i64 k8, .int .i64 m8, .string t8, .bool bb8, .int .i64 er8, .slice a18 l18 c18, .slice a28 l28 c28]) := Qx.cells _ _ (Qx.refl _ _)
  have RE := hid (Rdg.on XE (fun b hb => by have h1 := ZA.out.l; have h2 := hq0.size; omega) _ _ RD.out)
  have hV1 : W.heap.size + 1 < V1.heap.size := ZB.out.l
  have hW0 := hq0.size
  obtain ⟨y, hy⟩ : ∃ y : Rv, y = { x with sh := S30 x.sh, nm := S30 x.nm, vt := cuT x.vt, tk := k8, tm := m8, tt := t8, tb := bb8, te := er8, a1 := a18, l1 := l18, c1 := c18, a2 := a28, l2 := l28, c2 := c28 } := ⟨_, rfl⟩
  rw [← hy] at ZE
  have HY : Hid (y.ra = x.ra ∧ y.rl = x.rl ∧ y.rc = x.rc ∧ y.sh = S30 x.sh ∧ y.nm = S30 x.nm ∧ y.vt = cuT x.vt) := hid (by rw [hy]; exact ⟨rfl, rfl, rfl, rfl, rfl, rfl⟩)
  have RY : Hid (Rdg (fun b => b < W0.heap.size ∨ V1.heap.size ≤ b) (V2.setCells W.heap.size 4 [.bool x.f, .int .i64 x.vk, .int .i64 x.vn, .string (cuT x.vt), .bool x.vb, .int .i64 x.ve, .int .i64 k8, .int .i64 m8, .string t8, .bool bb8, .int .i64 er8, .slice a18 l18 c18, .slice a28 l28 c28]) (cutE X 1 220).1 (.agg #[.int .i64 y.tk, .int .i64 y.tm, .string y.tt, .bool y.tb, .int .i64 y.te, .slice y.a1 y.l1 y.c1, .slice y.a2 y.l2 y.c2])) := hid (by rw [hy]; exact RE.out)
  clear hy RE XE RD ZC ZD QC ZA ZB
  generalize V2.setCells W.heap.size 4 [.bool x.f, .int .i64 x.vk, .int .i64 x.vn, .string (cuT x.vt), .bool x.vb, .int .i64 x.ve, .int .i64 k8, .int .i64 m8, .string t8, .bool bb8, .int .i64 er8, .slice a18 l18 c18, .slice a28 l28 c28] = V3 at ZE ZF QE RY ⊢
  have d20 : V3.cell? ⟨W.heap.size, 20, none⟩ = some (.slice x.ra x.rl x.rc) := (ZE.out.c 20 _ rfl).trans (by rw [HY.out.1, HY.out.2.1, HY.out.2.2.1])
  have f20 := ZE.out.f 20
  have hMl := hM.len
  obtain ⟨ao, cap, hsl, hc1, hc2⟩ := hMl
  simp only [Value.slice.injEq] at hsl
  obtain ⟨hra, hrl, hrc⟩ := hsl
  have HM := hid hM
  have h3 : x.rl ≤ 9223372036854775807 := by rw [hrl]; exact Nat.le_trans hc1 (by unfold maxLen at hc2; omega)
  have h4 : x.rl ≤ x.rc := by rw [hrl, hrc]; exact hc1
  obtain ⟨mr, hmr⟩ := mr_ex (M.take 20)
  have OK : Hid (∀ z : Rv, z.sh = y.sh → z.nm = y.nm → z.vt = y.vt → OK1 z (cutE X 1 220).1 (M.take 20)) := hid (fun z h1 h2 h3 => ⟨by rw [h1, HY.out.2.2.2.1]; have := S30_size x.sh; omega, by rw [h2, HY.out.2.2.2.2.1]; have := S30_size x.nm; omega, by rw [h3, HY.out.2.2.2.2.2]; have := cuT_sz x.vt; omega, hS, hN, by rw [List.length_take]; omega⟩)
  have HFin : Hid (∀ (z : Rv) (V : World), Rdg (fun b => b < W0.heap.size ∨ V1.heap.size ≤ b) V (cutE X 1 220).1 (.agg #[.int .i64 z.tk, .int .i64 z.tm, .string z.tt, .bool z.tb, .int .i64 z.te, .slice z.a1 z.l1 z.c1, .slice z.a2 z.l2 z.c2]) → Cq V (W.heap.size + 1) zero23.toList → Q W V → R.Sl R.rc 4 W0 (.slice z.ra z.rl z.rc) (M.take 20) → OK1 z (cutE X 1 220).1 (M.take 20) →
      OpX W0 (fun n => n < W0.heap.size ∨ W.heap.size ≤ n) (V.setRow (W.heap.size + 1) z.L.toArray) z (mayO z (cutE X 1 220).1 (M.take 20) mr) ∧ Q W (V.setRow (W.heap.size + 1) z.L.toArray) ∧ (V.setRow (W.heap.size + 1) z.L.toArray).heap[W.heap.size + 1]? = some (.cells z.L.toArray 35 (0, 0))) := hid (fun z V h1 h2 h3 h4 h5 => by
    have hx : Qx (W.heap.size + 1) V (V.setRow (W.heap.size + 1) z.L.toArray) := qx_setRow V _ _
    have hQ : Q W (V.setRow (W.heap.size + 1) z.L.toArray) := h3.viaq hx hq
    exact ⟨⟨_, _, mr, Rdg.mono (fun b hb => by omega) _ _ (Rdg.on hx (fun b hb => by omega) _ _ h1), h4, h5, hmr, rfl⟩, hQ, setRow_heap V _ _ _ _ _ h2.h⟩)
  by_cases h20 : (20 : Int) < (x.rl : Int)
  · obtain ⟨g, off, cp, hsl2, u1, u2, u3⟩ := hM.at (i := 0) (by omega)
    clear u1 u2 u3
    simp only [Value.slice.injEq] at hsl2
    have hg := hsl2.1
    have HT : Hid (R.Sl R.rc 4 W0 (.slice x.ra 20 x.rc) (M.take 20)) := hid (by
      have h := hM
      rw [hrl] at h
      exact R.sl_take h 20 (by omega))
    rw [hg] at d20 HT
    have ZG : Hid (Cq (V3.setCell ⟨W.heap.size, 20, none⟩ (.slice (some ⟨g, off, none⟩) 20 x.rc)) W.heap.size (Rv.L { y with ra := some ⟨g, off, none⟩, rl := 20, rc := x.rc })) := hid (ZE.out.put 20 (.slice (some ⟨g, off, none⟩) 20 x.rc))
    have ZH := hid (ZF.out.oth hne.symm 20 (.slice (some ⟨g, off, none⟩) 20 x.rc))
    have QG := hid (Q.setCell QE.out hp (k := 20) (.slice (some ⟨g, off, none⟩) 20 x.rc))
    have RG := hid (Rdg.on (show Qx W.heap.size V3 (V3.setCell ⟨W.heap.size, 20, none⟩ (.slice (some ⟨g, off, none⟩) 20 x.rc)) from (Qx.refl _ _).own _ _) (fun b hb => by omega) _ _ RY.out)
    have HH := hid (HFin.out { y with ra := some ⟨g, off, none⟩, rl := 20, rc := x.rc } _ RG.out ZH.out QG.out HT.out (OK.out _ rfl rfl rfl))
    have hl2 : (20 : Int) ≤ (x.rc : Int) := by omega
    have hl3 : (x.rc : Int) ≤ 9223372036854775807 := by rw [hrc]; unfold maxLen at hc2; omega
    obtain ⟨z, hz⟩ : ∃ z : Rv, z = { y with ra := some ⟨g, off, none⟩, rl := 20, rc := x.rc } := ⟨_, rfl⟩
    rw [← hz] at ZG HH
    clear ZE ZF QE RY RG HFin OK hM HM HT hz hsl2 hg hra hrl hrc HY
    go_upto_region 5 with fail
    generalize V3.setCell ⟨W.heap.size, 20, none⟩ (.slice (some ⟨g, off, none⟩) 20 x.rc) = V4 at ZG ZH QG HH ⊢
    go_wp2_with (first
      | (with_reducible refine wpl_loadg _ (by with_unfolding_all rfl) (by with_unfolding_all rfl) W.heap.size (by with_unfolding_all rfl) z.L (by with_unfolding_all exact ZG.out) (by with_unfolding_all rfl) ?_)
      | (with_reducible refine wpList_store_row (by with_unfolding_all rfl) 35 _ _ (by with_unfolding_all rfl) (W.heap.size + 1) z.L.toArray (by with_unfolding_all rfl) (by with_unfolding_all rfl) 35 zero23 (by with_unfolding_all exact ZH.out.h) (by with_unfolding_all exact info35) (by with_unfolding_all rfl) (by with_unfolding_all exact z.one) ?_))
    refine bodyPost_ret (v := .agg z.L.toArray) (results_cell_row Tryz.results7 _ _ (W.heap.size + 1) 35 z.L.toArray (0, 0) _ (by rfl) HH.out.2.2 Tryz.underlying35 rfl info35) rfl ?_
    exact (⟨z, _, rfl, HH.out.1, HH.out.2.1⟩ : CutP W0 W _ _)
  · have HT : Hid (R.Sl R.rc 4 W0 (.slice y.ra y.rl y.rc) (M.take 20)) := hid (by
      rw [HY.out.1, HY.out.2.1, HY.out.2.2.1, List.take_of_length_le (by omega)]
      exact hM)
    have HH := hid (HFin.out y _ RY.out ZF.out QE.out HT.out (OK.out _ rfl rfl rfl))
    obtain ⟨z, hz⟩ : ∃ z : Rv, z = y := ⟨_, rfl⟩
    rw [← hz] at ZE HH
    have ZG := ZE
    have ZH := ZF
    clear ZE ZF QE RY HFin OK hM HM HT hz hra hrl hrc HY
    go_upto_region 5 with fail
    go_wp2_with (first
      | (with_reducible refine wpl_loadg _ (by with_unfolding_all rfl) (by with_unfolding_all rfl) W.heap.size (by with_unfolding_all rfl) z.L (by with_unfolding_all exact ZG.out) (by with_unfolding_all rfl) ?_)
      | (with_reducible refine wpList_store_row (by with_unfolding_all rfl) 35 _ _ (by with_unfolding_all rfl) (W.heap.size + 1) z.L.toArray (by with_unfolding_all rfl) (by with_unfolding_all rfl) 35 zero23 (by with_unfolding_all exact ZH.out.h) (by with_unfolding_all exact info35) (by with_unfolding_all rfl) (by with_unfolding_all exact z.one) ?_))
    refine bodyPost_ret (v := .agg z.L.toArray) (results_cell_row Tryz.results7 _ _ (W.heap.size + 1) 35 z.L.toArray (0, 0) _ (by rfl) HH.out.2.2 Tryz.underlying35 rfl info35) rfl ?_
    exact (⟨z, _, rfl, HH.out.1, HH.out.2.1⟩ : CutP W0 W _ _)
def OpI (W0 : World) (x : Rv) : Prop := ∃ X M, RdI W0 X (.agg #[.int .i64 x.tk, .int .i64 x.tm, .string x.tt, .bool x.tb, .int .i64 x.te, .slice x.a1 x.l1 x.c1, .slice x.a2 x.l2 x.c2]) ∧ R.Sl R.rc 4 W0 (.slice x.ra x.rl x.rc) M ∧ Sm (cutE X 1 220).1 ∧ nodes (cutE X 1 220).1 ≤ 1000
theorem cutop_g (x : Rv) (W0 W : World) (h : OpI W0 x) (q : Q W0 W) : Calls Tryz.prog 7 #[.agg x.L.toArray] W fun e V' => CutP W0 W e V' := by
  obtain ⟨X, M, h1, h2, h3, h4⟩ := h
  exact cutop_any x X M W0 W h1 h2 q h3 h4
theorem qx_of {a b : World} (q : Q a b) (p : Nat) : Qx p a b := ⟨q.os, q.tape, q.output, q.size, fun i hi _ => Q.block q hi⟩
def AllX (W0 : World) (v : Value) (W : World) (ys : List Rv) : Prop := ∀ y ∈ ys, ∃ b, OpX W0 (fun n => n < W.heap.size ∧ v.ownBlock ≠ some n) W y b
theorem AllX.q {W0 W V : World} {v : Value} {ys : List Rv} (h : AllX W0 v W ys) (q : Q W V) : AllX W0 v V ys := by
  intro y hy
  obtain ⟨b, X, M, mr, h1, h2⟩ := h y hy
  have hs := q.size
  exact ⟨b, X, M, mr, Rdg.mono (fun n hn => ⟨by omega, hn.2⟩) _ _ (Rdg.on (qx_of q V.heap.size) (fun n hn => by omega) _ _ h1), h2⟩
theorem AllX.grow {W0 W V : World} {v : Value} {g m cap : Nat} {ys : List Rv} (h : AllX W0 v W ys) (hg : W.grownBy V v.ownBlock) (ho : ∀ j, v.ownBlock = some j → 0 ≤ j) (hl : v.ownBlock = some g ∨ g = W.heap.size) : AllX W0 (.slice (some ⟨g, 0, none⟩) m cap) V ys := by
  obtain ⟨r, hx, _, hr⟩ := grown_qx (n := 0) hg (Nat.zero_le _) ho
  intro y hy
  obtain ⟨b, X, M, mr, h1, h2⟩ := h y hy
  have hs := hx.size
  refine ⟨b, X, M, mr, Rdg.mono (fun n hn => ⟨by omega, fun e => ?_⟩) _ _ (Rdg.on hx (fun n hn e => ?_) _ _ h1), h2⟩
  · subst e
    rcases hr with hr | hr
    · exact hn.2 hr
    · omega
  · simp only [Value.ownBlock, Option.some.injEq] at e
    subst e
    rcases hl with hl | hl
    · exact hn.2 hl
    · omega
theorem AllX.cut {W0 W V : World} {v : Value} {y : Rv} {b : Bool} (h : OpX W0 (fun n => n < W0.heap.size ∨ W.heap.size ≤ n) V y b) (h1 : ∀ j, v.ownBlock = some j → W0.heap.size ≤ j) (h2 : ∀ j, v.ownBlock = some j → j < W.heap.size) : AllX W0 v V [y] := by
  intro z hz
  simp only [List.mem_cons, List.not_mem_nil, or_false] at hz
  subst hz
  obtain ⟨X, M, mr, k1, k2⟩ := h
  refine ⟨b, X, M, mr, Rdg.mono (fun n hn => ⟨hn.2, fun e => ?_⟩) _ _ (Rdg.in _ _ k1), k2⟩
  have e1 := h1 n e
  have e2 := h2 n e
  omega
theorem AllX.app {W0 W : World} {v : Value} {ys zs : List Rv} (h : AllX W0 v W ys) (k : AllX W0 v W zs) : AllX W0 v W (ys ++ zs) := fun y hy => (List.mem_append.1 hy).elim (h y) (k y)
def CaP (w : World) (e : Ending) (V : World) : Prop := ∃ ys v, e = .returned v ∧ Sl Rv.L 23 V v ys ∧ (∀ y ∈ ys, ∃ b, OpG V y b) ∧ ys.length ≤ 100 ∧ Q w V
theorem info35y : (Tryz.prog.info? 35).map (fun i => (i.zero, i.size, i.bytes)) = some (some (.agg zero23), 23, 264) := by kernel_rfl
theorem flat_y (y : Rv) : (flat Rv.L [y]).toArray = y.L.toArray := by simp [flat]
set_option maxHeartbeats 8000000 in
theorem cutall_any (v : Value) (xs : List Rv) (c : Nat) (W0 w : World) (hc : c ≤ 100) (h : Sl Rv.L 23 W0 v xs) (ho : ∀ x ∈ xs, OpI W0 x) (hq0 : Q W0 w) : Calls Tryz.prog 14 #[v, .int .i64 c] w fun e V' => CaP w e V' := by
  obtain ⟨i0, HI⟩ := inf_of info35y
  have HI := hid HI
  have HS := hid (h.on hq0)
  have HO := hid ho
  have HQ0 := hid hq0
  have hw0 := hq0.size
  obtain ⟨ao, cap, rfl, h1, h2⟩ := h.len
  clear h ho hq0
  have h3 : xs.length ≤ 9223372036854775807 := Nat.le_trans h1 (by unfold maxLen at h2; omega)
  go_enter Tryz.func14, Tryz.ntmps14
  go_wp2_with fail
  go_loopw [5, 6] (fun o s W => ∃ (n : Nat) (ys : List Rv), n ≤ min xs.length c ∧ s = .int .i64 n ∧ ys.length = n ∧ Own Rv.L 35 23 w.heap.size W o ys ∧ AllX W0 o W ys ∧ Q w W) (fun _ s _ => min xs.length c - (intOf s).toNat)
  case atStart => exact ⟨0, [], Nat.zero_le _, rfl, rfl, own_nil _, fun y hy => absurd hy (by simp), Q.refl _⟩
  case round =>
    obtain ⟨n, ys, hn, rfl, hyl, hown, hall, hq⟩ := hrel
    have HOW := hid hown
    have HAL := hid hall
    have HQ := hid hq
    have HYL := hid hyl
    clear hown hall hq hyl
    by_cases hlt : n < min xs.length c
    · have hl1 : n < xs.length := by omega
      have hlt' : (n : Int) < (xs.length : Int) := by omega
      have hlt2 : (n : Int) < (c : Int) := by omega
      obtain ⟨g, off, cap', e, _, _, hcc⟩ := (HS.out.on HQ.out).at hl1
      cases e
      have HX := hid (HO.out _ (List.getElem_mem hl1))
      have HRg : Hid (wr.rangeAt g (off + n * 23) (xs[n]).L) := hid (fun j u hu => hcc j u hu)
      clear hcc
      generalize xs[n] = x at HX HRg
      have HCut := hid (cutop_g x W0 wr HX.out (HQ0.out.trans HQ.out))
      clear HX
      go_wp2_with (first
        | (with_reducible refine wpl_loadm _ (by with_unfolding_all rfl) (by with_unfolding_all rfl) g (off + n * 23) x (by with_unfolding_all exact HRg.out) (by with_unfolding_all rfl) ?_)
        | (go_at_call 7; refine HCut.out.mono ?_; intro e9 V hcp; obtain ⟨y, b, rfl, hx9, q9⟩ := hcp; have HY := hid hx9; have QV := hid q9; clear hx9 q9)
        | (with_reducible refine wpl_bsl 1 _ (by with_unfolding_all rfl) (by with_unfolding_all rfl) [y] (by decide) (by kernel_rfl) ?_)
        | (at_builtin; refine wpList_append_lies (w := V.alloc (.cells (flat Rv.L [y]).toArray 35)) rfl _ _ 42 rfl w.heap.size 35 i0 (.agg zero23) 23 264 Tryz.underlying42 HI.out.1 HI.out.2.1 HI.out.2.2.1 HI.out.2.2.2 rfl (by decide) _ _ _ rfl ((HOW.out.on QV.out).alloc _) _ 1 1 y.L rfl rfl ?c1 ?c2 (by decide) ?c3 ?c4 ?c5 (V.heap.size + 1) ?c6 ?_))
      case c1 => rw [flat_y]; exact news_new V y.L 35
      case c2 => exact y.ones
      case c3 => unfold maxLen; have := HYL.out; omega
      case c4 => have := HYL.out; omega
      case c5 => have := HQ.out.size; have := QV.out.size; simp; omega
      case c6 => simp
      · intro g3 cap3 w3 hown3 hgrow hlies hlt3
        have HO3 := hid (own_snoc (enc := Rv.L) (x := y) hown3)
        have HQ3 : Hid (Q w w3) := hid (Below.grown ((HQ.out.trans QV.out).alloc _) hgrow (by have := HQ.out.size; have := QV.out.size; simp; omega) (HOW.out.blk))
        have HA3 := hid (AllX.grow (m := ys.length + 1) (cap := cap3) (((HAL.out.q QV.out).app (AllX.cut HY.out (fun j e => by have := HOW.out.blk j e; omega) HOW.out.lt)).q ((Q.refl _).alloc (.cells (flat Rv.L [y]).toArray 35))) hgrow (fun _ _ => Nat.zero_le _) (by simpa using hlies))
        clear hown3 hgrow hlies hlt3 HOW HAL HQ QV HY HCut HRg
        go_wp2_with fail
        go_roundw
        case rel => exact ⟨n + 1, ys ++ [y], by omega, by go_num, by have := HYL.out; simp; omega, HO3.out, HA3.out, HQ3.out⟩
        case measure => simp [intOf]; omega
    · have HFin : Hid (∀ u : Value, Own Rv.L 35 23 w.heap.size wr u ys → AllX W0 u wr ys → CaP w (.returned u) wr) := hid (fun u k1 k2 => ⟨ys, u, rfl, k1.sl Rv.len (by decide), fun y hy => by
        obtain ⟨b, hb⟩ := k2 y hy
        exact ⟨b, hb.g (HQ0.out.trans HQ.out)⟩, by have := HYL.out; omega, HQ.out⟩)
      by_cases hl1 : (n : Int) < (xs.length : Int)
      · have hl2 : ¬ (n : Int) < (c : Int) := by omega
        go_wp2_with fail
        go_ret
        exact HFin.out _ HOW.out HAL.out
      · go_wp2_with fail
        go_ret
        exact HFin.out _ HOW.out HAL.out
end Go.Proofs.YtngnakdbhkjbjaaGreatDoor
namespace Go.Proofs.YtngnakdbhkjbjaaGreatDoor
open Go.ChangeShapes Go.WideShapes Go.ChangeAt Go.RowKit
theorem cut_sm {B : Nat} (hB : B ≤ 2000000) : ∀ (x : Ex) (d l : Nat), Shs B x → Sm (cutE x d l).1
  | .mk k n t b e rs ks, d, l, h => by
    rw [Shs] at h
    rw [cutE, Sm]
    refine ⟨?_, fun r hr => Nat.le_trans (h.1 r (List.mem_of_mem_take hr)) hB, go hB ks d (l - 1) h.2⟩
    rw [List.length_take]
    omega
  where
  go {B : Nat} (hB : B ≤ 2000000) : ∀ (ks : List Ex) (d l : Nat), Shs.ShsL B ks → Sm.SmL (cutE.cutL ks d l).1
  | [], d, l, _ => by rw [cutE.cutL, Sm.SmL]; trivial
  | x :: xs, d, l, h => by
    rw [Shs.ShsL] at h
    rw [cutE.cutL]
    split
    · rw [Sm.SmL]
      exact ⟨cut_sm hB x (d + 1) l h.1, go hB xs d _ h.2⟩
    · rw [Sm.SmL]; trivial
theorem open_rects {H : Type} {enc : TypeId × Value → H} {W : World} {sp : Nat → Bool} {held : Bool} {base : Nat} (fuel : Nat) (v : Value) (z : DataW H × List MemPlace)
    (hf : DataW.trod enc Tryz.prog W base sp held fuel 33 [v] = some z) : ∃ (ao : Option Addr) (l c : Nat) (L : List R.Rg.Rc), v = .slice ao l c ∧ R.Sl R.rc 4 W v L := by
  rcases DataW.trod_slice Tryz.underlying33 hf with ⟨hcs, _⟩ | ⟨x, l, c, elems, rest, m, _, hcs, _, hb, hl, hm, hlen, hel, _, _⟩
  · obtain rfl : v = .slice none 0 0 := one_of hcs
    exact ⟨none, 0, 0, [], rfl, R.sl_nil W⟩
  · obtain rfl : v = .slice (some x) l c := one_of hcs
    have hcell : ∀ i, i < l → ∃ y : R.Rg.Rc, ∀ j u, (R.rc y)[j]? = some u → W.cell? ((x.add (i * 4)).add j) = some u := by
      intro i hi
      have hi' := hel i hi
      rw [R.cells28, List.getElem?_eq_getElem (by omega), Option.bind_eq_some_iff] at hi'
      obtain ⟨cs, h1, h2⟩ := hi'
      obtain ⟨y, rfl⟩ := R.open_cells h2
      obtain ⟨_, _, h3⟩ := World.cells?_some h1
      refine ⟨y, fun j u hu => ?_⟩
      have hj : j < 4 := by rw [← R.rc_len y]; exact (List.getElem?_eq_some_iff.1 hu).1
      rw [h3 j (by omega)]
      exact hu
    rcases Nat.eq_zero_or_pos l with hl0 | hp
    · subst hl0
      exact ⟨_, _, _, [], rfl, ⟨some x, c, rfl, Nat.zero_le _, hm, fun h => absurd h (by simp)⟩⟩
    · obtain ⟨b, off, spot⟩ := x
      obtain ⟨c0, hc0⟩ := hcell 0 hp
      have hspot : spot = none := by simpa [Addr.add] using World.cell?_spot (hc0 0 _ rfl)
      subst hspot
      obtain ⟨L, hL, hP⟩ := R.list_of (fun i y => R.At R.rc W b (off + i * 4) y) l (fun i hi => by
        obtain ⟨y, g⟩ := hcell i hi
        refine ⟨y, fun j u hu => ?_⟩
        have := g j u hu
        rw [R.add_plain, R.add_plain] at this
        exact this)
      subst hL
      exact ⟨_, _, _, L, rfl, ⟨some ⟨b, off, none⟩, c, rfl, hl, hm, fun _ => ⟨b, off, rfl, hP⟩⟩⟩
theorem cells35' : Tryz.prog.cellsOf 35 = 23 := by kernel_rfl
theorem cells32' : Tryz.prog.cellsOf 32 = 3 := by kernel_rfl
theorem open_line {H : Type} {enc : TypeId × Value → H} {W : World} {sp : Nat → Bool} {held : Bool} {base : Nat} (fuel : Nat) (cs : List Value) (z : DataW H × List MemPlace)
    (h : DataW.trod enc Tryz.prog W base sp held fuel 32 cs = some z) : ∃ (a b c : Int), cs = [.int .i64 a, .int .i64 b, .int .i64 c] := by
  obtain ⟨xs, m, hm0, hz, hl, hlen, hf⟩ := DataW.trod_struct Tryz.underlying32 h
  rw [cells32'] at hl
  have hlen' : xs.length = 3 := hlen
  match cs, hl with
  | [v0, v1, v2], _ =>
    have g0 := hf 0 _ rfl
    have g1 := hf 1 _ rfl
    have g2 := hf 2 _ rfl
    match xs, hlen' with
    | [y0, y1, y2], _ =>
      obtain ⟨a, e0, _, _⟩ := DataW.trod_int Tryz.underlying3 g0
      obtain ⟨b, e1, _, _⟩ := DataW.trod_int Tryz.underlying2 g1
      obtain ⟨c, e2, _, _⟩ := DataW.trod_int Tryz.underlying2 g2
      have f0 : v0 = .int .i64 a := one_of e0
      have f1 : v1 = .int .i64 b := one_of e1
      have f2 : v2 = .int .i64 c := one_of e2
      subst f0 f1 f2
      exact ⟨a, b, c, rfl⟩
theorem open_op {H : Type} {enc : TypeId × Value → H} {W : World} {sp : Nat → Bool} {held : Bool} {base : Nat} (fuel : Nat) (cs : List Value) (z : DataW H × List MemPlace)
    (h : DataW.trod enc Tryz.prog W base sp held fuel 35 cs = some z) (hB : Rows.uptoBulk z.1 ≤ 2000000) : ∃ x : Rv, cs = x.L ∧ OpI W x := by
  obtain ⟨xs, mm, hm0, hz, hl, hlen, hf⟩ := DataW.trod_struct Tryz.underlying35 h
  rw [cells35'] at hl
  have hlen' : xs.length = 9 := hlen
  match cs, hl with
  | [v0, v1, v2, v3, v4, v5, v6, v7, v8, v9, v10, v11, v12, v13, v14, v15, v16, v17, v18, v19, v20, v21, v22], _ =>
    have g0 := hf 0 _ rfl
    have g1 := hf 1 _ rfl
    have g2 := hf 2 _ rfl
    have g3 := hf 3 _ rfl
    have g4 := hf 4 _ rfl
    have g5 := hf 5 _ rfl
    have g6 := hf 6 _ rfl
    have g7 := hf 7 _ rfl
    have g8 := hf 8 _ rfl
    match xs, hlen' with
    | [y0, y1, y2, y3, y4, y5, y6, y7, y8], _ =>
      obtain ⟨k, e0, _, _⟩ := DataW.trod_int Tryz.underlying3 g0
      obtain ⟨sh, e1, _, _⟩ := DataW.trod_string Tryz.underlying9 g1
      obtain ⟨row, e2, _, _⟩ := DataW.trod_int Tryz.underlying2 g2
      obtain ⟨col, e3, _, _⟩ := DataW.trod_int Tryz.underlying2 g3
      obtain ⟨f, vk, vn, vt, vb, ve, tk, tm, tt, tb, te, a1, l1, c1, a2, l2, c2, X, e4, hX, sX, _, _⟩ := open_cell mm [v4, v5, v6, v7, v8, v9, v10, v11, v12, v13, v14, v15, v16] y4 g4
      obtain ⟨lk, la, lt, e5⟩ := open_line mm [v17, v18, v19] y5 g5
      obtain ⟨ra, rl, rc, M, e6, hM⟩ := open_rects mm v20 y6 g6
      obtain ⟨fm, e7, _, _⟩ := DataW.trod_int Tryz.underlying3 g7
      obtain ⟨nm, e8, _, _⟩ := DataW.trod_string Tryz.underlying9 g8
      have b4 : Rows.uptoBulk y4.1 ≤ Rows.uptoBulk z.1 := by rw [hz]; exact bulk_agg (by simp)
      have f0 : v0 = .int .i64 k := one_of e0
      have f1 : v1 = .string sh := one_of e1
      have f2 : v2 = .int .i64 row := one_of e2
      have f3 : v3 = .int .i64 col := one_of e3
      have f7 : v21 = .int .i64 fm := one_of e7
      have f8 : v22 = .string nm := one_of e8
      simp only [List.cons.injEq, and_true] at e4 e5
      obtain ⟨rfl, rfl, rfl, rfl, rfl, rfl, rfl, rfl, rfl, rfl, rfl, rfl, rfl⟩ := e4
      obtain ⟨rfl, rfl, rfl⟩ := e5
      subst f0 f1 f2 f3 f7 f8 e6
      exact ⟨⟨k, sh, row, col, f, vk, vn, vt, vb, ve, tk, tm, tt, tb, te, a1, l1, c1, a2, l2, c2, lk, la, lt, ra, rl, rc, fm, nm⟩, rfl, X, M, hX, hM, cut_sm (B := Rows.uptoBulk y4.1) (by omega) X 1 220 sX, by have := cut_nodes X 1 220 (by omega); omega⟩
theorem list_ofo (P : Nat → Rv → Prop) : ∀ n, (∀ i, i < n → ∃ x, P i x) → ∃ l : List Rv, l.length = n ∧ ∀ i (h : i < l.length), P i l[i]
  | 0, _ => ⟨[], rfl, fun i hi => absurd hi (by simp)⟩
  | n + 1, h => by
    obtain ⟨l, hl, hp⟩ := list_ofo P n (fun i hi => h i (by omega))
    obtain ⟨x, hx⟩ := h n (by omega)
    refine ⟨l ++ [x], by simp [hl], fun i hi => ?_⟩
    by_cases hin : i < l.length
    · rw [List.getElem_append_left hin]
      exact hp i hin
    · have hie : i = l.length := by simp at hi; omega
      subst hie
      simp
      rw [hl]
      exact hx
theorem open_ops {H : Type} {enc : TypeId × Value → H} {W : World} {sp : Nat → Bool} {held : Bool} {base base' : Nat} {v : Value} {d : DataW H} {p : List MemPlace} {r : Reach}
    (hv : Value.okWide Tryz.prog W r base' 42 v) (h : DataW.Trod enc Tryz.prog W base sp held 42 v d p) (hB : Rows.uptoBulk d ≤ 2000000) : ∃ L : List Rv, Sl Rv.L 23 W v L ∧ ∀ x ∈ L, OpI W x := by
  obtain ⟨a0, len0, cap0, rfl⟩ := okWide_slice Tryz.underlying42 hv
  obtain ⟨fuel, hf⟩ := h
  rcases DataW.trod_slice Tryz.underlying42 hf with ⟨hcs, _⟩ | ⟨x, l, c, elems, rest, m, hdd, hcs, hdz, hb, hl, hm, hlen, hel, hx1, hx2⟩
  · simp [Value.cells] at hcs
    obtain ⟨rfl, rfl, rfl⟩ := hcs
    exact ⟨[], sl_nil W, fun x hx => absurd hx (by simp)⟩
  · simp [Value.cells] at hcs
    obtain ⟨rfl, rfl, rfl⟩ := hcs
    have hcell : ∀ i, i < len0 → ∃ y : Rv, OpI W y ∧ ∀ j u, (Rv.L y)[j]? = some u → W.cell? ((x.add (i * 23)).add j) = some u := by
      intro i hi
      have hi' := hel i hi
      rw [cells35', List.getElem?_eq_getElem (by omega), Option.bind_eq_some_iff] at hi'
      obtain ⟨cs, h1, h2⟩ := hi'
      obtain ⟨y, rfl, hyI⟩ := open_op m _ _ h2 (Nat.le_trans (by have hd := (Prod.mk.inj hdz).1; rw [hd]; exact bulk_elem (List.mem_map.2 ⟨_, List.getElem_mem (by omega), rfl⟩)) hB)
      obtain ⟨_, _, h3⟩ := World.cells?_some h1
      refine ⟨y, hyI, fun j u hu => ?_⟩
      have hj : j < 23 := by rw [← Rv.len y]; exact (List.getElem?_eq_some_iff.1 hu).1
      rw [h3 j (by omega)]
      exact hu
    rcases Nat.eq_zero_or_pos len0 with rfl | hp
    · exact ⟨[], ⟨some x, cap0, rfl, Nat.zero_le _, hm, fun h => absurd h (by simp)⟩, fun x hx => absurd hx (by simp)⟩
    · obtain ⟨b, off, spot⟩ := x
      obtain ⟨c0, _, hc0⟩ := hcell 0 hp
      have hspot : spot = none := by simpa [Addr.add] using World.cell?_spot (hc0 0 _ rfl)
      subst hspot
      obtain ⟨L, hL, hP⟩ := list_ofo (fun i y => OpI W y ∧ Ats Rv.L W b (off + i * 23) y) len0 (fun i hi => by
        obtain ⟨y, gi, g⟩ := hcell i hi
        refine ⟨y, gi, fun j u hu => ?_⟩
        have := g j u hu
        rw [R.add_plain, R.add_plain] at this
        exact this)
      subst hL
      refine ⟨L, ⟨some ⟨b, off, none⟩, cap0, rfl, hl, hm, fun _ => ⟨b, off, rfl, fun i hi => (hP i hi).2⟩⟩, fun z hz => ?_⟩
      obtain ⟨i, hi, rfl⟩ := List.getElem_of_mem hz
      exact (hP i hi).1
end Go.Proofs.YtngnakdbhkjbjaaGreatDoor
namespace Go.Proofs.YtngnakdbhkjbjaaGreatDoor
open Go.RowKit
theorem mb_ex {V : World} {ys : List Rv} (h : ∀ y ∈ ys, ∃ b, OpG V y b) : ∃ mb : Rv → Bool, ∀ y ∈ ys, OpG V y (mb y) := by
  have h2 : ∀ y : Rv, ∃ b : Bool, y ∈ ys → OpG V y b := fun y => by
    by_cases hy : y ∈ ys
    · obtain ⟨b, hb⟩ := h y hy
      exact ⟨b, fun _ => hb⟩
    · exact ⟨false, fun e => absurd e hy⟩
  obtain ⟨f, hf⟩ := Classical.axiomOfChoice h2
  exact ⟨f, hf⟩
set_option maxHeartbeats 8000000 in
theorem opbatch_any (v : Value) (xs : List Rv) (n : Int) (w : World) (hg : Gd w) (h : Sl Rv.L 23 w v xs) (ho : ∀ x ∈ xs, OpI w x) : Calls Tryz.prog 4 #[v, .int .i64 n] w fun e V' => e = .returned (.bool true) ∧ Q w V' := by
  obtain ⟨i0, HI⟩ := inf_of info35y
  have HI := hid HI
  have hgw := hid hg
  have HCA := hid (fun V (q : Q w V) => cutall_any v xs 8 w V (by omega) h ho q)
  obtain ⟨ao, cap, rfl, h1, h2⟩ := h.len
  clear h ho hg
  have h3 : xs.length ≤ 9223372036854775807 := Nat.le_trans h1 (by unfold maxLen at h2; omega)
  go_enter Tryz.func4, Tryz.ntmps4
  by_cases n0 : n < 0
  · skip
    go_wp2_with (first
      | (go_at_call 6; refine (begun_any _ hgw.out).mono ?_; rintro e9 V0 ⟨rfl, q9⟩; have HQ0 := hid q9; clear q9)
      | (go_at_call 14; refine (HCA.out V0 HQ0.out).mono ?_; intro e9 V1 hcp; obtain ⟨ys, lv, rfl, hys, hog, hyl, q9⟩ := hcp; have HYS := hid hys; have HOG := hid hog; have HQV : Hid (Q w V1) := hid (HQ0.out.trans q9); obtain ⟨ao1, cap1, hlv, hc1, hc2⟩ := hys.len; subst hlv; clear hys hog q9))
    have hys3 : ys.length ≤ 9223372036854775807 := by omega
    have HG : Hid (Gd V1) := hid (hgw.out.on HQV.out)
    obtain ⟨mb, HMB⟩ := mb_ex HOG.out
    have HMB := hid HMB
    clear HOG
    go_loopw [7, 8] (fun o s W => ∃ (i : Nat) (zs : List Rv), i ≤ 0 ∧ s = .int .i64 i ∧ zs.length = i ∧ Own Rv.L 35 23 V1.heap.size W o zs ∧ Hid (∀ z ∈ zs, z ∈ ys) ∧ Q V1 W) (fun _ s _ => 0 - (intOf s).toNat)
    case atStart => exact ⟨0, [], Nat.zero_le _, rfl, rfl, own_nil _, hid (fun y hy => absurd hy (by simp)), Q.refl _⟩
    case round =>
      obtain ⟨i, zs, hi, rfl, hzl, hown, hin, hq⟩ := hrel
      have HOW := hid hown
      have HQ := hid hq
      have HZL := hid hzl
      clear hown hq hzl
      by_cases hlt : i < 0 ∧ 0 < ys.length
      · exact absurd hlt.1 (Nat.not_lt_zero _)
      · have HM1 := hid (HOW.out.sl Rv.len (by decide))
        have HB1 := hid (fun V (q : Q V1 V) => batch_any _ ys mb V (HG.out.on q) (HYS.out.on q) (fun y hy => (HMB.out y hy).on q))
        have HB2 := hid (fun V (q : Q V1 V) => rbatch_any _ ys mb V (HYS.out.on q) (fun y hy => (HMB.out y hy).on q))
        have HB3 := hid (fun V (q : Q V1 V) (q2 : Q wr V) => batch_any _ zs mb V (HG.out.on q) (HM1.out.on q2) (fun y hy => (HMB.out y (hin.out y hy)).on q))
        have HB4 := hid (fun V (q : Q V1 V) (q2 : Q wr V) => rbatch_any _ zs mb V (HM1.out.on q2) (fun y hy => (HMB.out y (hin.out y hy)).on q))
        have HB5 := hid (fun V (q : Q V1 V) => edit_any 0 (.slice none 0 0) [] mb mb V (HG.out.on q) (sl_nil V) (fun x hx => absurd hx (by simp)))
        rw [show edB 0 [] mb mb = false from rfl] at HB5
        obtain ⟨ao3, cap3, hsl3, _, _⟩ := HM1.out.len
        subst hsl3
        generalize (decide (ys.length ≤ 32) && ys.all mb) = r1 at HB1 HB2
        generalize (decide (zs.length ≤ 32) && zs.all mb) = r2 at HB3 HB4
        have hr1 : (r1 == r1) = true := by simp
        have hr2 : (r2 == r2) = true := by simp
        go_wp2_with (first
          | (go_at_call 12; have hQ := Q4; refine (HB5.out _ Q4).mono ?_; rintro e9 y5 ⟨rfl, q9⟩; have Q5 : Q V1 y5 := Q4.trans q9; clear q9 hQ)
          | (go_at_call 16; have hQ := Q3; refine (HB4.out _ Q3 R3).mono ?_; rintro e9 y4 ⟨rfl, q9⟩; have Q4 : Q V1 y4 := Q3.trans q9; clear q9 hQ)
          | (go_at_call 15; have hQ := Q2; refine (HB3.out _ Q2 R2).mono ?_; rintro e9 y3 ⟨rfl, q9⟩; have Q3 : Q V1 y3 := Q2.trans q9; have R3 : Q wr y3 := R2.trans q9; clear q9 hQ)
          | (go_at_call 16; have hQ := Q1; refine (HB2.out _ Q1).mono ?_; rintro e9 y2 ⟨rfl, q9⟩; have Q2 : Q V1 y2 := Q1.trans q9; have R2 : Q wr y2 := R1.trans q9; clear q9 hQ)
          | (go_at_call 15; refine (HB1.out _ HQ.out).mono ?_; rintro e9 y1 ⟨rfl, q9⟩; have Q1 : Q V1 y1 := HQ.out.trans q9; have R1 : Q wr y1 := q9; clear q9))
        go_ret
        exact ⟨rfl, HQV.out.trans Q5⟩
  by_cases n1 : 40 < n
  · skip
    go_wp2_with (first
      | (go_at_call 6; refine (begun_any _ hgw.out).mono ?_; rintro e9 V0 ⟨rfl, q9⟩; have HQ0 := hid q9; clear q9)
      | (go_at_call 14; refine (HCA.out V0 HQ0.out).mono ?_; intro e9 V1 hcp; obtain ⟨ys, lv, rfl, hys, hog, hyl, q9⟩ := hcp; have HYS := hid hys; have HOG := hid hog; have HQV : Hid (Q w V1) := hid (HQ0.out.trans q9); obtain ⟨ao1, cap1, hlv, hc1, hc2⟩ := hys.len; subst hlv; clear hys hog q9))
    have hys3 : ys.length ≤ 9223372036854775807 := by omega
    have HG : Hid (Gd V1) := hid (hgw.out.on HQV.out)
    obtain ⟨mb, HMB⟩ := mb_ex HOG.out
    have HMB := hid HMB
    clear HOG
    go_loopw [7, 8] (fun o s W => ∃ (i : Nat) (zs : List Rv), i ≤ 0 ∧ s = .int .i64 i ∧ zs.length = i ∧ Own Rv.L 35 23 V1.heap.size W o zs ∧ Hid (∀ z ∈ zs, z ∈ ys) ∧ Q V1 W) (fun _ s _ => 0 - (intOf s).toNat)
    case atStart => exact ⟨0, [], Nat.zero_le _, rfl, rfl, own_nil _, hid (fun y hy => absurd hy (by simp)), Q.refl _⟩
    case round =>
      obtain ⟨i, zs, hi, rfl, hzl, hown, hin, hq⟩ := hrel
      have HOW := hid hown
      have HQ := hid hq
      have HZL := hid hzl
      clear hown hq hzl
      by_cases hlt : i < 0 ∧ 0 < ys.length
      · exact absurd hlt.1 (Nat.not_lt_zero _)
      · have HM1 := hid (HOW.out.sl Rv.len (by decide))
        have HB1 := hid (fun V (q : Q V1 V) => batch_any _ ys mb V (HG.out.on q) (HYS.out.on q) (fun y hy => (HMB.out y hy).on q))
        have HB2 := hid (fun V (q : Q V1 V) => rbatch_any _ ys mb V (HYS.out.on q) (fun y hy => (HMB.out y hy).on q))
        have HB3 := hid (fun V (q : Q V1 V) (q2 : Q wr V) => batch_any _ zs mb V (HG.out.on q) (HM1.out.on q2) (fun y hy => (HMB.out y (hin.out y hy)).on q))
        have HB4 := hid (fun V (q : Q V1 V) (q2 : Q wr V) => rbatch_any _ zs mb V (HM1.out.on q2) (fun y hy => (HMB.out y (hin.out y hy)).on q))
        have HB5 := hid (fun V (q : Q V1 V) => edit_any 0 (.slice none 0 0) [] mb mb V (HG.out.on q) (sl_nil V) (fun x hx => absurd hx (by simp)))
        rw [show edB 0 [] mb mb = false from rfl] at HB5
        obtain ⟨ao3, cap3, hsl3, _, _⟩ := HM1.out.len
        subst hsl3
        generalize (decide (ys.length ≤ 32) && ys.all mb) = r1 at HB1 HB2
        generalize (decide (zs.length ≤ 32) && zs.all mb) = r2 at HB3 HB4
        have hr1 : (r1 == r1) = true := by simp
        have hr2 : (r2 == r2) = true := by simp
        go_wp2_with (first
          | (go_at_call 12; have hQ := Q4; refine (HB5.out _ Q4).mono ?_; rintro e9 y5 ⟨rfl, q9⟩; have Q5 : Q V1 y5 := Q4.trans q9; clear q9 hQ)
          | (go_at_call 16; have hQ := Q3; refine (HB4.out _ Q3 R3).mono ?_; rintro e9 y4 ⟨rfl, q9⟩; have Q4 : Q V1 y4 := Q3.trans q9; clear q9 hQ)
          | (go_at_call 15; have hQ := Q2; refine (HB3.out _ Q2 R2).mono ?_; rintro e9 y3 ⟨rfl, q9⟩; have Q3 : Q V1 y3 := Q2.trans q9; have R3 : Q wr y3 := R2.trans q9; clear q9 hQ)
          | (go_at_call 16; have hQ := Q1; refine (HB2.out _ Q1).mono ?_; rintro e9 y2 ⟨rfl, q9⟩; have Q2 : Q V1 y2 := Q1.trans q9; have R2 : Q wr y2 := R1.trans q9; clear q9 hQ)
          | (go_at_call 15; refine (HB1.out _ HQ.out).mono ?_; rintro e9 y1 ⟨rfl, q9⟩; have Q1 : Q V1 y1 := HQ.out.trans q9; have R1 : Q wr y1 := q9; clear q9))
        go_ret
        exact ⟨rfl, HQV.out.trans Q5⟩
  · obtain ⟨N, hN⟩ : ∃ N : Nat, n = (N : Int) := ⟨n.toNat, by omega⟩
    subst hN
    have hN2 : N ≤ 40 := by omega
    go_wp2_with (first
      | (go_at_call 6; refine (begun_any _ hgw.out).mono ?_; rintro e9 V0 ⟨rfl, q9⟩; have HQ0 := hid q9; clear q9)
      | (go_at_call 14; refine (HCA.out V0 HQ0.out).mono ?_; intro e9 V1 hcp; obtain ⟨ys, lv, rfl, hys, hog, hyl, q9⟩ := hcp; have HYS := hid hys; have HOG := hid hog; have HQV : Hid (Q w V1) := hid (HQ0.out.trans q9); obtain ⟨ao1, cap1, hlv, hc1, hc2⟩ := hys.len; subst hlv; clear hys hog q9))
    have hys3 : ys.length ≤ 9223372036854775807 := by omega
    have HG : Hid (Gd V1) := hid (hgw.out.on HQV.out)
    obtain ⟨mb, HMB⟩ := mb_ex HOG.out
    have HMB := hid HMB
    clear HOG
    go_loopw [7, 8] (fun o s W => ∃ (i : Nat) (zs : List Rv), i ≤ N ∧ s = .int .i64 i ∧ zs.length = i ∧ Own Rv.L 35 23 V1.heap.size W o zs ∧ Hid (∀ z ∈ zs, z ∈ ys) ∧ Q V1 W) (fun _ s _ => N - (intOf s).toNat)
    case atStart => exact ⟨0, [], Nat.zero_le _, rfl, rfl, own_nil _, hid (fun y hy => absurd hy (by simp)), Q.refl _⟩
    case round =>
      obtain ⟨i, zs, hi, rfl, hzl, hown, hin, hq⟩ := hrel
      have HOW := hid hown
      have HQ := hid hq
      have HZL := hid hzl
      clear hown hq hzl
      by_cases hlt : i < N ∧ 0 < ys.length
      · obtain ⟨hl1, hl2⟩ := hlt
        have hlt' : (i : Int) < (N : Int) := by omega
        have hl2' : (0 : Int) < (ys.length : Int) := by omega
        have hnz : (ys.length : Int) ≠ 0 := by omega
        have hk : i % ys.length < ys.length := Nat.mod_lt _ hl2
        obtain ⟨k, hkk⟩ : ∃ k, i % ys.length = k := ⟨_, rfl⟩
        rw [hkk] at hk
        have hmod : Int.tmod (i : Int) (ys.length : Int) = (k : Int) := by rw [← Int.ofNat_tmod, hkk]
        have hk0 : (0 : Int) ≤ (k : Int) := by omega
        have hk1 : (k : Int) < (ys.length : Int) := by omega
        obtain ⟨g, off, cap', e, _, _, hcc⟩ := (HYS.out.on HQ.out).at hk
        simp only [Value.slice.injEq, true_and] at e
        obtain ⟨rfl, rfl⟩ := e
        have HRg : Hid (wr.rangeAt g (off + k * 23) (ys[k]).L) := hid (fun j u hu => hcc j u hu)
        have HIN : Hid (∀ z ∈ zs ++ [ys[k]], z ∈ ys) := hid (fun z hz => (List.mem_append.1 hz).elim (hin.out z) (fun h => by simp only [List.mem_cons, List.not_mem_nil, or_false] at h; subst h; exact List.getElem_mem hk))
        clear hcc hkk
        generalize ys[k] = y at HRg HIN
        go_wp2_with (first
          | (with_reducible refine wpl_loadm _ (by with_unfolding_all rfl) (by with_unfolding_all rfl) g (off + k * 23) y (by with_unfolding_all exact HRg.out) (by with_unfolding_all rfl) ?_)
          | (with_reducible refine wpl_bsl 1 _ (by with_unfolding_all rfl) (by with_unfolding_all rfl) [y] (by decide) (by kernel_rfl) ?_)
          | (at_builtin; refine wpList_append_lies (w := wr.alloc (.cells (flat Rv.L [y]).toArray 35)) rfl _ _ 42 rfl V1.heap.size 35 i0 (.agg zero23) 23 264 Tryz.underlying42 HI.out.1 HI.out.2.1 HI.out.2.2.1 HI.out.2.2.2 rfl (by decide) _ _ _ rfl (HOW.out.alloc _) _ 1 1 y.L rfl rfl ?c1 ?c2 (by decide) ?c3 ?c4 ?c5 (wr.heap.size + 1) ?c6 ?_))
        case c1 => rw [flat_y]; exact news_new wr y.L 35
        case c2 => exact y.ones
        case c3 => unfold maxLen; have := HZL.out; omega
        case c4 => have := HZL.out; omega
        case c5 => have := HQ.out.size; simp; omega
        case c6 => simp
        · intro g3 cap3 w3 hown3 hgrow _ _
          have HO3 := hid (own_snoc (enc := Rv.L) (x := y) hown3)
          have HQ3 : Hid (Q V1 w3) := hid (Below.grown (HQ.out.alloc _) hgrow (by have := HQ.out.size; simp; omega) (HOW.out.blk))
          clear hown3 hgrow HOW HQ HRg
          go_wp2_with fail
          go_roundw
          case rel => exact ⟨i + 1, zs ++ [y], by omega, by go_num, by have := HZL.out; simp; omega, HO3.out, HIN, HQ3.out⟩
          case measure => simp [intOf]; omega
      · have HM1 := hid (HOW.out.sl Rv.len (by decide))
        have HB1 := hid (fun V (q : Q V1 V) => batch_any _ ys mb V (HG.out.on q) (HYS.out.on q) (fun y hy => (HMB.out y hy).on q))
        have HB2 := hid (fun V (q : Q V1 V) => rbatch_any _ ys mb V (HYS.out.on q) (fun y hy => (HMB.out y hy).on q))
        have HB3 := hid (fun V (q : Q V1 V) (q2 : Q wr V) => batch_any _ zs mb V (HG.out.on q) (HM1.out.on q2) (fun y hy => (HMB.out y (hin.out y hy)).on q))
        have HB4 := hid (fun V (q : Q V1 V) (q2 : Q wr V) => rbatch_any _ zs mb V (HM1.out.on q2) (fun y hy => (HMB.out y (hin.out y hy)).on q))
        have HB5 := hid (fun V (q : Q V1 V) => edit_any 0 (.slice none 0 0) [] mb mb V (HG.out.on q) (sl_nil V) (fun x hx => absurd hx (by simp)))
        rw [show edB 0 [] mb mb = false from rfl] at HB5
        obtain ⟨ao3, cap3, hsl3, _, _⟩ := HM1.out.len
        subst hsl3
        generalize (decide (ys.length ≤ 32) && ys.all mb) = r1 at HB1 HB2
        generalize (decide (zs.length ≤ 32) && zs.all mb) = r2 at HB3 HB4
        have hr1 : (r1 == r1) = true := by simp
        have hr2 : (r2 == r2) = true := by simp
        by_cases hz : (i : Int) < (N : Int)
        · have hz2 : ¬ (0 : Int) < (ys.length : Int) := by omega
          go_wp2_with (first
            | (go_at_call 12; have hQ := Q4; refine (HB5.out _ Q4).mono ?_; rintro e9 y5 ⟨rfl, q9⟩; have Q5 : Q V1 y5 := Q4.trans q9; clear q9 hQ)
            | (go_at_call 16; have hQ := Q3; refine (HB4.out _ Q3 R3).mono ?_; rintro e9 y4 ⟨rfl, q9⟩; have Q4 : Q V1 y4 := Q3.trans q9; clear q9 hQ)
            | (go_at_call 15; have hQ := Q2; refine (HB3.out _ Q2 R2).mono ?_; rintro e9 y3 ⟨rfl, q9⟩; have Q3 : Q V1 y3 := Q2.trans q9; have R3 : Q wr y3 := R2.trans q9; clear q9 hQ)
            | (go_at_call 16; have hQ := Q1; refine (HB2.out _ Q1).mono ?_; rintro e9 y2 ⟨rfl, q9⟩; have Q2 : Q V1 y2 := Q1.trans q9; have R2 : Q wr y2 := R1.trans q9; clear q9 hQ)
            | (go_at_call 15; refine (HB1.out _ HQ.out).mono ?_; rintro e9 y1 ⟨rfl, q9⟩; have Q1 : Q V1 y1 := HQ.out.trans q9; have R1 : Q wr y1 := q9; clear q9))
          go_ret
          exact ⟨rfl, HQV.out.trans Q5⟩
        · go_wp2_with (first
            | (go_at_call 12; have hQ := Q4; refine (HB5.out _ Q4).mono ?_; rintro e9 y5 ⟨rfl, q9⟩; have Q5 : Q V1 y5 := Q4.trans q9; clear q9 hQ)
            | (go_at_call 16; have hQ := Q3; refine (HB4.out _ Q3 R3).mono ?_; rintro e9 y4 ⟨rfl, q9⟩; have Q4 : Q V1 y4 := Q3.trans q9; clear q9 hQ)
            | (go_at_call 15; have hQ := Q2; refine (HB3.out _ Q2 R2).mono ?_; rintro e9 y3 ⟨rfl, q9⟩; have Q3 : Q V1 y3 := Q2.trans q9; have R3 : Q wr y3 := R2.trans q9; clear q9 hQ)
            | (go_at_call 16; have hQ := Q1; refine (HB2.out _ Q1).mono ?_; rintro e9 y2 ⟨rfl, q9⟩; have Q2 : Q V1 y2 := Q1.trans q9; have R2 : Q wr y2 := R1.trans q9; clear q9 hQ)
            | (go_at_call 15; refine (HB1.out _ HQ.out).mono ?_; rintro e9 y1 ⟨rfl, q9⟩; have Q1 : Q V1 y1 := HQ.out.trans q9; have R1 : Q wr y1 := q9; clear q9))
          go_ret
          exact ⟨rfl, HQV.out.trans Q5⟩
end Go.Proofs.YtngnakdbhkjbjaaGreatDoor
