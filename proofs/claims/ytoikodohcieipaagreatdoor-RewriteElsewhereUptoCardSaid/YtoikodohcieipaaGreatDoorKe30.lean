/- counterpanelaw7.some, for ever. -/
import Derived.Test.YtoikodohcieipaaGreatDoorKe29
import Derived.Test.YtoikodohcieipaaGreatDoorKe28
import Derived.Test.YtoikodohcieipaaGreatDoorKe16
import Derived.Test.YtoikodohcieipaaGreatDoorKe13
import Derived.Test.YtoikodohcieipaaGreatDoorKe07
import Derived.Test.YtoikodohcieipaaGreatDoorKe17
import Derived.Test.YtoikodohcieipaaGreatDoorKe04
set_option linter.unusedVariables false
set_option linter.unusedSimpArgs false
set_option maxRecDepth 100000
set_option maxHeartbeats 8000000
namespace Go.Proofs.YtoikodohcieipaaGreatDoor
open Go.RowKit
theorem some_all (W0 : World) (p : Nat) (hp0 : W0.heap.size ≤ p) : ∀ (s : Nat) (x : Ex) (v : Value) (W : World) (d l : Nat), SizeOf.sizeOf x ≤ s → RdI W0 x v → Q W0 W → p < W.heap.size → W.cell? ⟨p, 0, none⟩ = some (.int .i64 (l : Int)) → W.frozen? ⟨p, 0, none⟩ = false → 1 ≤ l → l ≤ 220 → d ≤ 60 → Calls Tryz.prog 22 #[v, .int .i64 (d : Int), .pointer (some ⟨p, 0, none⟩)] W fun e W' => RepS W0 p W (cutE x d l) e W' := by
  intro s
  induction s with
  | zero =>
    intro x v W d l hs
    cases x with
    | mk k n t b e rs ks => simp at hs
  | succ s ih =>
    intro x v W d l hs hr hq hp hc hf h1 h2 hd
    cases x with
    | mk k n t b e rs ks =>
      unfold RdI at hr
      obtain ⟨rv', kv, hv, hsl, ao, cap, hk, hle, hmx, hkd⟩ := hr
      obtain ⟨a1, c1, hrv, hl⟩ := hsl
      have hsl' : Sl rf 5 W0 (.slice a1 rs.length c1) rs := ⟨a1, c1, rfl, hl⟩
      subst hk hrv hv
      have hstep := some_step W0 p k n ⟨t.toArray⟩ b e rs ks a1 c1 ao cap W d l (hid hsl') (hid ⟨hle, hmx⟩) (hid hkd) (hid hq) hp0 hp hc hf h1 h2 hd
        (hid (fun i hi v W d l hr hq hp hc hf h1 h2 hd => ih ks[i] v W d l (by have := kid_size (k := k) (n := n) (t := t) (b := b) (e := e) (rs := rs) i hi; omega) hr hq hp hc hf h1 h2 hd))
      exact hstep
set_option maxHeartbeats 4000000 in
theorem cutx_any (x : Ex) (v : Value) (W0 W : World) (hr : RdI W0 x v) (hq0 : Q W0 W) : Calls Tryz.prog 9 #[v] W fun e W' => ∃ v', e = .returned v' ∧ Rdg (fun b => b < W0.heap.size ∨ W.heap.size ≤ b) W' (cutE x 1 220).1 v' ∧ Q W W' := by
  have hw0 := hq0.size
  have HS := hid (fun p (hp : W0.heap.size ≤ p) V (q : Q W0 V) (hpv : p < V.heap.size) (hc : V.cell? ⟨p, 0, none⟩ = some (.int .i64 ((220 : Nat) : Int))) (hf : V.frozen? ⟨p, 0, none⟩ = false) => some_all W0 p hp (SizeOf.sizeOf x) x v V 1 220 (Nat.le_refl _) hr q hpv hc hf (by omega) (by omega) (by omega))
  obtain ⟨k, n, t, b, e, a1, l1, c1, a2, l2, c2, rfl⟩ := hr.shape
  clear hr
  have t2 := tb_new (W.alloc (.cells #[.int .i64 k, .int .i64 n, .string t, .bool b, .int .i64 e, .slice a1 l1 c1, .slice a2 l2 c2] 26)) (.int .i64 0) (.int .i64 0) (.string ⟨#[]⟩) (.bool false) (.int .i64 0) (.slice none 0 0) (.slice none 0 0) 26
  rw [show (W.alloc (.cells #[.int .i64 k, .int .i64 n, .string t, .bool b, .int .i64 e, .slice a1 l1 c1, .slice a2 l2 c2] 26)).heap.size = W.heap.size + 1 by simp] at t2
  have T2 := hid (t2.on (p := W.heap.size) ((Qx.refl _ _).alloc (.cells #[.int .i64 220] 3)) (by omega))
  clear t2
  have hsz : (((W.alloc (.cells #[.int .i64 k, .int .i64 n, .string t, .bool b, .int .i64 e, .slice a1 l1 c1, .slice a2 l2 c2] 26)).alloc (.cells #[.int .i64 0, .int .i64 0, .string ⟨#[]⟩, .bool false, .int .i64 0, .slice none 0 0, .slice none 0 0] 26)).alloc (.cells #[.int .i64 220] 3)).heap.size = W.heap.size + 3 := by simp
  have HV := hid (HS.out (W.heap.size + 1 + 1) (by omega) (((W.alloc (.cells #[.int .i64 k, .int .i64 n, .string t, .bool b, .int .i64 e, .slice a1 l1 c1, .slice a2 l2 c2] 26)).alloc (.cells #[.int .i64 0, .int .i64 0, .string ⟨#[]⟩, .bool false, .int .i64 0, .slice none 0 0, .slice none 0 0] 26)).alloc (.cells #[.int .i64 220] 3)) (((hq0.alloc _).alloc _).alloc _) (by rw [hsz]; omega) (by
    have h := (World.cell?_alloc_new ((W.alloc (.cells #[.int .i64 k, .int .i64 n, .string t, .bool b, .int .i64 e, .slice a1 l1 c1, .slice a2 l2 c2] 26)).alloc (.cells #[.int .i64 0, .int .i64 0, .string ⟨#[]⟩, .bool false, .int .i64 0, .slice none 0 0, .slice none 0 0] 26)) #[.int .i64 220] 3 0)
    simp only [World.alloc, Array.size_push] at h ⊢
    simpa using h) (by
    have h := (World.frozen?_alloc_new ((W.alloc (.cells #[.int .i64 k, .int .i64 n, .string t, .bool b, .int .i64 e, .slice a1 l1 c1, .slice a2 l2 c2] 26)).alloc (.cells #[.int .i64 0, .int .i64 0, .string ⟨#[]⟩, .bool false, .int .i64 0, .slice none 0 0, .slice none 0 0] 26)) #[.int .i64 220] 3 0)
    simp only [World.alloc, Array.size_push] at h ⊢
    simpa using h))
  go_enter Tryz.func9, Tryz.ntmps9
  go_wp2_with (go_at_call 22; refine HV.out.mono ?_; rintro e8 w5 ⟨v8, rfl, hr8, q8, _, _⟩; obtain ⟨k8, m8, t8, bb8, er8, a18, l18, c18, a28, l28, c28, rfl⟩ := hr8.shape; have R8 := hid hr8; have Q8 := hid q8; have T8 := hid (T2.out.on q8 (by omega)); clear hr8 q8; obtain ⟨z0, z1, z2, z3, z4, z5, z6, zf⟩ := T8.out; have y0 := zf 0; have y1 := zf 1; have y2 := zf 2; have y3 := zf 3; have y4 := zf 4; have y5 := zf 5; have y6 := zf 6; clear zf)
  refine bodyPost_ret (v := .agg #[.int .i64 k8, .int .i64 m8, .string t8, .bool bb8, .int .i64 er8, .slice a18 l18 c18, .slice a28 l28 c28]) (by simp [results, Tryz.results9, go_sem, z0, z1, z2, z3, z4, z5, z6]) rfl ?_
  have QF : Qx (W.heap.size + 1) w5 (((((((w5.setCell ⟨W.heap.size + 1, 0, none⟩ (.int .i64 k8)).setCell ⟨W.heap.size + 1, 1, none⟩ (.int .i64 m8)).setCell ⟨W.heap.size + 1, 2, none⟩ (.string t8)).setCell ⟨W.heap.size + 1, 3, none⟩ (.bool bb8)).setCell ⟨W.heap.size + 1, 4, none⟩ (.int .i64 er8)).setCell ⟨W.heap.size + 1, 5, none⟩ (.slice a18 l18 c18)).setCell ⟨W.heap.size + 1, 6, none⟩ (.slice a28 l28 c28)) := (((((((Qx.refl _ _).own _ _).own _ _).own _ _).own _ _).own _ _).own _ _).own _ _
  have hq5 : Q W w5 := by
    have h := Q8.out
    refine ⟨h.os, h.tape, h.output, by have := h.size; omega, fun i hi => (h.block i (by omega) (fun e => by have := Option.some.inj e; omega)).trans ?_⟩
    exact Q.block ((((Q.refl W).alloc _).alloc _).alloc _) hi
  refine ⟨_, rfl, Rdg.mono (fun b hb => by rw [hsz] at hb; omega) _ _ (Rdg.on QF (fun b hb => by rw [hsz] at hb; omega) _ _ R8.out), ?_⟩
  exact ⟨QF.os.trans hq5.os, QF.tape.trans hq5.tape, QF.output.trans hq5.output, Nat.le_trans hq5.size QF.size, fun i hi => (QF.block i (Nat.lt_of_lt_of_le hi hq5.size) (fun e => by have := Option.some.inj e; omega)).trans (Q.block hq5 hi)⟩
theorem cut_sm {B : Nat} (hB : B ≤ 2000000) : ∀ (x : Ex) (d l : Nat), Shs B x → Sm (cutE x d l).1
  | .mk k n t b e rs ks, d, l, h => by
    rw [Shs] at h
    rw [cutE, Sm]
    refine ⟨?_, fun r hr => Nat.le_trans (h.1 r (List.mem_of_mem_take hr)) hB, go hB ks d (l - 1) h.2⟩
    rw [List.length_take]
    omega
  where
  go {B : Nat} (hB : B ≤ 2000000) : ∀ (ks : List Ex) (d l : Nat), Shs.ShsL B ks → Sm.SmL (cutE.cutL ks d l).1
  | [], d, l, _ => by rw [cutE.cutL, Sm.SmL]; trivial
  | x :: xs, d, l, h => by
    rw [Shs.ShsL] at h
    rw [cutE.cutL]
    split
    · rw [Sm.SmL]
      exact ⟨cut_sm hB x (d + 1) l h.1, go hB xs d _ h.2⟩
    · rw [Sm.SmL]; trivial
theorem nodesL_len : ∀ (ks : List Ex), ks.length ≤ nodes.nodesL ks
  | [] => by simp
  | x :: xs => by
    rw [nodes.nodesL, List.length_cons]
    have h1 := nodesL_len xs
    have h2 := nodes_pos x
    omega
theorem nodesL_mem {y : Ex} : ∀ {ks : List Ex}, y ∈ ks → nodes y ≤ nodes.nodesL ks
  | [], h => absurd h (by simp)
  | x :: xs, h => by
    rw [nodes.nodesL]
    rcases List.mem_cons.1 h with rfl | h
    · omega
    · have := nodesL_mem h; omega
theorem sn_may : ∀ (s : Nat) (x : Ex), SizeOf.sizeOf x ≤ s → Sm x → mall mayN x = true → nodes x ≤ 1000 → Sn x ∧ (rfs x).length ≤ 2 * nodes x := by
  intro s
  induction s with
  | zero =>
    intro x hs
    cases x with
    | mk k n t b e rs ks => simp at hs
  | succ s ih =>
    intro x hs hm ha hn
    cases x with
    | mk k n t b e rs ks =>
      rw [mall, mallL_all] at ha
      obtain ⟨m1, m2⟩ := Bool.and_eq_true_iff.1 ha
      have hr := may_refs m1
      unfold Sm at hm
      rw [nodes] at hn ⊢
      have hk : ∀ y ∈ ks, Sn y ∧ (rfs y).length ≤ 2 * nodes y := fun y hy => by
        obtain ⟨i, hi, rfl⟩ := List.getElem_of_mem hy
        exact ih _ (by have := kid_size (k := k) (n := n) (t := t) (b := b) (e := e) (rs := rs) i hi; omega) (sm_kid hm.2.2 _ hy) (List.all_eq_true.1 m2 _ hy) (by have := nodesL_mem hy; omega)
      refine ⟨?_, ?_⟩
      · unfold Sn
        exact ⟨hm.1, by omega, hm.2.1, by have := nodesL_len ks; omega, snL_of (fun y hy => (hk y hy).1)⟩
      · have hl : ∀ (l : List Ex), (∀ y ∈ l, (rfs y).length ≤ 2 * nodes y) → (rfs.rfsL l).length ≤ 2 * nodes.nodesL l := by
          intro l
          induction l with
          | nil => intro _; simp [rfs.rfsL]
          | cons y ys ih2 =>
            intro h
            rw [rfs.rfsL, nodes.nodesL, List.length_append]
            have h1 := h y (List.mem_cons_self ..)
            have h2 := ih2 (fun z hz => h z (List.mem_cons_of_mem _ hz))
            omega
        have := hl ks (fun y hy => (hk y hy).2)
        rw [rfs, List.length_append]
        omega
theorem gx_of {x : Ex} (hm : Sm x) (h : (fitB x && mall mayN x) = true) : Gx x ∧ (rfs x).length ≤ 1000000 := by
  have h1 := Bool.and_eq_true_iff.1 h
  have h2 := h1.1
  unfold fitB at h2
  have h3 := of_decide_eq_true (Bool.and_eq_true_iff.1 h2).1
  have h4 := sn_may _ x (Nat.le_refl _) hm h1.2 (by omega)
  exact ⟨⟨h4.1, hm, h⟩, by omega⟩
structure Bk (W0 W : World) (x : Ex) (p : Nat) (v0 v1 v2 v3 v4 v5 v6 : Value) : Prop where
  q : Q W0 W
  nd : Nd W p 0 v0 v1 v2 v3 v4 v5 v6
  rd : Rd W x (.agg #[v0, v1, v2, v3, v4, v5, v6])
theorem bk_store {W0 w1 w2 : World} {x : Ex} {p : Nat} {c0 c1 c2 c3 c4 c5 c6 d0 d1 d2 d3 d4 d5 d6 : Value} (q1 : Q W0 w1) (q2 : Q w1 w2) (hp : W0.heap.size ≤ p) (hp2 : p < w1.heap.size) (hn : Nd w2 p 0 c0 c1 c2 c3 c4 c5 c6) (hr : Rdg (fun b => b < W0.heap.size ∨ w1.heap.size ≤ b) w2 x (.agg #[d0, d1, d2, d3, d4, d5, d6])) :
    Bk W0 (((((((w2.setCell ⟨p, 0, none⟩ d0).setCell ⟨p, 1, none⟩ d1).setCell ⟨p, 2, none⟩ d2).setCell ⟨p, 3, none⟩ d3).setCell ⟨p, 4, none⟩ d4).setCell ⟨p, 5, none⟩ d5).setCell ⟨p, 6, none⟩ d6) x p d0 d1 d2 d3 d4 d5 d6 := by
  have hn7 := hn.all7 d0 d1 d2 d3 d4 d5 d6
  simp only [Nat.zero_add] at hn7
  have QF : Qx p w2 (((((((w2.setCell ⟨p, 0, none⟩ d0).setCell ⟨p, 1, none⟩ d1).setCell ⟨p, 2, none⟩ d2).setCell ⟨p, 3, none⟩ d3).setCell ⟨p, 4, none⟩ d4).setCell ⟨p, 5, none⟩ d5).setCell ⟨p, 6, none⟩ d6) := (((((((Qx.refl _ _).own _ _).own _ _).own _ _).own _ _).own _ _).own _ _).own _ _
  have hq := q1.trans q2
  exact ⟨⟨QF.os.trans hq.os, QF.tape.trans hq.tape, QF.output.trans hq.output, Nat.le_trans hq.size QF.size, fun i hi => (QF.block i (Nat.lt_of_lt_of_le hi hq.size) (fun e => by have := Option.some.inj e; omega)).trans (Q.block hq hi)⟩, hn7, Rdg.rd _ _ (Rdg.on QF (fun b hb => by omega) _ _ hr)⟩
structure Bv (W0 W : World) (x : Ex) (p M : Nat) (v0 v1 v2 v3 v4 v5 v6 : Value) : Prop where
  q : Q W0 W
  nd : Nd W p 0 v0 v1 v2 v3 v4 v5 v6
  rd : Rdg (fun b => b < M) W x (.agg #[v0, v1, v2, v3, v4, v5, v6])
  mx : M ≤ W.heap.size
theorem Rdg.onq {g : Nat → Prop} {W W' : World} {x : Ex} {v : Value} {M : Nat} (h : Rdg (fun b => b < M) W x v) (q : Q W W') : Rdg (fun b => b < M) W' x v := Rdg.on (Qx.of (p := M) q) (fun b hb => by omega) _ _ h
theorem Bv.on {W0 W W' : World} {x : Ex} {p M : Nat} {v0 v1 v2 v3 v4 v5 v6 : Value} (h : Bv W0 W x p M v0 v1 v2 v3 v4 v5 v6) (q : Q W W') : Bv W0 W' x p M v0 v1 v2 v3 v4 v5 v6 := ⟨h.q.trans q, h.nd.on q, h.rd.onq (g := fun _ => True) q, Nat.le_trans h.mx q.size⟩
theorem Bv.tree {W0 W : World} {x : Ex} {p M : Nat} {v0 v1 v2 v3 v4 v5 v6 : Value} (h : Bv W0 W x p M v0 v1 v2 v3 v4 v5 v6) : Rd W x (.agg #[v0, v1, v2, v3, v4, v5, v6]) := Rdg.rd _ _ h.rd
structure T3 (W : World) (p : Nat) (a b c : Int) : Prop where
  g0 : W.cell? ⟨p, 0, none⟩ = some (.int .i64 a)
  g1 : W.cell? ⟨p, 1, none⟩ = some (.int .i64 b)
  g2 : W.cell? ⟨p, 2, none⟩ = some (.int .i64 c)
theorem T3.lt {W : World} {p : Nat} {a b c : Int} (h : T3 W p a b c) : p < W.heap.size := World.block_lt_of_cell? W ⟨p, 0, none⟩ h.g0
theorem T3.blk {W W' : World} {p : Nat} {a b c : Int} (h : T3 W p a b c) (e : W'.heap[p]? = W.heap[p]?) : T3 W' p a b c :=
  ⟨(World.cell?_of_block (a := ⟨p, 0, none⟩) e).trans h.g0, (World.cell?_of_block (a := ⟨p, 1, none⟩) e).trans h.g1, (World.cell?_of_block (a := ⟨p, 2, none⟩) e).trans h.g2⟩
theorem T3.on {W W' : World} {p : Nat} {a b c : Int} (h : T3 W p a b c) (q : Q W W') : T3 W' p a b c := h.blk (Q.block q h.lt)
theorem t3_new (W : World) (a b c : Int) (t : TypeId) : T3 (W.alloc (.cells #[.int .i64 a, .int .i64 b, .int .i64 c] t)) W.heap.size a b c := by
  refine ⟨?_, ?_, ?_⟩ <;> simp [World.cell?_alloc_new]
def set7 (w : World) (p : Nat) (d0 d1 d2 d3 d4 d5 d6 : Value) : World := (((((((w.setCell ⟨p, 0, none⟩ d0).setCell ⟨p, 1, none⟩ d1).setCell ⟨p, 2, none⟩ d2).setCell ⟨p, 3, none⟩ d3).setCell ⟨p, 4, none⟩ d4).setCell ⟨p, 5, none⟩ d5).setCell ⟨p, 6, none⟩ d6)
theorem set7_qx (w : World) (p : Nat) (d0 d1 d2 d3 d4 d5 d6 : Value) : Qx p w (set7 w p d0 d1 d2 d3 d4 d5 d6) := (((((((Qx.refl _ _).own _ _).own _ _).own _ _).own _ _).own _ _).own _ _).own _ _
theorem bv_store {W0 w1 w2 : World} {x : Ex} {p : Nat} {c0 c1 c2 c3 c4 c5 c6 d0 d1 d2 d3 d4 d5 d6 : Value} (q1 : Q W0 w1) (q2 : Q w1 w2) (hp : W0.heap.size ≤ p) (hp2 : p < w1.heap.size) (hn : Nd w2 p 0 c0 c1 c2 c3 c4 c5 c6) (hr : Rdg (fun b => b < W0.heap.size ∨ w1.heap.size ≤ b) w2 x (.agg #[d0, d1, d2, d3, d4, d5, d6])) :
    Bv W0 (set7 w2 p d0 d1 d2 d3 d4 d5 d6) x p w2.heap.size d0 d1 d2 d3 d4 d5 d6 := by
  have h := bk_store q1 q2 hp hp2 hn hr
  refine ⟨h.q, h.nd, Rdg.mono (fun b hb => hb.2) _ _ (Rdg.on (set7_qx w2 p d0 d1 d2 d3 d4 d5 d6) (fun b hb => ?_) _ _ (Rdg.in _ _ hr)), (set7_qx w2 p d0 d1 d2 d3 d4 d5 d6).size⟩
  omega
theorem bv_new {W0 w2 : World} {x : Ex} {lo hi : Nat} {d0 d1 d2 d3 d4 d5 d6 : Value} (q2 : Q W0 w2) (ho : Ow w2 x (.agg #[d0, d1, d2, d3, d4, d5, d6]) lo hi) (hh : hi ≤ w2.heap.size) :
    Bv W0 (w2.alloc (.cells #[d0, d1, d2, d3, d4, d5, d6] 26)) x w2.heap.size w2.heap.size d0 d1 d2 d3 d4 d5 d6 := by
  have h1 : Rdg (fun b => b < w2.heap.size) w2 x (.agg #[d0, d1, d2, d3, d4, d5, d6]) := Ow.rdg _ _ _ _ (fun i _ h => by omega) ho
  exact ⟨q2.alloc _, nd_new w2 d0 d1 d2 d3 d4 d5 d6 26, h1.onq (g := fun _ => True) ((Q.refl _).alloc _), by simp⟩
theorem cutL_nodes : ∀ (ks : List Ex) (d l : Nat), nodes.nodesL (cutE.cutL ks d l).1 + (cutE.cutL ks d l).2 = l
  | [], d, l => by rw [cutE.cutL]; simp [nodes.nodesL]
  | x :: xs, d, l => by
    rw [cutE.cutL]
    split
    · rename_i h
      have h1 := cut_nodes x (d + 1) l h.1
      have h2 := cutL_nodes xs d (cutE x (d + 1) l).2
      simp only [nodes.nodesL]
      omega
    · simp [nodes.nodesL]
theorem cut_sn {B : Nat} (hB : B ≤ 2000000) : ∀ (x : Ex) (d l : Nat), l ≤ 1000 → Shs B x → Sn (cutE x d l).1
  | .mk k n t b e rs ks, d, l, hl, h => by
    rw [Shs] at h
    rw [cutE, Sn]
    refine ⟨?_, ?_, fun r hr => Nat.le_trans (h.1 r (List.mem_of_mem_take hr)) hB, ?_, go hB ks d (l - 1) (by omega) h.2⟩
    · rw [List.length_take]; omega
    · rw [List.length_take]; omega
    · have h1 := nodesL_len (cutE.cutL ks d (l - 1)).1
      have h2 := cutL_nodes ks d (l - 1)
      omega
  where
  go {B : Nat} (hB : B ≤ 2000000) : ∀ (ks : List Ex) (d l : Nat), l ≤ 1000 → Shs.ShsL B ks → Sn.SnL (cutE.cutL ks d l).1
  | [], d, l, _, _ => by rw [cutE.cutL, Sn.SnL]; trivial
  | x :: xs, d, l, hl, h => by
    rw [Shs.ShsL] at h
    rw [cutE.cutL]
    split
    · rename_i hc
      rw [Sn.SnL]
      refine ⟨cut_sn hB x (d + 1) l hl h.1, go hB xs d _ ?_ h.2⟩
      have := cut_nodes x (d + 1) l hc.1
      omega
    · rw [Sn.SnL]; trivial
theorem cut_rfs : ∀ (x : Ex) (d l : Nat), (rfs (cutE x d l).1).length ≤ 4 * nodes (cutE x d l).1
  | .mk k n t b e rs ks, d, l => by
    rw [cutE, rfs, nodes, List.length_append, List.length_take]
    have := go ks d (l - 1)
    omega
  where
  go : ∀ (ks : List Ex) (d l : Nat), (rfs.rfsL (cutE.cutL ks d l).1).length ≤ 4 * nodes.nodesL (cutE.cutL ks d l).1
  | [], d, l => by rw [cutE.cutL, rfs.rfsL]; simp
  | x :: xs, d, l => by
    rw [cutE.cutL]
    split
    · rw [rfs.rfsL, nodes.nodesL, List.length_append]
      have h1 := cut_rfs x (d + 1) l
      have h2 := go xs d (cutE x (d + 1) l).2
      omega
    · rw [rfs.rfsL]; simp
theorem cut_220 (x : Ex) : nodes (cutE x 1 220).1 ≤ 220 := by
  have := cut_nodes x 1 220 (by omega)
  omega
theorem hit_else {hm on : List UInt8} (hne : hm ≠ on) : ∀ (rs : List Rf), (∀ r ∈ rs, r.1 ≠ on) → hit hm on rs = false
  | [], _ => rfl
  | r :: rs, h => by
    have h1 := h r (List.mem_cons_self ..)
    simp only [hit]
    refine decide_eq_false ?_
    unfold orT
    split
    · exact hne
    · exact h1
theorem chg_else {hm on : List UInt8} (mb : Rf → Bool) (mr : Rf → Rf) (hne : hm ≠ on) : ∀ (x : Ex), (∀ r ∈ rfs x, r.1 ≠ on) → chg hm on mb mr x = x
  | .mk k n t b e rs ks, h => by
    rw [rfs] at h
    have h1 := hit_else hne rs (fun r hr => h r (List.mem_append.2 (.inl hr)))
    rw [chg, h1, if_neg (by simp), if_neg (by simp), go mb mr hne ks (fun r hr => h r (List.mem_append.2 (.inr hr)))]
  where
  go {hm on : List UInt8} (mb : Rf → Bool) (mr : Rf → Rf) (hne : hm ≠ on) : ∀ (ks : List Ex), (∀ r ∈ rfs.rfsL ks, r.1 ≠ on) → chg.chgL hm on mb mr ks = ks
  | [], _ => by rw [chg.chgL]
  | x :: xs, h => by
    rw [rfs.rfsL] at h
    rw [chg.chgL, chg_else mb mr hne x (fun r hr => h r (List.mem_append.2 (.inl hr))), go mb mr hne xs (fun r hr => h r (List.mem_append.2 (.inr hr)))]
theorem else_begin (W : World) (k0 n0 : Int) (t0 : ByteArray) (b0 : Bool) (e0 : Int) (a1 : Option Addr) (l1 c1 : Nat) (a2 : Option Addr) (l2 c2 : Nat) (k a t : Int) :
    Nd ((W.alloc (.cells #[.int .i64 k0, .int .i64 n0, .string t0, .bool b0, .int .i64 e0, .slice a1 l1 c1, .slice a2 l2 c2] 26)).alloc (.cells #[.int .i64 k, .int .i64 a, .int .i64 t] 28)) W.heap.size 0 (.int .i64 k0) (.int .i64 n0) (.string t0) (.bool b0) (.int .i64 e0) (.slice a1 l1 c1) (.slice a2 l2 c2) ∧ T3 ((W.alloc (.cells #[.int .i64 k0, .int .i64 n0, .string t0, .bool b0, .int .i64 e0, .slice a1 l1 c1, .slice a2 l2 c2] 26)).alloc (.cells #[.int .i64 k, .int .i64 a, .int .i64 t] 28)) (W.heap.size + 1) k a t := by
  refine ⟨(nd_new W _ _ _ _ _ _ _ 26).on ((Q.refl _).alloc _), ?_⟩
  have h := t3_new (W.alloc (.cells #[.int .i64 k0, .int .i64 n0, .string t0, .bool b0, .int .i64 e0, .slice a1 l1 c1, .slice a2 l2 c2] 26)) k a t 28
  simpa using h
theorem else_lines {y : Ex} {W : World} (rows : Bool) (k a t : Int) (hg : Gd W) (hs : Sm y) (hn : Sn y) (hk : nodes y ≤ 220) :
    ∃ y1, ((∀ r ∈ rfs y, r.1 ≠ ([99, 57, 110, 57] : List UInt8)) → y1 = y) ∧ ∀ w v, Q W w → Rd w y v → Calls Tryz.prog 11 #[v, .string ⟨#[99, 48, 110, 48]⟩, .string ⟨#[99, 57, 110, 57]⟩, .bool rows, .agg #[.int .i64 k, .int .i64 a, .int .i64 t]] w fun e W' => ∃ v', e = .returned v' ∧ Q w W' ∧ ∃ lo hi, w.heap.size ≤ lo ∧ hi ≤ W'.heap.size ∧ Ow W' y1 v' lo hi := by
  cases hm : (fitB y && mall mayN y)
  · exact ⟨y, fun _ => rfl, fun w v q r => lines_no y v _ _ rows k a t w (hg.on q) r hn hs (by omega) hm⟩
  · have h2 := (gx_of hs hm).1
    refine ⟨_, fun h => ?_, fun w v q r => lines_any y v _ _ rows k a t w (hg.on q) r hn hs h2.nodes hm⟩
    unfold lnE
    split
    · exact chg_else _ _ (by decide) y h
    · rfl
theorem else_sheet {y : Ex} {W : World} (hg : Gd W) (hs : Sm y) (hn : Sn y) (hk : nodes y ≤ 220) :
    ∃ y1, ((∀ r ∈ rfs y, r.1 ≠ ([99, 57, 110, 57] : List UInt8)) → y1 = y) ∧ ∀ w v, Q W w → Rd w y v → Calls Tryz.prog 16 #[v, .string ⟨#[99, 48, 110, 48]⟩, .string ⟨#[99, 57, 110, 57]⟩] w fun e W' => ∃ v', e = .returned v' ∧ Q w W' ∧ ∃ lo hi, w.heap.size ≤ lo ∧ hi ≤ W'.heap.size ∧ Ow W' y1 v' lo hi := by
  cases hm : (fitB y && mall mayN y)
  · exact ⟨y, fun _ => rfl, fun w v q r => sheet_no y v _ _ w (hg.on q) r hn hs (by omega) hm⟩
  · exact ⟨_, fun h => chg_else _ _ (by decide) y h, fun w v q r => sheet_may y v _ _ w (hg.on q) r hn hs (by omega) hm (by decide)⟩
set_option maxHeartbeats 4000000 in
theorem else_any (x : Ex) (v : Value) (rows : Bool) (k a t : Int) (W : World) (hg : Gd W) (hr : RdI W x v) (hs : Sm (cutE x 1 220).1) (hn : Sn (cutE x 1 220).1) :
    Calls Tryz.prog 7 #[v, .bool rows, .agg #[.int .i64 k, .int .i64 a, .int .i64 t]] W fun e W' => e = .returned (.bool true) ∧ Q W W' := by
  have HBG := hid (fun w (q : Q W w) => begun_any w (hg.on q))
  have HCU := hid (fun w (q : Q W w) => cutx_any x v W w hr q)
  obtain ⟨k0, n0, t0, b0, e0, a1, l1, c1, a2, l2, c2, rfl⟩ := hr.shape
  have hk := cut_220 x
  have hrl := cut_rfs x 1 220
  obtain ⟨y, hy⟩ : ∃ y, (cutE x 1 220).1 = y := ⟨_, rfl⟩
  rw [hy] at HCU hs hn hk hrl
  obtain ⟨ya, HA, hla⟩ := else_lines rows k a t hg hs hn hk
  obtain ⟨yb, HB, hlb⟩ := else_sheet hg hs hn hk
  have HLI := hid hla
  have HSH := hid hlb
  have HYA := hid HA
  have HYB' := hid HB
  obtain ⟨HNB, HLA⟩ := else_begin W k0 n0 t0 b0 e0 a1 l1 c1 a2 l2 c2 k a t
  replace HNB := hid HNB
  replace HLA := hid HLA
  have HRL : Hid ((rfs y).length ≤ 1000000) := hid (by omega)
  have HRF := hid (fun w v (r : Rd w y v) => rrefs_any _ y v w (Nat.le_refl _) r HRL.out)
  have HEX := hid (fun w v v' (r : Rd w y v) (r' : Rd w y v') => eqexpr_any _ y y v v' w (Nat.le_refl _) r r')
  have HEQ := hid (fun w v v' (r : Rd w y v) (r' : Rd w y v') => eqexpr_any _ y y v v' w (Nat.le_refl _) r r')
  have hroom : (rfs y).length ≤ 9223372036854775807 := by have := HRL.out; omega
  clear hg hr hs hn hy hk hrl HA HB hla hlb
  go_enter Tryz.func7, Tryz.ntmps7
  go_wp2_with (first
    | (go_at_call 8; refine (HBG.out _ (((Q.refl _).alloc _).alloc _)).mono ?_; rintro e9 w1 ⟨rfl, q1⟩; have Q1 : Hid (Q W w1) := hid ((((Q.refl _).alloc _).alloc _).trans q1); have N1 := hid (HNB.out.on q1); have La1 := hid (HLA.out.on q1); clear q1; obtain ⟨y0, y1, y2, y3, y4, y5, y6, _⟩ := N1.out; simp only [Nat.zero_add] at y0 y1 y2 y3 y4 y5 y6)
    | (go_at_call 9; refine (HCU.out _ Q1.out).mono ?_; rintro e9 w2 ⟨v2, rfl, r2, q2⟩; obtain ⟨k2, n2, t2, b2, e2, a3, l3, c3, a4, l4, c4, rfl⟩ := r2.shape; have N2 := hid (N1.out.on q2); have E2 := hid (bv_store Q1.out q2 (Nat.le_refl _) N1.out.pl.lt N2.out r2); obtain ⟨x0, x1, x2⟩ := La1.out.on q2; have hl1 : W.heap.size + 1 < w2.heap.size := (La1.out.on q2).lt; clear r2 q2 y0 y1 y2 y3 y4 y5 y6; obtain ⟨y0, y1, y2, y3, y4, y5, y6, yp⟩ := N2.out; have f0 := yp.frozen 0; have f1 := yp.frozen 1; have f2 := yp.frozen 2; have f3 := yp.frozen 3; have f4 := yp.frozen 4; have f5 := yp.frozen 5; have f6 := yp.frozen 6; clear yp; simp only [Nat.zero_add] at y0 y1 y2 y3 y4 y5 y6)
    | (go_at_call 11; refine (HLI.out _ _ E2.out.q E2.out.tree).mono ?_; rintro e9 w5 ⟨v5, rfl, q5, lo5, hi5, h51, h52, ow5⟩; obtain ⟨k5, n5, t5, b5, e5, a5, l5, c5, a6, l6, c6, rfl⟩ := ow5.shape; have E5 := hid (E2.out.on q5); have X5 := hid (bv_new E5.out.q ow5 h52); clear q5 h51 h52 ow5 y0 y1 y2 y3 y4 y5 y6 f0 f1 f2 f3 f4 f5 f6 x0 x1 x2 hl1; obtain ⟨z0, z1, z2, z3, z4, z5, z6, zp⟩ := E5.out.nd; have zl := zp.lt; clear zp; simp only [Nat.zero_add] at z0 z1 z2 z3 z4 z5 z6)
    | (go_at_call 16; refine (HSH.out _ _ (E5.out.q.alloc _) (E5.out.on ((Q.refl _).alloc _)).tree).mono ?_; rintro e9 w6 ⟨v6, rfl, q6, lo6, hi6, h61, h62, ow6⟩; obtain ⟨k6, n6, t6, b6, e6, a7, l7, c7, a8, l8, c8, rfl⟩ := ow6.shape; have E6 := hid ((E5.out.on ((Q.refl _).alloc _)).on q6); have X6 := hid (X5.out.on q6); have Y6 := hid (bv_new E6.out.q ow6 h62); clear q6 h61 h62 ow6 z0 z1 z2 z3 z4 z5 z6 zl; obtain ⟨z0, z1, z2, z3, z4, z5, z6, zp⟩ := E6.out.nd; have zl := zp.lt; clear zp; simp only [Nat.zero_add] at z0 z1 z2 z3 z4 z5 z6)
    | (go_at_call 18; refine (HRF.out _ _ (E6.out.on ((Q.refl _).alloc _)).tree).mono ?_; rintro e9 w7 ⟨v7, rfl, o7, q7⟩; have E7 := hid ((E6.out.on ((Q.refl _).alloc _)).on q7); have X7 := hid ((X6.out.on ((Q.refl _).alloc _)).on q7); have Y7 := hid (Y6.out.on q7); have O7 := hid o7; obtain ⟨ao7, co7, hv7, hc7, hd7⟩ := (o7.sl rf_len (by omega)).len; subst hv7; clear o7 q7 z0 z1 z2 z3 z4 z5 z6 zl; obtain ⟨z0, z1, z2, z3, z4, z5, z6, zp⟩ := E7.out.nd; have zl := zp.lt; clear zp; simp only [Nat.zero_add] at z0 z1 z2 z3 z4 z5 z6; obtain ⟨p0, p1, p2, p3, p4, p5, p6, pp⟩ := X7.out.nd; have pl := pp.lt; clear pp; simp only [Nat.zero_add] at p0 p1 p2 p3 p4 p5 p6; obtain ⟨s0, s1, s2, s3, s4, s5, s6, sp⟩ := Y7.out.nd; have sl := sp.lt; clear sp; simp only [Nat.zero_add] at s0 s1 s2 s3 s4 s5 s6))
  go_loopw [11] (fun z W' => ∃ i : Nat, i ≤ (rfs y).length ∧ z = .int .i64 (i : Int) ∧ W' = w7 ∧ Hid (∀ r ∈ (rfs y).take i, r.1 ≠ ([99, 57, 110, 57] : List UInt8))) (fun z _ => (rfs y).length - (intOf z).toNat)
  case atStart => exact ⟨0, Nat.zero_le _, rfl, rfl, hid (fun r hr => absurd hr (by simp))⟩
  case round =>
    obtain ⟨i, hik, rfl, rfl, hA⟩ := hrel
    by_cases hlt : i < (rfs y).length
    · obtain ⟨g5, cg5, hvv, _⟩ := O7.out.shape (by omega)
      simp only [Value.slice.injEq] at hvv
      obtain ⟨rfl, _, rfl⟩ := hvv
      have hcl := O7.out.cell rf_len hlt
      have u1 := hcl 0 _ rfl
      simp only [Nat.add_zero, Nat.zero_add] at u1
      have HRR := hid (List.take_succ_eq_append_getElem hlt)
      obtain ⟨r1, hr1⟩ : ∃ r1, (rfs y)[i] = r1 := ⟨_, rfl⟩
      rw [hr1] at u1 HRR
      clear hcl hr1
      obtain ⟨T, hT⟩ : ∃ T, r1.1 = T := ⟨_, rfl⟩
      rw [hT] at u1
      have HT := hid hT
      clear hT
      by_cases hE : T = ([99, 57, 110, 57] : List UInt8)
      · subst hE
        go_wp2_with fail
        go_ret
        exact ⟨rfl, E7.out.q⟩
      · have hf : (T == ([99, 57, 110, 57] : List UInt8)) = false := by rw [beq_eq_false_iff_ne]; exact hE
        go_wp2_with fail
        go_roundw
        case rel => exact ⟨i + 1, by omega, by go_num, by first | rfl | trivial, hid (fun r hr => by
          rw [HRR.out] at hr
          rcases List.mem_append.1 hr with hr | hr
          · exact hA.out r hr
          · simp at hr; subst hr; rw [HT.out]; exact hE)⟩
        case measure => simp [intOf]; omega
    · have hall : ∀ r ∈ rfs y, r.1 ≠ ([99, 57, 110, 57] : List UInt8) := fun r hr => hA.out r (by rw [List.take_of_length_le (by omega)]; exact hr)
      have e1 := HYA.out hall
      have e2 := HYB'.out hall
      subst e1
      have HXR := hid X7.out.tree
      have HYB : Hid (Bv W wr ya w6.heap.size w6.heap.size (.int .i64 k6) (.int .i64 n6) (.string t6) (.bool b6) (.int .i64 e6) (.slice a7 l7 c7) (.slice a8 l8 c8)) := hid (by have h := Y7.out; rw [e2] at h; exact h)
      clear hA hall e2
      go_wp2_with (first
        | (go_at_call 13; refine (HEX.out _ _ _ HXR.out E7.out.tree).mono ?_; rintro e9 w8 ⟨⟨r8, rfl, h8⟩, q8⟩; obtain rfl : r8 = true := h8.2 (by trivial); have E8 := hid (E7.out.on q8); have Y8 := hid (HYB.out.on q8); clear q8 h8 HEX z0 z1 z2 z3 z4 z5 z6 zl p0 p1 p2 p3 p4 p5 p6 pl s0 s1 s2 s3 s4 s5 s6 sl; obtain ⟨z0, z1, z2, z3, z4, z5, z6, zp⟩ := E8.out.nd; have zl := zp.lt; clear zp; simp only [Nat.zero_add] at z0 z1 z2 z3 z4 z5 z6; obtain ⟨s0, s1, s2, s3, s4, s5, s6, sp⟩ := Y8.out.nd; have sl := sp.lt; clear sp; simp only [Nat.zero_add] at s0 s1 s2 s3 s4 s5 s6)
        | (go_at_call 13; refine (HEQ.out _ _ _ Y8.out.tree E8.out.tree).mono ?_; rintro e9 w9 ⟨⟨r9, rfl, h9⟩, q9⟩; obtain rfl : r9 = true := h9.2 (by trivial); have Q9 := hid (E8.out.q.trans q9); clear q9 h9))
      go_ret
      exact ⟨rfl, Q9.out⟩
end Go.Proofs.YtoikodohcieipaaGreatDoor
