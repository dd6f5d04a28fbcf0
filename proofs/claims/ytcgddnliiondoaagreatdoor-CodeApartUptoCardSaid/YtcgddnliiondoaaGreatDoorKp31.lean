/- counterpanelaw7.some, for every tree; Cut; counterpanelaw8.C. -/
import Derived.Test.YtcgddnliiondoaaGreatDoorKp30
import Derived.Test.YtcgddnliiondoaaGreatDoorKp26
import Derived.Test.YtcgddnliiondoaaGreatDoorKp14
import Derived.Test.YtcgddnliiondoaaGreatDoorKp27
import Derived.Test.YtcgddnliiondoaaGreatDoorKp17
import Derived.Deep.AppendLies
import Derived.Test.YtcgddnliiondoaaGreatDoorKp06
import Derived.Test.YtcgddnliiondoaaGreatDoorKp25
import Derived.Test.YtcgddnliiondoaaGreatDoorKp08
import Derived.Test.YtcgddnliiondoaaGreatDoorKp09
import Derived.Test.YtcgddnliiondoaaGreatDoorKp00
set_option linter.unusedVariables false
set_option linter.unusedSimpArgs false
set_option maxRecDepth 100000
set_option maxHeartbeats 8000000
namespace Go.Proofs.YtcgddnliiondoaaGreatDoor
open Go.RowKit
theorem some_all (W0 : World) (p : Nat) (hp0 : W0.heap.size ≤ p) : ∀ (s : Nat) (x : Ex) (v : Value) (W : World) (d l : Nat), SizeOf.sizeOf x ≤ s → RdI W0 x v → Q W0 W → p < W.heap.size → W.cell? ⟨p, 0, none⟩ = some (.int .i64 (l : Int)) → W.frozen? ⟨p, 0, none⟩ = false → 1 ≤ l → l ≤ 220 → d ≤ 60 → Calls Tryz.prog 48 #[v, .int .i64 (d : Int), .pointer (some ⟨p, 0, none⟩)] W fun e W' => RepS W0 p W (cutE x d l) e W' := by
  intro s
  induction s with
  | zero =>
    intro x v W d l hs
    cases x with
    | mk k n t b e rs ks => simp at hs
  | succ s ih =>
    intro x v W d l hs hr hq hp hc hf h1 h2 hd
    cases x with
    | mk k n t b e rs ks =>
      unfold RdI at hr
      obtain ⟨rv', kv, hv, hsl, ao, cap, hk, hle, hmx, hkd⟩ := hr
      obtain ⟨a1, c1, hrv, hl⟩ := hsl
      have hsl' : Sl rf 5 W0 (.slice a1 rs.length c1) rs := ⟨a1, c1, rfl, hl⟩
      subst hk hrv hv
      have hstep := some_step W0 p k n ⟨t.toArray⟩ b e rs ks a1 c1 ao cap W d l (hid hsl') (hid ⟨hle, hmx⟩) (hid hkd) (hid hq) hp0 hp hc hf h1 h2 hd
        (hid (fun i hi v W d l hr hq hp hc hf h1 h2 hd => ih ks[i] v W d l (by have := kid_size (k := k) (n := n) (t := t) (b := b) (e := e) (rs := rs) i hi; omega) hr hq hp hc hf h1 h2 hd))
      exact hstep
set_option maxHeartbeats 4000000 in
theorem cutx_any (x : Ex) (v : Value) (W0 W : World) (hr : RdI W0 x v) (hq0 : Q W0 W) : Calls Tryz.prog 27 #[v] W fun e W' => ∃ v', e = .returned v' ∧ Rdg (fun b => b < W0.heap.size ∨ W.heap.size ≤ b) W' (cutE x 1 220).1 v' ∧ Q W W' := by
  have hw0 := hq0.size
  have HS := hid (fun p (hp : W0.heap.size ≤ p) V (q : Q W0 V) (hpv : p < V.heap.size) (hc : V.cell? ⟨p, 0, none⟩ = some (.int .i64 ((220 : Nat) : Int))) (hf : V.frozen? ⟨p, 0, none⟩ = false) => some_all W0 p hp (SizeOf.sizeOf x) x v V 1 220 (Nat.le_refl _) hr q hpv hc hf (by omega) (by omega) (by omega))
  obtain ⟨k, n, t, b, e, a1, l1, c1, a2, l2, c2, rfl⟩ := hr.shape
  clear hr
  have t2 := tb_new (W.alloc (.cells #[.int .i64 k, .int .i64 n, .string t, .bool b, .int .i64 e, .slice a1 l1 c1, .slice a2 l2 c2] 40)) (.int .i64 0) (.int .i64 0) (.string ⟨#[]⟩) (.bool false) (.int .i64 0) (.slice none 0 0) (.slice none 0 0) 40
  rw [show (W.alloc (.cells #[.int .i64 k, .int .i64 n, .string t, .bool b, .int .i64 e, .slice a1 l1 c1, .slice a2 l2 c2] 40)).heap.size = W.heap.size + 1 by simp] at t2
  have T2 := hid (t2.on (p := W.heap.size) ((Qx.refl _ _).alloc (.cells #[.int .i64 220] 3)) (by omega))
  clear t2
  have hsz : (((W.alloc (.cells #[.int .i64 k, .int .i64 n, .string t, .bool b, .int .i64 e, .slice a1 l1 c1, .slice a2 l2 c2] 40)).alloc (.cells #[.int .i64 0, .int .i64 0, .string ⟨#[]⟩, .bool false, .int .i64 0, .slice none 0 0, .slice none 0 0] 40)).alloc (.cells #[.int .i64 220] 3)).heap.size = W.heap.size + 3 := by simp
  have HV := hid (HS.out (W.heap.size + 1 + 1) (by omega) (((W.alloc (.cells #[.int .i64 k, .int .i64 n, .string t, .bool b, .int .i64 e, .slice a1 l1 c1, .slice a2 l2 c2] 40)).alloc (.cells #[.int .i64 0, .int .i64 0, .string ⟨#[]⟩, .bool false, .int .i64 0, .slice none 0 0, .slice none 0 0] 40)).alloc (.cells #[.int .i64 220] 3)) (((hq0.alloc _).alloc _).alloc _) (by rw [hsz]; omega) (by
    have h := (World.cell?_alloc_new ((W.alloc (.cells #[.int .i64 k, .int .i64 n, .string t, .bool b, .int .i64 e, .slice a1 l1 c1, .slice a2 l2 c2] 40)).alloc (.cells #[.int .i64 0, .int .i64 0, .string ⟨#[]⟩, .bool false, .int .i64 0, .slice none 0 0, .slice none 0 0] 40)) #[.int .i64 220] 3 0)
    simp only [World.alloc, Array.size_push] at h ⊢
    simpa using h) (by
    have h := (World.frozen?_alloc_new ((W.alloc (.cells #[.int .i64 k, .int .i64 n, .string t, .bool b, .int .i64 e, .slice a1 l1 c1, .slice a2 l2 c2] 40)).alloc (.cells #[.int .i64 0, .int .i64 0, .string ⟨#[]⟩, .bool false, .int .i64 0, .slice none 0 0, .slice none 0 0] 40)) #[.int .i64 220] 3 0)
    simp only [World.alloc, Array.size_push] at h ⊢
    simpa using h))
  go_enter Tryz.func27, Tryz.ntmps27
  go_wp2_with (go_at_call 48; refine HV.out.mono ?_; rintro e8 w5 ⟨v8, rfl, hr8, q8, _, _⟩; obtain ⟨k8, m8, t8, bb8, er8, a18, l18, c18, a28, l28, c28, rfl⟩ := hr8.shape; have R8 := hid hr8; have Q8 := hid q8; have T8 := hid (T2.out.on q8 (by omega)); clear hr8 q8; obtain ⟨z0, z1, z2, z3, z4, z5, z6, zf⟩ := T8.out; have y0 := zf 0; have y1 := zf 1; have y2 := zf 2; have y3 := zf 3; have y4 := zf 4; have y5 := zf 5; have y6 := zf 6; clear zf)
  refine bodyPost_ret (v := .agg #[.int .i64 k8, .int .i64 m8, .string t8, .bool bb8, .int .i64 er8, .slice a18 l18 c18, .slice a28 l28 c28]) (by simp [results, Tryz.results27, go_sem, z0, z1, z2, z3, z4, z5, z6]) rfl ?_
  have QF : Qx (W.heap.size + 1) w5 (((((((w5.setCell ⟨W.heap.size + 1, 0, none⟩ (.int .i64 k8)).setCell ⟨W.heap.size + 1, 1, none⟩ (.int .i64 m8)).setCell ⟨W.heap.size + 1, 2, none⟩ (.string t8)).setCell ⟨W.heap.size + 1, 3, none⟩ (.bool bb8)).setCell ⟨W.heap.size + 1, 4, none⟩ (.int .i64 er8)).setCell ⟨W.heap.size + 1, 5, none⟩ (.slice a18 l18 c18)).setCell ⟨W.heap.size + 1, 6, none⟩ (.slice a28 l28 c28)) := (((((((Qx.refl _ _).own _ _).own _ _).own _ _).own _ _).own _ _).own _ _).own _ _
  have hq5 : Q W w5 := by
    have h := Q8.out
    refine ⟨h.os, h.tape, h.output, by have := h.size; omega, fun i hi => (h.block i (by omega) (fun e => by have := Option.some.inj e; omega)).trans ?_⟩
    exact Q.block ((((Q.refl W).alloc _).alloc _).alloc _) hi
  refine ⟨_, rfl, Rdg.mono (fun b hb => by rw [hsz] at hb; omega) _ _ (Rdg.on QF (fun b hb => by rw [hsz] at hb; omega) _ _ R8.out), ?_⟩
  exact ⟨QF.os.trans hq5.os, QF.tape.trans hq5.tape, QF.output.trans hq5.output, Nat.le_trans hq5.size QF.size, fun i hi => (QF.block i (Nat.lt_of_lt_of_le hi hq5.size) (fun e => by have := Option.some.inj e; omega)).trans (Q.block hq5 hi)⟩
theorem Cb.put1 {W : World} {q : Nat} {cs : List Value} (h : Cb W q cs) (j : Nat) (hj : j < cs.length) (d : Value) : Cb (W.setCell ⟨q, j, none⟩ d) q (cs.set j d) := by
  refine ⟨fun i u hu => ?_, fun i => ?_, by simpa [World.setCell] using h.l⟩
  · by_cases e : i = j
    · subst e
      rw [List.getElem?_set_self hj] at hu
      cases hu
      exact World.cell?_setCell_same _ _ _ (h.c i _ (List.getElem?_eq_getElem hj))
    · rw [List.getElem?_set_ne (fun x => e x.symm)] at hu
      rw [World.cell?_setCell_other _ _ _ _ (by simp; try omega)]
      exact h.c i u hu
  · simp only [World.frozen?_setCell]
    exact h.f i
theorem Cb.onx {p : Nat} {W W' : World} {q : Nat} {cs : List Value} (h : Cb W q cs) (x : Qx p W W') (hq : q ≠ p) : Cb W' q cs :=
  ⟨fun j u hu => (x.cell h.l hq).trans (h.c j u hu), fun j => (World.frozen?_of_block (x.block q h.l (fun e => hq (Option.some.inj e)))).trans (h.f j), Nat.lt_of_lt_of_le h.l x.size⟩
theorem Q.viaq {p : Nat} {a b c : World} (h : Q a b) (k : Qx p b c) (hp : a.heap.size ≤ p) : Q a c :=
  ⟨k.os.trans h.os, k.tape.trans h.tape, k.output.trans h.output, Nat.le_trans h.size k.size, fun i hi => (k.block i (Nat.lt_of_lt_of_le hi h.size) (fun e => by have := Option.some.inj e; omega)).trans (Q.block h hi)⟩
set_option maxHeartbeats 8000000 in
theorem cutc_any (f : Bool) (vk vn : Int) (vt : ByteArray) (vb : Bool) (ve : Int) (k m : Int) (t : ByteArray) (bb : Bool) (er : Int) (a1 : Option Addr) (l1 c1 : Nat) (a2 : Option Addr) (l2 c2 : Nat) (X : Ex) (W0 W : World) (hr : RdI W0 X (.agg #[.int .i64 k, .int .i64 m, .string t, .bool bb, .int .i64 er, .slice a1 l1 c1, .slice a2 l2 c2])) (hq0 : Q W0 W) : Calls Tryz.prog 14 #[.agg #[.bool f, .int .i64 vk, .int .i64 vn, .string vt, .bool vb, .int .i64 ve, .int .i64 k, .int .i64 m, .string t, .bool bb, .int .i64 er, .slice a1 l1 c1, .slice a2 l2 c2]] W fun e W' => ∃ (k8 m8 : Int) (t8 : ByteArray) (bb8 : Bool) (er8 : Int) (a18 : Option Addr) (l18 c18 : Nat) (a28 : Option Addr) (l28 c28 : Nat), e = .returned (.agg #[.bool f, .int .i64 vk, .int .i64 vn, .string (cuT vt), .bool vb, .int .i64 ve, .int .i64 k8, .int .i64 m8, .string t8, .bool bb8, .int .i64 er8, .slice a18 l18 c18, .slice a28 l28 c28]) ∧ Rdg (fun b => b < W0.heap.size ∨ W.heap.size ≤ b) W' (cutE X 1 220).1 (.agg #[.int .i64 k8, .int .i64 m8, .string t8, .bool bb8, .int .i64 er8, .slice a18 l18 c18, .slice a28 l28 c28]) ∧ Q W W' := by
  have hw0 := hq0.size
  have HC := hid (fun V (q : Q W0 V) => cutx_any X _ W0 V hr q)
  have HV := hid (fun V => cut2_any vk vn vt vb ve V)
  unfold vx at HV
  have HQ0 := hid hq0
  generalize (cutE X 1 220).1 = Y at HC ⊢
  clear hr hq0
  go_enter Tryz.func14, Tryz.ntmps14
  go_upto_region 1 with fail
  have Z0 := hid ((cb_new W [.bool f, .int .i64 vk, .int .i64 vn, .string vt, .bool vb, .int .i64 ve, .int .i64 k, .int .i64 m, .string t, .bool bb, .int .i64 er, .slice a1 l1 c1, .slice a2 l2 c2] 42).on ((Q.refl _).alloc (.cells #[.bool false, .int .i64 0, .int .i64 0, .string ⟨#[]⟩, .bool false, .int .i64 0, .int .i64 0, .int .i64 0, .string ⟨#[]⟩, .bool false, .int .i64 0, .slice none 0 0, .slice none 0 0] 42)))
  have R0 := hid (cb_new (W.alloc (.cells #[.bool f, .int .i64 vk, .int .i64 vn, .string vt, .bool vb, .int .i64 ve, .int .i64 k, .int .i64 m, .string t, .bool bb, .int .i64 er, .slice a1 l1 c1, .slice a2 l2 c2] 42)) [.bool false, .int .i64 0, .int .i64 0, .string ⟨#[]⟩, .bool false, .int .i64 0, .int .i64 0, .int .i64 0, .string ⟨#[]⟩, .bool false, .int .i64 0, .slice none 0 0, .slice none 0 0] 42)
  have Q0 : Hid (Q W ((W.alloc (.cells #[.bool f, .int .i64 vk, .int .i64 vn, .string vt, .bool vb, .int .i64 ve, .int .i64 k, .int .i64 m, .string t, .bool bb, .int .i64 er, .slice a1 l1 c1, .slice a2 l2 c2] 42)).alloc (.cells #[.bool false, .int .i64 0, .int .i64 0, .string ⟨#[]⟩, .bool false, .int .i64 0, .int .i64 0, .int .i64 0, .string ⟨#[]⟩, .bool false, .int .i64 0, .slice none 0 0, .slice none 0 0] 42))) := hid (((Q.refl W).alloc _).alloc _)
  have hz0 : ((W.alloc (.cells #[.bool f, .int .i64 vk, .int .i64 vn, .string vt, .bool vb, .int .i64 ve, .int .i64 k, .int .i64 m, .string t, .bool bb, .int .i64 er, .slice a1 l1 c1, .slice a2 l2 c2] 42)).alloc (.cells #[.bool false, .int .i64 0, .int .i64 0, .string ⟨#[]⟩, .bool false, .int .i64 0, .int .i64 0, .int .i64 0, .string ⟨#[]⟩, .bool false, .int .i64 0, .slice none 0 0, .slice none 0 0] 42)).heap.size = W.heap.size + 2 := by simp
  rw [show ([.bool f, .int .i64 vk, .int .i64 vn, .string vt, .bool vb, .int .i64 ve, .int .i64 k, .int .i64 m, .string t, .bool bb, .int .i64 er, .slice a1 l1 c1, .slice a2 l2 c2] : List Value).toArray = #[.bool f, .int .i64 vk, .int .i64 vn, .string vt, .bool vb, .int .i64 ve, .int .i64 k, .int .i64 m, .string t, .bool bb, .int .i64 er, .slice a1 l1 c1, .slice a2 l2 c2] from rfl] at Z0
  rw [show ([.bool false, .int .i64 0, .int .i64 0, .string ⟨#[]⟩, .bool false, .int .i64 0, .int .i64 0, .int .i64 0, .string ⟨#[]⟩, .bool false, .int .i64 0, .slice none 0 0, .slice none 0 0] : List Value).toArray = #[.bool false, .int .i64 0, .int .i64 0, .string ⟨#[]⟩, .bool false, .int .i64 0, .int .i64 0, .int .i64 0, .string ⟨#[]⟩, .bool false, .int .i64 0, .slice none 0 0, .slice none 0 0] from rfl, show (W.alloc (.cells #[.bool f, .int .i64 vk, .int .i64 vn, .string vt, .bool vb, .int .i64 ve, .int .i64 k, .int .i64 m, .string t, .bool bb, .int .i64 er, .slice a1 l1 c1, .slice a2 l2 c2] 42)).heap.size = W.heap.size + 1 by simp] at R0
  generalize (W.alloc (.cells #[.bool f, .int .i64 vk, .int .i64 vn, .string vt, .bool vb, .int .i64 ve, .int .i64 k, .int .i64 m, .string t, .bool bb, .int .i64 er, .slice a1 l1 c1, .slice a2 l2 c2] 42)).alloc (.cells #[.bool false, .int .i64 0, .int .i64 0, .string ⟨#[]⟩, .bool false, .int .i64 0, .int .i64 0, .int .i64 0, .string ⟨#[]⟩, .bool false, .int .i64 0, .slice none 0 0, .slice none 0 0] 42) = V0 at Z0 R0 Q0 hz0 ⊢
  have d0 := Z0.out.c 0 _ rfl; have d1 := Z0.out.c 1 _ rfl; have d2 := Z0.out.c 2 _ rfl; have d3 := Z0.out.c 3 _ rfl; have d4 := Z0.out.c 4 _ rfl; have d5 := Z0.out.c 5 _ rfl; have d6 := Z0.out.c 6 _ rfl; have d7 := Z0.out.c 7 _ rfl; have d8 := Z0.out.c 8 _ rfl; have d9 := Z0.out.c 9 _ rfl; have d10 := Z0.out.c 10 _ rfl; have d11 := Z0.out.c 11 _ rfl; have d12 := Z0.out.c 12 _ rfl
  go_upto_region 2 with (go_at_call 26; refine (HV.out _).mono ?_; rintro e8 w1 ⟨rfl, q1⟩; have Z1 := hid (Z0.out.on q1); have R1 := hid (R0.out.on q1); have Q1 := hid (Q0.out.trans q1); have hz1 : W.heap.size + 2 ≤ w1.heap.size := (by have := q1.size; omega); clear q1; have p0 := Z1.out.c 0 _ rfl; have p1 := Z1.out.c 1 _ rfl; have p2 := Z1.out.c 2 _ rfl; have p3 := Z1.out.c 3 _ rfl; have p4 := Z1.out.c 4 _ rfl; have p5 := Z1.out.c 5 _ rfl; have p6 := Z1.out.c 6 _ rfl; have p7 := Z1.out.c 7 _ rfl; have p8 := Z1.out.c 8 _ rfl; have p9 := Z1.out.c 9 _ rfl; have p10 := Z1.out.c 10 _ rfl; have p11 := Z1.out.c 11 _ rfl; have p12 := Z1.out.c 12 _ rfl; have pf1 := Z1.out.f 1; have pf2 := Z1.out.f 2; have pf3 := Z1.out.f 3; have pf4 := Z1.out.f 4; have pf5 := Z1.out.f 5)
  obtain ⟨V1, hV1⟩ : ∃ V1, V1 = (((((w1.setCell ⟨W.heap.size, 1, none⟩ (.int .i64 vk)).setCell ⟨W.heap.size, 2, none⟩ (.int .i64 vn)).setCell ⟨W.heap.size, 3, none⟩ (.string (cuT vt))).setCell ⟨W.heap.size, 4, none⟩ (.bool vb)).setCell ⟨W.heap.size, 5, none⟩ (.int .i64 ve)) := ⟨_, rfl⟩
  have X1 : Qx W.heap.size w1 V1 := by rw [hV1]; exact ((((((Qx.refl _ _).own _ _).own _ _).own _ _).own _ _).own _ _)
  have Z2 : Hid (Cb V1 W.heap.size [.bool f, .int .i64 vk, .int .i64 vn, .string (cuT vt), .bool vb, .int .i64 ve, .int .i64 k, .int .i64 m, .string t, .bool bb, .int .i64 er, .slice a1 l1 c1, .slice a2 l2 c2]) := hid (by rw [hV1]; exact (((((Z1.out.put1 1 (by simp) (.int .i64 vk)).put1 2 (by simp) (.int .i64 vn)).put1 3 (by simp) (.string (cuT vt))).put1 4 (by simp) (.bool vb)).put1 5 (by simp) (.int .i64 ve)))
  have R2 := hid (R1.out.onx X1 (by omega))
  have Q2 := hid (Q1.out.viaq X1 (Nat.le_refl _))
  have hz2 : W.heap.size + 2 ≤ V1.heap.size := Nat.le_trans hz1 X1.size
  rw [← hV1]
  clear hV1 X1 Z0 R0 Q0 hz0 Z1 R1 Q1 hz1 d0 d1 d2 d3 d4 d5 d6 d7 d8 d9 d10 d11 d12 p0 p1 p2 p3 p4 p5 p6 p7 p8 p9 p10 p11 p12 pf1 pf2 pf3 pf4 pf5
  have HC1 := hid (HC.out V1 (HQ0.out.trans Q2.out))
  have d0 := Z2.out.c 0 _ rfl; have d1 := Z2.out.c 1 _ rfl; have d2 := Z2.out.c 2 _ rfl; have d3 := Z2.out.c 3 _ rfl; have d4 := Z2.out.c 4 _ rfl; have d5 := Z2.out.c 5 _ rfl; have d6 := Z2.out.c 6 _ rfl; have d7 := Z2.out.c 7 _ rfl; have d8 := Z2.out.c 8 _ rfl; have d9 := Z2.out.c 9 _ rfl; have d10 := Z2.out.c 10 _ rfl; have d11 := Z2.out.c 11 _ rfl; have d12 := Z2.out.c 12 _ rfl
  go_upto_region 3 with (go_at_call 27; refine HC1.out.mono ?_; rintro e8 w2 ⟨vA, rfl, hrA, q2⟩; obtain ⟨k8, m8, t8, bb8, er8, a18, l18, c18, a28, l28, c28, rfl⟩ := hrA.shape; have RA := hid hrA; have Z3 := hid (Z2.out.on q2); have R3 := hid (R2.out.on q2); have Q3 := hid (Q2.out.trans q2); have hz3 : W.heap.size + 2 ≤ w2.heap.size := (by have := q2.size; omega); clear q2 hrA; have p0 := Z3.out.c 0 _ rfl; have p1 := Z3.out.c 1 _ rfl; have p2 := Z3.out.c 2 _ rfl; have p3 := Z3.out.c 3 _ rfl; have p4 := Z3.out.c 4 _ rfl; have p5 := Z3.out.c 5 _ rfl; have p6 := Z3.out.c 6 _ rfl; have p7 := Z3.out.c 7 _ rfl; have p8 := Z3.out.c 8 _ rfl; have p9 := Z3.out.c 9 _ rfl; have p10 := Z3.out.c 10 _ rfl; have p11 := Z3.out.c 11 _ rfl; have p12 := Z3.out.c 12 _ rfl; have pf6 := Z3.out.f 6; have pf7 := Z3.out.f 7; have pf8 := Z3.out.f 8; have pf9 := Z3.out.f 9; have pf10 := Z3.out.f 10; have pf11 := Z3.out.f 11; have pf12 := Z3.out.f 12)
  obtain ⟨V2, hV2⟩ : ∃ V2, V2 = (((((((w2.setCell ⟨W.heap.size, 6, none⟩ (.int .i64 k8)).setCell ⟨W.heap.size, 7, none⟩ (.int .i64 m8)).setCell ⟨W.heap.size, 8, none⟩ (.string t8)).setCell ⟨W.heap.size, 9, none⟩ (.bool bb8)).setCell ⟨W.heap.size, 10, none⟩ (.int .i64 er8)).setCell ⟨W.heap.size, 11, none⟩ (.slice a18 l18 c18)).setCell ⟨W.heap.size, 12, none⟩ (.slice a28 l28 c28)) := ⟨_, rfl⟩
  have X3 : Qx W.heap.size w2 V2 := by rw [hV2]; exact ((((((((Qx.refl _ _).own _ _).own _ _).own _ _).own _ _).own _ _).own _ _).own _ _)
  have Z4 : Hid (Cb V2 W.heap.size [.bool f, .int .i64 vk, .int .i64 vn, .string (cuT vt), .bool vb, .int .i64 ve, .int .i64 k8, .int .i64 m8, .string t8, .bool bb8, .int .i64 er8, .slice a18 l18 c18, .slice a28 l28 c28]) := hid (by rw [hV2]; exact (((((((Z3.out.put1 6 (by simp) (.int .i64 k8)).put1 7 (by simp) (.int .i64 m8)).put1 8 (by simp) (.string t8)).put1 9 (by simp) (.bool bb8)).put1 10 (by simp) (.int .i64 er8)).put1 11 (by simp) (.slice a18 l18 c18)).put1 12 (by simp) (.slice a28 l28 c28)))
  have R4 := hid (R3.out.onx X3 (by omega))
  have Q4 := hid (Q3.out.viaq X3 (Nat.le_refl _))
  have RB := hid (Rdg.on X3 (fun b hb => by omega) _ _ RA.out)
  rw [← hV2]
  clear hV2 X3 Z2 R2 Q2 Z3 R3 Q3 RA d0 d1 d2 d3 d4 d5 d6 d7 d8 d9 d10 d11 d12 p0 p1 p2 p3 p4 p5 p6 p7 p8 p9 p10 p11 p12 pf6 pf7 pf8 pf9 pf10 pf11 pf12
  have d0 := Z4.out.c 0 _ rfl; have d1 := Z4.out.c 1 _ rfl; have d2 := Z4.out.c 2 _ rfl; have d3 := Z4.out.c 3 _ rfl; have d4 := Z4.out.c 4 _ rfl; have d5 := Z4.out.c 5 _ rfl; have d6 := Z4.out.c 6 _ rfl; have d7 := Z4.out.c 7 _ rfl; have d8 := Z4.out.c 8 _ rfl; have d9 := Z4.out.c 9 _ rfl; have d10 := Z4.out.c 10 _ rfl; have d11 := Z4.out.c 11 _ rfl; have d12 := Z4.out.c 12 _ rfl; have r0 := R4.out.c 0 _ rfl; have r1 := R4.out.c 1 _ rfl; have r2 := R4.out.c 2 _ rfl; have r3 := R4.out.c 3 _ rfl; have r4 := R4.out.c 4 _ rfl; have r5 := R4.out.c 5 _ rfl; have r6 := R4.out.c 6 _ rfl; have r7 := R4.out.c 7 _ rfl; have r8 := R4.out.c 8 _ rfl; have r9 := R4.out.c 9 _ rfl; have r10 := R4.out.c 10 _ rfl; have r11 := R4.out.c 11 _ rfl; have r12 := R4.out.c 12 _ rfl; have rf0 := R4.out.f 0; have rf1 := R4.out.f 1; have rf2 := R4.out.f 2; have rf3 := R4.out.f 3; have rf4 := R4.out.f 4; have rf5 := R4.out.f 5; have rf6 := R4.out.f 6; have rf7 := R4.out.f 7; have rf8 := R4.out.f 8; have rf9 := R4.out.f 9; have rf10 := R4.out.f 10; have rf11 := R4.out.f 11; have rf12 := R4.out.f 12
  go_wp2_with fail
  refine bodyPost_ret (v := .agg #[.bool f, .int .i64 vk, .int .i64 vn, .string (cuT vt), .bool vb, .int .i64 ve, .int .i64 k8, .int .i64 m8, .string t8, .bool bb8, .int .i64 er8, .slice a18 l18 c18, .slice a28 l28 c28]) (by simp [results, Tryz.results14, go_sem, r0, r1, r2, r3, r4, r5, r6, r7, r8, r9, r10, r11, r12]) rfl ?_
  have X5 : Qx (W.heap.size + 1) V2 (((((((((((((V2.setCell ⟨W.heap.size + 1, 0, none⟩ (.bool f)).setCell ⟨W.heap.size + 1, 1, none⟩ (.int .i64 vk)).setCell ⟨W.heap.size + 1, 2, none⟩ (.int .i64 vn)).setCell ⟨W.heap.size + 1, 3, none⟩ (.string (cuT vt))).setCell ⟨W.heap.size + 1, 4, none⟩ (.bool vb)).setCell ⟨W.heap.size + 1, 5, none⟩ (.int .i64 ve)).setCell ⟨W.heap.size + 1, 6, none⟩ (.int .i64 k8)).setCell ⟨W.heap.size + 1, 7, none⟩ (.int .i64 m8)).setCell ⟨W.heap.size + 1, 8, none⟩ (.string t8)).setCell ⟨W.heap.size + 1, 9, none⟩ (.bool bb8)).setCell ⟨W.heap.size + 1, 10, none⟩ (.int .i64 er8)).setCell ⟨W.heap.size + 1, 11, none⟩ (.slice a18 l18 c18)).setCell ⟨W.heap.size + 1, 12, none⟩ (.slice a28 l28 c28)) := ((((((((((((((Qx.refl _ _).own _ _).own _ _).own _ _).own _ _).own _ _).own _ _).own _ _).own _ _).own _ _).own _ _).own _ _).own _ _).own _ _)
  exact ⟨k8, m8, t8, bb8, er8, a18, l18, c18, a28, l28, c28, rfl, Rdg.mono (fun b hb => by omega) _ _ (Rdg.on X5 (fun b hb => by omega) _ _ RB.out), Q4.out.viaq X5 (by omega)⟩
def S30 (s : ByteArray) : ByteArray := if (30 : Int) < (s.size : Int) then s.extract 0 (30 : Int).toNat else s
theorem S30_size (s : ByteArray) : (S30 s).size ≤ 30 := by
  unfold S30
  by_cases h : (30 : Int) < (s.size : Int)
  · rw [if_pos h]
    simp [ByteArray.size_extract]
    omega
  · rw [if_neg h]
    omega
theorem short30 (s : ByteArray) (w : World) : Calls Tryz.prog 36 #[.string s, .int .i64 30] w fun e w' => e = .returned (.string (S30 s)) ∧ w' = w := short_any s 30 w (by omega) (by omega)
def OpX (W0 : World) (P : Nat → Prop) (V : World) (y : Rv) (b : Bool) : Prop := ∃ X M mr, Rdg P V X (.agg #[.int .i64 y.tk, .int .i64 y.tm, .string y.tt, .bool y.tb, .int .i64 y.te, .slice y.a1 y.l1 y.c1, .slice y.a2 y.l2 y.c2]) ∧ R.Sl R.rc 4 W0 (.slice y.ra y.rl y.rc) M ∧ OK1 y X M ∧ MR M mr ∧ b = mayO y X M mr
theorem OpX.g {W0 : World} {P : Nat → Prop} {V : World} {y : Rv} {b : Bool} (h : OpX W0 P V y b) (q : Q W0 V) : OpG V y b := by
  obtain ⟨X, M, mr, h1, h2, h3, h4, h5⟩ := h
  exact ⟨X, M, mr, ⟨Rdg.rd _ _ h1, h2.on q⟩, h3, h4, h5⟩
def CutP (W0 W : World) (e : Ending) (V : World) : Prop := ∃ y b, e = .returned (.agg (Rv.L y).toArray) ∧ OpX W0 (fun n => n < W0.heap.size ∨ W.heap.size ≤ n) V y b ∧ Q W V
theorem cuT_sz (t : ByteArray) : (cuT t).size ≤ 250 := by
  unfold cuT
  by_cases h : 250 < t.size
  · rw [if_pos h]
    simp [ByteArray.size_extract]
    omega
  · rw [if_neg h]
    omega
theorem qx_setRow (V : World) (q : Nat) (cs : Array Value) : Qx q V (V.setRow q cs) := ⟨rfl, rfl, rfl, by simp [World.setRow], fun i hi hne => setRow_other V q i cs (fun e => hne (by rw [e]))⟩
theorem Qx.cells {p : Nat} {a : World} : ∀ (vs : List Value) (o : Nat) {w : World}, Qx p a w → Qx p a (w.setCells p o vs)
  | [], _, _, h => h
  | v :: r, o, w, h => Qx.cells r (o + 1) (h.own _ _)
set_option maxHeartbeats 8000000 in
theorem cutop_any (x : Rv) (X : Ex) (M : List R.Rg.Rc) (W0 W : World) (hr : RdI W0 X (.agg #[.int .i64 x.tk, .int .i64 x.tm, .string x.tt, .bool x.tb, .int .i64 x.te, .slice x.a1 x.l1 x.c1, .slice x.a2 x.l2 x.c2])) (hM : R.Sl R.rc 4 W0 (.slice x.ra x.rl x.rc) M) (hq0 : Q W0 W) (hS : Sm (cutE X 1 220).1) (hN : nodes (cutE X 1 220).1 ≤ 1000) (hRn : Rn (cutE X 1 220).1) (hVr : V.fitB x.vn = true) :
    Calls Tryz.prog 20 #[.agg x.L.toArray] W fun e V' => CutP W0 W e V' := by
  go_enter Tryz.func20, Tryz.ntmps20
  go_upto_region 1 with fail
  have Z1 := hid ((cq_new W x.L).on ((Q.refl _).alloc (.cells zero23 54)))
  have Z2 : Hid (Cq ((W.alloc (.cells x.L.toArray 54)).alloc (.cells zero23 54)) (W.heap.size + 1) zero23.toList) := hid (by have h := cq_new (W.alloc (.cells x.L.toArray 54)) zero23.toList; rw [show (W.alloc (.cells x.L.toArray 54)).heap.size = W.heap.size + 1 by simp] at h; exact h)
  have QA : Hid (Q W ((W.alloc (.cells x.L.toArray 54)).alloc (.cells zero23 54))) := hid (((Q.refl W).alloc _).alloc _)
  have hne : W.heap.size ≠ W.heap.size + 1 := by omega
  have hp : W.heap.size ≤ W.heap.size := Nat.le_refl _
  have hq : W.heap.size ≤ W.heap.size + 1 := by omega
  unfold zero23 at Z1 Z2 QA
  generalize (W.alloc (.cells x.L.toArray 54)).alloc _ = w2 at Z1 Z2 QA ⊢
  have Z1D := hid (Z1.out.on (Q.refl _).drew)
  have d1 := Z1.out.c 1 _ rfl
  have d22 := Z1.out.c 22 _ rfl
  have f1 := Z1.out.f 1
  have f22 := Z1.out.f 22
  refine two (F := ?F) (fun HF => ?both) ?rest
  case both =>
    go_region_with (go_at_call 36; refine (short30 _ _).mono ?_; rintro e9 v9 ⟨rfl, h9⟩; replace h9 := h9.symm; subst h9)
    all_goals exact HF
  clear Z1D d1 d22 f1 f22
  have ZA : Hid (Cq (((w2.setCell ⟨W.heap.size, 1, none⟩ (.string (S30 x.sh))).setCell ⟨W.heap.size, 22, none⟩ (.string (S30 x.nm))).drew) W.heap.size (Rv.L { x with sh := S30 x.sh, nm := S30 x.nm })) := hid (((Z1.out.put 1 (.string (S30 x.sh))).put 22 (.string (S30 x.nm))).on (Q.refl _).drew)
  have ZB := hid (((Z2.out.oth hne.symm 1 (.string (S30 x.sh))).oth hne.symm 22 (.string (S30 x.nm))).on (Q.refl _).drew)
  have QB : Hid (Q W (((w2.setCell ⟨W.heap.size, 1, none⟩ (.string (S30 x.sh))).setCell ⟨W.heap.size, 22, none⟩ (.string (S30 x.nm))).drew)) := hid ((Q.setCell (Q.setCell QA.out hp _) hp _).drew)
  clear Z1 Z2 QA
  generalize ((w2.setCell ⟨W.heap.size, 1, none⟩ (.string (S30 x.sh))).setCell ⟨W.heap.size, 22, none⟩ (.string (S30 x.nm))).drew = V1 at ZA ZB QB ⊢
  have d4 : V1.cell? ⟨W.heap.size, 4, none⟩ = some (.bool x.f) := ZA.out.c 4 _ rfl
  have d5 : V1.cell? ⟨W.heap.size, 5, none⟩ = some (.int .i64 x.vk) := ZA.out.c 5 _ rfl
  have d6 : V1.cell? ⟨W.heap.size, 6, none⟩ = some (.int .i64 x.vn) := ZA.out.c 6 _ rfl
  have d7 : V1.cell? ⟨W.heap.size, 7, none⟩ = some (.string x.vt) := ZA.out.c 7 _ rfl
  have d8 : V1.cell? ⟨W.heap.size, 8, none⟩ = some (.bool x.vb) := ZA.out.c 8 _ rfl
  have d9 : V1.cell? ⟨W.heap.size, 9, none⟩ = some (.int .i64 x.ve) := ZA.out.c 9 _ rfl
  have d10 : V1.cell? ⟨W.heap.size, 10, none⟩ = some (.int .i64 x.tk) := ZA.out.c 10 _ rfl
  have d11 : V1.cell? ⟨W.heap.size, 11, none⟩ = some (.int .i64 x.tm) := ZA.out.c 11 _ rfl
  have d12 : V1.cell? ⟨W.heap.size, 12, none⟩ = some (.string x.tt) := ZA.out.c 12 _ rfl
  have d13 : V1.cell? ⟨W.heap.size, 13, none⟩ = some (.bool x.tb) := ZA.out.c 13 _ rfl
  have d14 : V1.cell? ⟨W.heap.size, 14, none⟩ = some (.int .i64 x.te) := ZA.out.c 14 _ rfl
  have d15 : V1.cell? ⟨W.heap.size, 15, none⟩ = some (.slice x.a1 x.l1 x.c1) := ZA.out.c 15 _ rfl
  have d16 : V1.cell? ⟨W.heap.size, 16, none⟩ = some (.slice x.a2 x.l2 x.c2) := ZA.out.c 16 _ rfl
  have HC := hid (cutc_any x.f x.vk x.vn x.vt x.vb x.ve x.tk x.tm x.tt x.tb x.te x.a1 x.l1 x.c1 x.a2 x.l2 x.c2 X W0 V1 hr (hq0.trans QB.out))
  go_upto_region 3 with (first
    | (go_at_call 14; refine HC.out.mono ?_; rintro e9 V2 ⟨k8, m8, t8, bb8, er8, a18, l18, c18, a28, l28, c28, rfl, hd8, q9⟩; have QC : Hid (Q W V2) := hid (QB.out.trans q9); have ZC := hid (ZA.out.on q9); have ZD := hid (ZB.out.on q9); have RD := hid hd8; clear q9 hd8)
    | (with_reducible refine wpList_store_mid (by with_unfolding_all rfl) 42 _ _ (by with_unfolding_all rfl) W.heap.size 4 #[.bool x.f, .int .i64 x.vk, .int .i64 x.vn, .string (cuT x.vt), .bool x.vb, .int .i64 x.ve, .int .i64 k8, .int .i64 m8, .string t8, .bool bb8, .int .i64 er8, .slice a18 l18 c18, .slice a28 l28 c28] (by with_unfolding_all rfl) (by with_unfolding_all rfl) (by with_unfolding_all exact there_cq ZC.out 4 13 (by simp [Rv.L])) (by with_unfolding_all exact info30) (by kernel_rfl) ?_))
  have ZE : Hid (Cq (V2.setCells W.heap.size 4 [.bool x.f, .int .i64 x.vk, .int .i64 x.vn, .string (cuT x.vt), .bool x.vb, .int .i64 x.ve, .int .i64 k8, .int .i64 m8, .string t8, .bool bb8, .int .i64 er8, .slice a18 l18 c18, .slice a28 l28 c28]) W.heap.size (Rv.L { x with sh := S30 x.sh, nm := S30 x.nm, vt := cuT x.vt, tk := k8, tm := m8, tt := t8, tb := bb8, te := er8, a1 := a18, l1 := l18, c1 := c18, a2 := a28, l2 := l28, c2 := c28 })) := hid (Cq.cells [.bool x.f, .int .i64 x.vk, .int .i64 x.vn, .string (cuT x.vt), .bool x.vb, .int .i64 x.ve, .int .i64 k8, .int .i64 m8, .string t8, .bool bb8, .int .i64 er8, .slice a18 l18 c18, .slice a28 l28 c28] 4 ZC.out)
  have ZF := hid (Cq.othcells hne.symm [.bool x.f, .int .i64 x.vk, .int .i64 x.vn, .string (cuT x.vt), .bool x.vb, .int .i64 x.ve, .int .i64 k8, .int .i64 m8, .string t8, .bool bb8, .int .i64 er8, .slice a18 l18 c18, .slice a28 l28 c28] 4 ZD.out)
  have QE : Hid (Q W (V2.setCells W.heap.size 4 [.bool x.f, .int .i64 x.vk, .int .i64 x.vn, .string (cuT x.vt), .bool x.vb, .int .i64 x.ve, .int .i64 k8, .int .i64 m8, .string t8, .bool bb8, .int .i64 er8, .slice a18 l18 c18, .slice a28 l28 c28])) := hid (Q.cells hp _ _ QC.out)
  have XE : Qx W.heap.size V2 (V2.setCells W.heap.size 4 [.bool x.f, .int .i64 x.vk, .int .i64 x.vn, .string (cuT x.vt), .bool x.vb, .int .i64 x.ve, .int .i64 k8, .int .i64 m8, .string t8, .bool bb8, .int .i64 er8, .slice a18 l18 c18, .slice a28 l28 c28]) := Qx.cells _ _ (Qx.refl _ _)
  have RE := hid (Rdg.on XE (fun b hb => by have h1 := ZA.out.l; have h2 := hq0.size; omega) _ _ RD.out)
  have hV1 : W.heap.size + 1 < V1.heap.size := ZB.out.l
  have hW0 := hq0.size
  obtain ⟨y, hy⟩ : ∃ y : Rv, y = { x with sh := S30 x.sh, nm := S30 x.nm, vt := cuT x.vt, tk := k8, tm := m8, tt := t8, tb := bb8, te := er8, a1 := a18, l1 := l18, c1 := c18, a2 := a28, l2 := l28, c2 := c28 } := ⟨_, rfl⟩
  rw [← hy] at ZE
  have HY : Hid (y.ra = x.ra ∧ y.rl = x.rl ∧ y.rc = x.rc ∧ y.sh = S30 x.sh ∧ y.nm = S30 x.nm ∧ y.vt = cuT x.vt ∧ y.vn = x.vn) := hid (by rw [hy]; exact ⟨rfl, rfl, rfl, rfl, rfl, rfl, rfl⟩)
  have RY : Hid (Rdg (fun b => b < W0.heap.size ∨ V1.heap.size ≤ b) (V2.setCells W.heap.size 4 [.bool x.f, .int .i64 x.vk, .int .i64 x.vn, .string (cuT x.vt), .bool x.vb, .int .i64 x.ve, .int .i64 k8, .int .i64 m8, .string t8, .bool bb8, .int .i64 er8, .slice a18 l18 c18, .slice a28 l28 c28]) (cutE X 1 220).1 (.agg #[.int .i64 y.tk, .int .i64 y.tm, .string y.tt, .bool y.tb, .int .i64 y.te, .slice y.a1 y.l1 y.c1, .slice y.a2 y.l2 y.c2])) := hid (by rw [hy]; exact RE.out)
  clear hy RE XE RD ZC ZD QC ZA ZB
  generalize V2.setCells W.heap.size 4 [.bool x.f, .int .i64 x.vk, .int .i64 x.vn, .string (cuT x.vt), .bool x.vb, .int .i64 x.ve, .int .i64 k8, .int .i64 m8, .string t8, .bool bb8, .int .i64 er8, .slice a18 l18 c18, .slice a28 l28 c28] = V3 at ZE ZF QE RY ⊢
  have d20 : V3.cell? ⟨W.heap.size, 20, none⟩ = some (.slice x.ra x.rl x.rc) := (ZE.out.c 20 _ rfl).trans (by rw [HY.out.1, HY.out.2.1, HY.out.2.2.1])
  have f20 := ZE.out.f 20
  have hMl := hM.len
  obtain ⟨ao, cap, hsl, hc1, hc2⟩ := hMl
  simp only [Value.slice.injEq] at hsl
  obtain ⟨hra, hrl, hrc⟩ := hsl
  have HM := hid hM
  have h3 : x.rl ≤ 9223372036854775807 := by rw [hrl]; exact Nat.le_trans hc1 (by unfold maxLen at hc2; omega)
  have h4 : x.rl ≤ x.rc := by rw [hrl, hrc]; exact hc1
  obtain ⟨mr, hmr⟩ := mr_ex (M.take 20)
  have OK : Hid (∀ z : Rv, z.sh = y.sh → z.nm = y.nm → z.vt = y.vt → z.vn = y.vn → OK1 z (cutE X 1 220).1 (M.take 20)) := hid (fun z h1 h2 h3 h9 => ⟨by rw [h1, HY.out.2.2.2.1]; have := S30_size x.sh; omega, by rw [h2, HY.out.2.2.2.2.1]; have := S30_size x.nm; omega, by rw [h3, HY.out.2.2.2.2.2.1]; have := cuT_sz x.vt; omega, hS, hN, by rw [List.length_take]; omega, hRn, by rw [h9, HY.out.2.2.2.2.2.2]; exact hVr⟩)
  have HFin : Hid (∀ (z : Rv) (V : World), Rdg (fun b => b < W0.heap.size ∨ V1.heap.size ≤ b) V (cutE X 1 220).1 (.agg #[.int .i64 z.tk, .int .i64 z.tm, .string z.tt, .bool z.tb, .int .i64 z.te, .slice z.a1 z.l1 z.c1, .slice z.a2 z.l2 z.c2]) → Cq V (W.heap.size + 1) zero23.toList → Q W V → R.Sl R.rc 4 W0 (.slice z.ra z.rl z.rc) (M.take 20) → OK1 z (cutE X 1 220).1 (M.take 20) →
      OpX W0 (fun n => n < W0.heap.size ∨ W.heap.size ≤ n) (V.setRow (W.heap.size + 1) z.L.toArray) z (mayO z (cutE X 1 220).1 (M.take 20) mr) ∧ Q W (V.setRow (W.heap.size + 1) z.L.toArray) ∧ (V.setRow (W.heap.size + 1) z.L.toArray).heap[W.heap.size + 1]? = some (.cells z.L.toArray 54 (0, 0))) := hid (fun z V h1 h2 h3 h4 h5 => by
    have hx : Qx (W.heap.size + 1) V (V.setRow (W.heap.size + 1) z.L.toArray) := qx_setRow V _ _
    have hQ : Q W (V.setRow (W.heap.size + 1) z.L.toArray) := h3.viaq hx hq
    exact ⟨⟨_, _, mr, Rdg.mono (fun b hb => by omega) _ _ (Rdg.on hx (fun b hb => by omega) _ _ h1), h4, h5, hmr, rfl⟩, hQ, setRow_heap V _ _ _ _ _ h2.h⟩)
  by_cases h20 : (20 : Int) < (x.rl : Int)
  · obtain ⟨g, off, cp, hsl2, u1, u2, u3⟩ := hM.at (i := 0) (by omega)
    clear u1 u2 u3
    simp only [Value.slice.injEq] at hsl2
    have hg := hsl2.1
    have HT : Hid (R.Sl R.rc 4 W0 (.slice x.ra 20 x.rc) (M.take 20)) := hid (by
      have h := hM
      rw [hrl] at h
      exact R.sl_take h 20 (by omega))
    rw [hg] at d20 HT
    have ZG : Hid (Cq (V3.setCell ⟨W.heap.size, 20, none⟩ (.slice (some ⟨g, off, none⟩) 20 x.rc)) W.heap.size (Rv.L { y with ra := some ⟨g, off, none⟩, rl := 20, rc := x.rc })) := hid (ZE.out.put 20 (.slice (some ⟨g, off, none⟩) 20 x.rc))
    have ZH := hid (ZF.out.oth hne.symm 20 (.slice (some ⟨g, off, none⟩) 20 x.rc))
    have QG := hid (Q.setCell QE.out hp (k := 20) (.slice (some ⟨g, off, none⟩) 20 x.rc))
    have RG := hid (Rdg.on (show Qx W.heap.size V3 (V3.setCell ⟨W.heap.size, 20, none⟩ (.slice (some ⟨g, off, none⟩) 20 x.rc)) from (Qx.refl _ _).own _ _) (fun b hb => by omega) _ _ RY.out)
    have HH := hid (HFin.out { y with ra := some ⟨g, off, none⟩, rl := 20, rc := x.rc } _ RG.out ZH.out QG.out HT.out (OK.out _ rfl rfl rfl rfl))
    have hl2 : (20 : Int) ≤ (x.rc : Int) := by omega
    have hl3 : (x.rc : Int) ≤ 9223372036854775807 := by rw [hrc]; unfold maxLen at hc2; omega
    obtain ⟨z, hz⟩ : ∃ z : Rv, z = { y with ra := some ⟨g, off, none⟩, rl := 20, rc := x.rc } := ⟨_, rfl⟩
    rw [← hz] at ZG HH
    clear ZE ZF QE RY RG HFin OK hM HM HT hz hsl2 hg hra hrl hrc HY
    go_upto_region 5 with fail
    generalize V3.setCell ⟨W.heap.size, 20, none⟩ (.slice (some ⟨g, off, none⟩) 20 x.rc) = V4 at ZG ZH QG HH ⊢
    go_wp2_with (first
      | (with_reducible refine wpl_loadg _ (by with_unfolding_all rfl) (by with_unfolding_all rfl) W.heap.size (by with_unfolding_all rfl) z.L (by with_unfolding_all exact ZG.out) (by with_unfolding_all rfl) ?_)
      | (with_reducible refine wpList_store_row (by with_unfolding_all rfl) 54 _ _ (by with_unfolding_all rfl) (W.heap.size + 1) z.L.toArray (by with_unfolding_all rfl) (by with_unfolding_all rfl) 54 zero23 (by with_unfolding_all exact ZH.out.h) (by with_unfolding_all exact info35) (by with_unfolding_all rfl) (by with_unfolding_all exact z.one) ?_))
    refine bodyPost_ret (v := .agg z.L.toArray) (results_cell_row Tryz.results20 _ _ (W.heap.size + 1) 54 z.L.toArray (0, 0) _ (by rfl) HH.out.2.2 Tryz.underlying54 rfl info35) rfl ?_
    exact (⟨z, _, rfl, HH.out.1, HH.out.2.1⟩ : CutP W0 W _ _)
  · have HT : Hid (R.Sl R.rc 4 W0 (.slice y.ra y.rl y.rc) (M.take 20)) := hid (by
      rw [HY.out.1, HY.out.2.1, HY.out.2.2.1, List.take_of_length_le (by omega)]
      exact hM)
    have HH := hid (HFin.out y _ RY.out ZF.out QE.out HT.out (OK.out _ rfl rfl rfl rfl))
    obtain ⟨z, hz⟩ : ∃ z : Rv, z = y := ⟨_, rfl⟩
    rw [← hz] at ZE HH
    have ZG := ZE
    have ZH := ZF
    clear ZE ZF QE RY HFin OK hM HM HT hz hra hrl hrc HY
    go_upto_region 5 with fail
    go_wp2_with (first
      | (with_reducible refine wpl_loadg _ (by with_unfolding_all rfl) (by with_unfolding_all rfl) W.heap.size (by with_unfolding_all rfl) z.L (by with_unfolding_all exact ZG.out) (by with_unfolding_all rfl) ?_)
      | (with_reducible refine wpList_store_row (by with_unfolding_all rfl) 54 _ _ (by with_unfolding_all rfl) (W.heap.size + 1) z.L.toArray (by with_unfolding_all rfl) (by with_unfolding_all rfl) 54 zero23 (by with_unfolding_all exact ZH.out.h) (by with_unfolding_all exact info35) (by with_unfolding_all rfl) (by with_unfolding_all exact z.one) ?_))
    refine bodyPost_ret (v := .agg z.L.toArray) (results_cell_row Tryz.results20 _ _ (W.heap.size + 1) 54 z.L.toArray (0, 0) _ (by rfl) HH.out.2.2 Tryz.underlying54 rfl info35) rfl ?_
    exact (⟨z, _, rfl, HH.out.1, HH.out.2.1⟩ : CutP W0 W _ _)
def OpI (W0 : World) (x : Rv) : Prop := ∃ X M, RdI W0 X (.agg #[.int .i64 x.tk, .int .i64 x.tm, .string x.tt, .bool x.tb, .int .i64 x.te, .slice x.a1 x.l1 x.c1, .slice x.a2 x.l2 x.c2]) ∧ R.Sl R.rc 4 W0 (.slice x.ra x.rl x.rc) M ∧ Sm (cutE X 1 220).1 ∧ nodes (cutE X 1 220).1 ≤ 1000 ∧ Rn (cutE X 1 220).1 ∧ V.fitB x.vn = true
theorem cutop_g (x : Rv) (W0 W : World) (h : OpI W0 x) (q : Q W0 W) : Calls Tryz.prog 20 #[.agg x.L.toArray] W fun e V' => CutP W0 W e V' := by
  obtain ⟨X, M, h1, h2, h3, h4, h5, h6⟩ := h
  exact cutop_any x X M W0 W h1 h2 q h3 h4 h5 h6
theorem qx_of {a b : World} (q : Q a b) (p : Nat) : Qx p a b := ⟨q.os, q.tape, q.output, q.size, fun i hi _ => Q.block q hi⟩
def AllX (W0 : World) (v : Value) (W : World) (ys : List Rv) : Prop := ∀ y ∈ ys, ∃ b, OpX W0 (fun n => n < W.heap.size ∧ v.ownBlock ≠ some n) W y b
theorem AllX.q {W0 W V : World} {v : Value} {ys : List Rv} (h : AllX W0 v W ys) (q : Q W V) : AllX W0 v V ys := by
  intro y hy
  obtain ⟨b, X, M, mr, h1, h2⟩ := h y hy
  have hs := q.size
  exact ⟨b, X, M, mr, Rdg.mono (fun n hn => ⟨by omega, hn.2⟩) _ _ (Rdg.on (qx_of q V.heap.size) (fun n hn => by omega) _ _ h1), h2⟩
theorem AllX.grow {W0 W V : World} {v : Value} {g m cap : Nat} {ys : List Rv} (h : AllX W0 v W ys) (hg : W.grownBy V v.ownBlock) (ho : ∀ j, v.ownBlock = some j → 0 ≤ j) (hl : v.ownBlock = some g ∨ g = W.heap.size) : AllX W0 (.slice (some ⟨g, 0, none⟩) m cap) V ys := by
  obtain ⟨r, hx, _, hr⟩ := grown_qx (n := 0) hg (Nat.zero_le _) ho
  intro y hy
  obtain ⟨b, X, M, mr, h1, h2⟩ := h y hy
  have hs := hx.size
  refine ⟨b, X, M, mr, Rdg.mono (fun n hn => ⟨by omega, fun e => ?_⟩) _ _ (Rdg.on hx (fun n hn e => ?_) _ _ h1), h2⟩
  · subst e
    rcases hr with hr | hr
    · exact hn.2 hr
    · omega
  · simp only [Value.ownBlock, Option.some.injEq] at e
    subst e
    rcases hl with hl | hl
    · exact hn.2 hl
    · omega
theorem AllX.cut {W0 W V : World} {v : Value} {y : Rv} {b : Bool} (h : OpX W0 (fun n => n < W0.heap.size ∨ W.heap.size ≤ n) V y b) (h1 : ∀ j, v.ownBlock = some j → W0.heap.size ≤ j) (h2 : ∀ j, v.ownBlock = some j → j < W.heap.size) : AllX W0 v V [y] := by
  intro z hz
  simp only [List.mem_cons, List.not_mem_nil, or_false] at hz
  subst hz
  obtain ⟨X, M, mr, k1, k2⟩ := h
  refine ⟨b, X, M, mr, Rdg.mono (fun n hn => ⟨hn.2, fun e => ?_⟩) _ _ (Rdg.in _ _ k1), k2⟩
  have e1 := h1 n e
  have e2 := h2 n e
  omega
theorem AllX.app {W0 W : World} {v : Value} {ys zs : List Rv} (h : AllX W0 v W ys) (k : AllX W0 v W zs) : AllX W0 v W (ys ++ zs) := fun y hy => (List.mem_append.1 hy).elim (h y) (k y)
def CaP (w : World) (e : Ending) (V : World) : Prop := ∃ ys v, e = .returned v ∧ Sl Rv.L 23 V v ys ∧ (∀ y ∈ ys, ∃ b, OpG V y b) ∧ ys.length ≤ 100 ∧ Q w V
theorem info35y : (Tryz.prog.info? 54).map (fun i => (i.zero, i.size, i.bytes)) = some (some (.agg zero23), 23, 264) := by kernel_rfl
theorem flat_y (y : Rv) : (flat Rv.L [y]).toArray = y.L.toArray := by simp [flat]
set_option maxHeartbeats 8000000 in
theorem cutall_any (v : Value) (xs : List Rv) (c : Nat) (W0 w : World) (hc : c ≤ 100) (h : Sl Rv.L 23 W0 v xs) (ho : ∀ x ∈ xs, OpI W0 x) (hq0 : Q W0 w) : Calls Tryz.prog 9 #[v, .int .i64 c] w fun e V' => CaP w e V' := by
  obtain ⟨i0, HI⟩ := inf_of info35y
  have HI := hid HI
  have HS := hid (h.on hq0)
  have HO := hid ho
  have HQ0 := hid hq0
  have hw0 := hq0.size
  obtain ⟨ao, cap, rfl, h1, h2⟩ := h.len
  clear h ho hq0
  have h3 : xs.length ≤ 9223372036854775807 := Nat.le_trans h1 (by unfold maxLen at h2; omega)
  go_enter Tryz.func9, Tryz.ntmps9
  go_wp2_with fail
  go_loopw [5, 6] (fun o s W => ∃ (n : Nat) (ys : List Rv), n ≤ min xs.length c ∧ s = .int .i64 n ∧ ys.length = n ∧ Own Rv.L 54 23 w.heap.size W o ys ∧ AllX W0 o W ys ∧ Q w W) (fun _ s _ => min xs.length c - (intOf s).toNat)
  case atStart => exact ⟨0, [], Nat.zero_le _, rfl, rfl, own_nil _, fun y hy => absurd hy (by simp), Q.refl _⟩
  case round =>
    obtain ⟨n, ys, hn, rfl, hyl, hown, hall, hq⟩ := hrel
    have HOW := hid hown
    have HAL := hid hall
    have HQ := hid hq
    have HYL := hid hyl
    clear hown hall hq hyl
    by_cases hlt : n < min xs.length c
    · have hl1 : n < xs.length := by omega
      have hlt' : (n : Int) < (xs.length : Int) := by omega
      have hlt2 : (n : Int) < (c : Int) := by omega
      obtain ⟨g, off, cap', e, _, _, hcc⟩ := (HS.out.on HQ.out).at hl1
      cases e
      have HX := hid (HO.out _ (List.getElem_mem hl1))
      have HRg : Hid (wr.rangeAt g (off + n * 23) (xs[n]).L) := hid (fun j u hu => hcc j u hu)
      clear hcc
      generalize xs[n] = x at HX HRg
      have HCut := hid (cutop_g x W0 wr HX.out (HQ0.out.trans HQ.out))
      clear HX
      go_wp2_with (first
        | (with_reducible refine wpl_loadm _ (by with_unfolding_all rfl) (by with_unfolding_all rfl) g (off + n * 23) x (by with_unfolding_all exact HRg.out) (by with_unfolding_all rfl) ?_)
        | (go_at_call 20; refine HCut.out.mono ?_; intro e9 V hcp; obtain ⟨y, b, rfl, hx9, q9⟩ := hcp; have HY := hid hx9; have QV := hid q9; clear hx9 q9)
        | (with_reducible refine wpl_bsl 1 _ (by with_unfolding_all rfl) (by with_unfolding_all rfl) [y] (by decide) (by kernel_rfl) ?_)
        | (at_builtin; refine wpList_append_lies (w := V.alloc (.cells (flat Rv.L [y]).toArray 54)) rfl _ _ 22 rfl w.heap.size 54 i0 (.agg zero23) 23 264 Tryz.underlying22 HI.out.1 HI.out.2.1 HI.out.2.2.1 HI.out.2.2.2 rfl (by decide) _ _ _ rfl ((HOW.out.on QV.out).alloc _) _ 1 1 y.L rfl rfl ?c1 ?c2 (by decide) ?c3 ?c4 ?c5 (V.heap.size + 1) ?c6 ?_))
      case c1 => rw [flat_y]; exact news_new V y.L 54
      case c2 => exact y.ones
      case c3 => unfold maxLen; have := HYL.out; omega
      case c4 => have := HYL.out; omega
      case c5 => have := HQ.out.size; have := QV.out.size; simp; omega
      case c6 => simp
      · intro g3 cap3 w3 hown3 hgrow hlies hlt3
        have HO3 := hid (own_snoc (enc := Rv.L) (x := y) hown3)
        have HQ3 : Hid (Q w w3) := hid (Below.grown ((HQ.out.trans QV.out).alloc _) hgrow (by have := HQ.out.size; have := QV.out.size; simp; omega) (HOW.out.blk))
        have HA3 := hid (AllX.grow (m := ys.length + 1) (cap := cap3) (((HAL.out.q QV.out).app (AllX.cut HY.out (fun j e => by have := HOW.out.blk j e; omega) HOW.out.lt)).q ((Q.refl _).alloc (.cells (flat Rv.L [y]).toArray 54))) hgrow (fun _ _ => Nat.zero_le _) (by simpa using hlies))
        clear hown3 hgrow hlies hlt3 HOW HAL HQ QV HY HCut HRg
        go_wp2_with fail
        go_roundw
        case rel => exact ⟨n + 1, ys ++ [y], by omega, by go_num, by have := HYL.out; simp; omega, HO3.out, HA3.out, HQ3.out⟩
        case measure => simp [intOf]; omega
    · have HFin : Hid (∀ u : Value, Own Rv.L 54 23 w.heap.size wr u ys → AllX W0 u wr ys → CaP w (.returned u) wr) := hid (fun u k1 k2 => ⟨ys, u, rfl, k1.sl Rv.len (by decide), fun y hy => by
        obtain ⟨b, hb⟩ := k2 y hy
        exact ⟨b, hb.g (HQ0.out.trans HQ.out)⟩, by have := HYL.out; omega, HQ.out⟩)
      by_cases hl1 : (n : Int) < (xs.length : Int)
      · have hl2 : ¬ (n : Int) < (c : Int) := by omega
        go_wp2_with fail
        go_ret
        exact HFin.out _ HOW.out HAL.out
      · go_wp2_with fail
        go_ret
        exact HFin.out _ HOW.out HAL.out
end Go.Proofs.YtcgddnliiondoaaGreatDoor
namespace Go.Proofs.YtcgddnliiondoaaGreatDoor
open Go.ChangeShapes Go.WideShapes Go.ChangeAt Go.RowKit
theorem cut_rn : ∀ (x : Ex) (d l : Nat), Rn x → Rn (cutE x d l).1
  | .mk k n t b e rs ks, d, l, h => by
    rw [Rn] at h
    rw [cutE, Rn]
    exact ⟨h.1, go ks d (l - 1) h.2⟩
  where
  go : ∀ (ks : List Ex) (d l : Nat), Rn.RnL ks → Rn.RnL (cutE.cutL ks d l).1
  | [], _, _, _ => by rw [cutE.cutL, Rn.RnL]; trivial
  | x :: xs, d, l, h => by
    rw [Rn.RnL] at h
    rw [cutE.cutL]
    split
    · rw [Rn.RnL]
      exact ⟨cut_rn x (d + 1) l h.1, go xs d _ h.2⟩
    · rw [Rn.RnL]; trivial
theorem cut_sm {B : Nat} (hB : B ≤ 2000000) : ∀ (x : Ex) (d l : Nat), Shs B x → Sm (cutE x d l).1
  | .mk k n t b e rs ks, d, l, h => by
    rw [Shs] at h
    rw [cutE, Sm]
    refine ⟨?_, fun r hr => Nat.le_trans (h.1 r (List.mem_of_mem_take hr)) hB, go hB ks d (l - 1) h.2⟩
    rw [List.length_take]
    omega
  where
  go {B : Nat} (hB : B ≤ 2000000) : ∀ (ks : List Ex) (d l : Nat), Shs.ShsL B ks → Sm.SmL (cutE.cutL ks d l).1
  | [], d, l, _ => by rw [cutE.cutL, Sm.SmL]; trivial
  | x :: xs, d, l, h => by
    rw [Shs.ShsL] at h
    rw [cutE.cutL]
    split
    · rw [Sm.SmL]
      exact ⟨cut_sm hB x (d + 1) l h.1, go hB xs d _ h.2⟩
    · rw [Sm.SmL]; trivial
theorem open_rects {H : Type} {enc : TypeId × Value → H} {W : World} {sp : Nat → Bool} {held : Bool} {base : Nat} (fuel : Nat) (v : Value) (z : DataW H × List MemPlace)
    (hf : DataW.trod enc Tryz.prog W base sp held fuel 52 [v] = some z) : ∃ (ao : Option Addr) (l c : Nat) (L : List R.Rg.Rc), v = .slice ao l c ∧ R.Sl R.rc 4 W v L := by
  rcases DataW.trod_slice Tryz.underlying52 hf with ⟨hcs, _⟩ | ⟨x, l, c, elems, rest, m, _, hcs, _, hb, hl, hm, hlen, hel, _, _⟩
  · obtain rfl : v = .slice none 0 0 := one_of hcs
    exact ⟨none, 0, 0, [], rfl, R.sl_nil W⟩
  · obtain rfl : v = .slice (some x) l c := one_of hcs
    have hcell : ∀ i, i < l → ∃ y : R.Rg.Rc, ∀ j u, (R.rc y)[j]? = some u → W.cell? ((x.add (i * 4)).add j) = some u := by
      intro i hi
      have hi' := hel i hi
      rw [R.cells28, List.getElem?_eq_getElem (by omega), Option.bind_eq_some_iff] at hi'
      obtain ⟨cs, h1, h2⟩ := hi'
      obtain ⟨y, rfl⟩ := R.open_cells h2
      obtain ⟨_, _, h3⟩ := World.cells?_some h1
      refine ⟨y, fun j u hu => ?_⟩
      have hj : j < 4 := by rw [← R.rc_len y]; exact (List.getElem?_eq_some_iff.1 hu).1
      rw [h3 j (by omega)]
      exact hu
    rcases Nat.eq_zero_or_pos l with hl0 | hp
    · subst hl0
      exact ⟨_, _, _, [], rfl, ⟨some x, c, rfl, Nat.zero_le _, hm, fun h => absurd h (by simp)⟩⟩
    · obtain ⟨b, off, spot⟩ := x
      obtain ⟨c0, hc0⟩ := hcell 0 hp
      have hspot : spot = none := by simpa [Addr.add] using World.cell?_spot (hc0 0 _ rfl)
      subst hspot
      obtain ⟨L, hL, hP⟩ := R.list_of (fun i y => R.At R.rc W b (off + i * 4) y) l (fun i hi => by
        obtain ⟨y, g⟩ := hcell i hi
        refine ⟨y, fun j u hu => ?_⟩
        have := g j u hu
        rw [R.add_plain, R.add_plain] at this
        exact this)
      subst hL
      exact ⟨_, _, _, L, rfl, ⟨some ⟨b, off, none⟩, c, rfl, hl, hm, fun _ => ⟨b, off, rfl, hP⟩⟩⟩
theorem cells35' : Tryz.prog.cellsOf 54 = 23 := by kernel_rfl
theorem cells32' : Tryz.prog.cellsOf 51 = 3 := by kernel_rfl
theorem open_line {H : Type} {enc : TypeId × Value → H} {W : World} {sp : Nat → Bool} {held : Bool} {base : Nat} (fuel : Nat) (cs : List Value) (z : DataW H × List MemPlace)
    (h : DataW.trod enc Tryz.prog W base sp held fuel 51 cs = some z) : ∃ (a b c : Int), cs = [.int .i64 a, .int .i64 b, .int .i64 c] := by
  obtain ⟨xs, m, hm0, hz, hl, hlen, hf⟩ := DataW.trod_struct Tryz.underlying51 h
  rw [cells32'] at hl
  have hlen' : xs.length = 3 := hlen
  match cs, hl with
  | [v0, v1, v2], _ =>
    have g0 := hf 0 _ rfl
    have g1 := hf 1 _ rfl
    have g2 := hf 2 _ rfl
    match xs, hlen' with
    | [y0, y1, y2], _ =>
      obtain ⟨a, e0, _, _⟩ := DataW.trod_int Tryz.underlying3 g0
      obtain ⟨b, e1, _, _⟩ := DataW.trod_int Tryz.underlying2 g1
      obtain ⟨c, e2, _, _⟩ := DataW.trod_int Tryz.underlying2 g2
      have f0 : v0 = .int .i64 a := one_of e0
      have f1 : v1 = .int .i64 b := one_of e1
      have f2 : v2 = .int .i64 c := one_of e2
      subst f0 f1 f2
      exact ⟨a, b, c, rfl⟩
theorem open_op {H : Type} {enc : TypeId × Value → H} {W : World} {sp : Nat → Bool} {held : Bool} {base : Nat} (fuel : Nat) (cs : List Value) (z : DataW H × List MemPlace)
    (h : DataW.trod enc Tryz.prog W base sp held fuel 54 cs = some z) (hB : Rows.uptoBulk z.1 ≤ 2000000) : ∃ x : Rv, cs = x.L ∧ OpI W x := by
  obtain ⟨xs, mm, hm0, hz, hl, hlen, hf⟩ := DataW.trod_struct Tryz.underlying54 h
  rw [cells35'] at hl
  have hlen' : xs.length = 9 := hlen
  match cs, hl with
  | [v0, v1, v2, v3, v4, v5, v6, v7, v8, v9, v10, v11, v12, v13, v14, v15, v16, v17, v18, v19, v20, v21, v22], _ =>
    have g0 := hf 0 _ rfl
    have g1 := hf 1 _ rfl
    have g2 := hf 2 _ rfl
    have g3 := hf 3 _ rfl
    have g4 := hf 4 _ rfl
    have g5 := hf 5 _ rfl
    have g6 := hf 6 _ rfl
    have g7 := hf 7 _ rfl
    have g8 := hf 8 _ rfl
    match xs, hlen' with
    | [y0, y1, y2, y3, y4, y5, y6, y7, y8], _ =>
      obtain ⟨k, e0, _, _⟩ := DataW.trod_int Tryz.underlying3 g0
      obtain ⟨sh, e1, _, _⟩ := DataW.trod_string Tryz.underlying9 g1
      obtain ⟨row, e2, _, _⟩ := DataW.trod_int Tryz.underlying2 g2
      obtain ⟨col, e3, _, _⟩ := DataW.trod_int Tryz.underlying2 g3
      obtain ⟨f, vk, vn, vt, vb, ve, tk, tm, tt, tb, te, a1, l1, c1, a2, l2, c2, X, e4, hX, sX, nX9, hn9⟩ := open_cell mm [v4, v5, v6, v7, v8, v9, v10, v11, v12, v13, v14, v15, v16] y4 g4
      obtain ⟨lk, la, lt, e5⟩ := open_line mm [v17, v18, v19] y5 g5
      obtain ⟨ra, rl, rc, M, e6, hM⟩ := open_rects mm v20 y6 g6
      obtain ⟨fm, e7, _, _⟩ := DataW.trod_int Tryz.underlying3 g7
      obtain ⟨nm, e8, _, _⟩ := DataW.trod_string Tryz.underlying9 g8
      have b4 : Rows.uptoBulk y4.1 ≤ Rows.uptoBulk z.1 := by rw [hz]; exact bulk_agg (by simp)
      have f0 : v0 = .int .i64 k := one_of e0
      have f1 : v1 = .string sh := one_of e1
      have f2 : v2 = .int .i64 row := one_of e2
      have f3 : v3 = .int .i64 col := one_of e3
      have f7 : v21 = .int .i64 fm := one_of e7
      have f8 : v22 = .string nm := one_of e8
      simp only [List.cons.injEq, and_true] at e4 e5
      obtain ⟨rfl, rfl, rfl, rfl, rfl, rfl, rfl, rfl, rfl, rfl, rfl, rfl, rfl⟩ := e4
      obtain ⟨rfl, rfl, rfl⟩ := e5
      subst f0 f1 f2 f3 f7 f8 e6
      exact ⟨⟨k, sh, row, col, f, vk, vn, vt, vb, ve, tk, tm, tt, tb, te, a1, l1, c1, a2, l2, c2, lk, la, lt, ra, rl, rc, fm, nm⟩, rfl, X, M, hX, hM, cut_sm (B := Rows.uptoBulk y4.1) (by omega) X 1 220 sX, by have := cut_nodes X 1 220 (by omega); omega, cut_rn X 1 220 nX9, hn9⟩
theorem list_ofo (P : Nat → Rv → Prop) : ∀ n, (∀ i, i < n → ∃ x, P i x) → ∃ l : List Rv, l.length = n ∧ ∀ i (h : i < l.length), P i l[i]
  | 0, _ => ⟨[], rfl, fun i hi => absurd hi (by simp)⟩
  | n + 1, h => by
    obtain ⟨l, hl, hp⟩ := list_ofo P n (fun i hi => h i (by omega))
    obtain ⟨x, hx⟩ := h n (by omega)
    refine ⟨l ++ [x], by simp [hl], fun i hi => ?_⟩
    by_cases hin : i < l.length
    · rw [List.getElem_append_left hin]
      exact hp i hin
    · have hie : i = l.length := by simp at hi; omega
      subst hie
      simp
      rw [hl]
      exact hx
theorem open_ops {H : Type} {enc : TypeId × Value → H} {W : World} {sp : Nat → Bool} {held : Bool} {base base' : Nat} {v : Value} {d : DataW H} {p : List MemPlace} {r : Reach}
    (hv : Value.okWide Tryz.prog W r base' 22 v) (h : DataW.Trod enc Tryz.prog W base sp held 22 v d p) (hB : Rows.uptoBulk d ≤ 2000000) : ∃ L : List Rv, Sl Rv.L 23 W v L ∧ ∀ x ∈ L, OpI W x := by
  obtain ⟨a0, len0, cap0, rfl⟩ := okWide_slice Tryz.underlying22 hv
  obtain ⟨fuel, hf⟩ := h
  rcases DataW.trod_slice Tryz.underlying22 hf with ⟨hcs, _⟩ | ⟨x, l, c, elems, rest, m, hdd, hcs, hdz, hb, hl, hm, hlen, hel, hx1, hx2⟩
  · simp [Value.cells] at hcs
    obtain ⟨rfl, rfl, rfl⟩ := hcs
    exact ⟨[], sl_nil W, fun x hx => absurd hx (by simp)⟩
  · simp [Value.cells] at hcs
    obtain ⟨rfl, rfl, rfl⟩ := hcs
    have hcell : ∀ i, i < len0 → ∃ y : Rv, OpI W y ∧ ∀ j u, (Rv.L y)[j]? = some u → W.cell? ((x.add (i * 23)).add j) = some u := by
      intro i hi
      have hi' := hel i hi
      rw [cells35', List.getElem?_eq_getElem (by omega), Option.bind_eq_some_iff] at hi'
      obtain ⟨cs, h1, h2⟩ := hi'
      obtain ⟨y, rfl, hyI⟩ := open_op m _ _ h2 (Nat.le_trans (by have hd := (Prod.mk.inj hdz).1; rw [hd]; exact bulk_elem (List.mem_map.2 ⟨_, List.getElem_mem (by omega), rfl⟩)) hB)
      obtain ⟨_, _, h3⟩ := World.cells?_some h1
      refine ⟨y, hyI, fun j u hu => ?_⟩
      have hj : j < 23 := by rw [← Rv.len y]; exact (List.getElem?_eq_some_iff.1 hu).1
      rw [h3 j (by omega)]
      exact hu
    rcases Nat.eq_zero_or_pos len0 with rfl | hp
    · exact ⟨[], ⟨some x, cap0, rfl, Nat.zero_le _, hm, fun h => absurd h (by simp)⟩, fun x hx => absurd hx (by simp)⟩
    · obtain ⟨b, off, spot⟩ := x
      obtain ⟨c0, _, hc0⟩ := hcell 0 hp
      have hspot : spot = none := by simpa [Addr.add] using World.cell?_spot (hc0 0 _ rfl)
      subst hspot
      obtain ⟨L, hL, hP⟩ := list_ofo (fun i y => OpI W y ∧ Ats Rv.L W b (off + i * 23) y) len0 (fun i hi => by
        obtain ⟨y, gi, g⟩ := hcell i hi
        refine ⟨y, gi, fun j u hu => ?_⟩
        have := g j u hu
        rw [R.add_plain, R.add_plain] at this
        exact this)
      subst hL
      refine ⟨L, ⟨some ⟨b, off, none⟩, cap0, rfl, hl, hm, fun _ => ⟨b, off, rfl, fun i hi => (hP i hi).2⟩⟩, fun z hz => ?_⟩
      obtain ⟨i, hi, rfl⟩ := List.getElem_of_mem hz
      exact (hP i hi).1
end Go.Proofs.YtcgddnliiondoaaGreatDoor
namespace Go.Proofs.YtcgddnliiondoaaGreatDoor
open Go.RowKit
def ROp (w0 : World) (r : Nat) (x : Rv) (bs : List UInt8) : Prop := ∀ D W, Q w0 W → w0.heap.size ≤ r → Rr w0 r (bs ++ D) W → Calls Tryz.prog 47 #[.pointer (some ⟨r, 0, none⟩)] W fun e W' => e = .returned (.agg x.L.toArray) ∧ Rr w0 r D W' ∧ Qx r W W'
theorem own_qx {B r : Nat} {W W' : World} {v : Value} {L : List Rv} (h : Own Rv.L 54 23 B W v L) (q : Qx r W W') (hr : r < B) : Own Rv.L 54 23 B W' v L := by
  obtain ⟨hl, h⟩ := h
  refine ⟨hl, ?_⟩
  rcases h with h | ⟨g, cap, cur, hv, hb, hg, h1, h2, h3, h4⟩
  · exact .inl h
  · exact .inr ⟨g, cap, cur, hv, hb, (q.block g (heap_of hg) (fun e => by have := Option.some.inj e; omega)).trans hg, h1, h2, h3, h4⟩
theorem rr_grow {w0 : World} {r : Nat} {D : List UInt8} {W W' : World} {v : Value} (h : Rr w0 r D W) (hg : W.grownBy W' v.ownBlock) (hne : ∀ j, v.ownBlock = some j → r ≠ j) : Rr w0 r D W' := by
  obtain ⟨u, nd, hk, hs⟩ := h.h
  exact ⟨u, nd, (hg.block r (heap_of hk) (fun e => hne r e.symm rfl)).trans hk, hs⟩
theorem qx_grow {r : Nat} {w W W' : World} {v : Value} (h : Qx r w W) (hg : W.grownBy W' v.ownBlock) (hne : ∀ j, v.ownBlock = some j → w.heap.size ≤ j) : Qx r w W' :=
  ⟨hg.os.trans h.os, hg.tape.trans h.tape, hg.output.trans h.output, Nat.le_trans h.size hg.size, fun i hi hr => (hg.block i (Nat.lt_of_lt_of_le hi h.size) (fun e => by have := hne i e.symm; omega)).trans (h.block i hi hr)⟩
set_option maxHeartbeats 8000000 in
theorem rbatch_any (w0 : World) (r : Nat) (bn : UInt8) (xs : List Rv) (ob : Rv → List UInt8) (w : World) (hq : Q w0 w) (hr0 : w0.heap.size ≤ r) (hbn : bn.toNat = xs.length) (hl : xs.length ≤ 32) (ho : ∀ x ∈ xs, ROp w0 r x (ob x)) (h : Rr w0 r (bn :: xs.flatMap ob) w) :
    Calls Tryz.prog 24 #[.pointer (some ⟨r, 0, none⟩)] w fun e W' => ∃ v, e = .returned v ∧ Own Rv.L 54 23 w.heap.size W' v xs ∧ Qx r w W' := by
  obtain ⟨i0, HI⟩ := inf_of info35y
  have HI := hid HI
  have HC := hid (rcount1 w0 r 32 bn _ w hq (by omega) (by omega) (by decide) h)
  have HRL : Hid (r < w.heap.size) := hid h.lt
  have HQ0 := hid hq
  have HO := hid ho
  have HR0 := hid hr0
  rw [hbn] at HC
  clear h hq ho hbn hr0
  go_enter Tryz.func24, Tryz.ntmps24
  go_upto_region 3 with (go_at_call 46; refine HC.out.mono ?_; rintro e9 w1 ⟨rfl, hw9, hq9⟩; have HR := hid hw9; have HX := hid hq9; clear hw9 hq9)
  clear HC
  go_wp2_with fail
  go_loopw [3, 6] (fun o s W => ∃ (n : Nat), n ≤ xs.length ∧ s = .int .i64 n ∧ Hid (Own Rv.L 54 23 w.heap.size W o (xs.take n)) ∧ Hid (Rr w0 r ((xs.drop n).flatMap ob) W) ∧ Hid (Qx r w W)) (fun _ s _ => xs.length - (intOf s).toNat)
  case atStart => exact ⟨0, Nat.zero_le _, rfl, hid (own_nil _), by simpa using HR, HX⟩
  case round =>
    obtain ⟨n, hn, rfl, hown, hr9, hq9⟩ := hrel
    clear HR HX
    have HOW := hown
    have HR := hr9
    have HX := hq9
    clear hown hr9 hq9
    have HQ : Hid (Q w0 wr) := hid (HX.out.qq HQ0.out HR0.out)
    by_cases hlt : n < xs.length
    · have hlt' : (n : Int) < (xs.length : Int) := by omega
      have HT : Hid (xs.take (n + 1) = xs.take n ++ [xs[n]]) := hid (List.take_succ_eq_append_getElem hlt)
      have HD : Hid ((xs.drop n).flatMap ob = ob xs[n] ++ (xs.drop (n + 1)).flatMap ob) := hid (by rw [List.drop_eq_getElem_cons hlt, List.flatMap_cons])
      have HX1 := hid (HO.out _ (List.getElem_mem hlt))
      have HLN : Hid ((xs.take n).length = n) := hid (by simp; omega)
      generalize xs[n] = x at HT HD HX1
      rw [HD.out] at HR
      have HCall := hid (HX1.out _ wr HQ.out HR0.out HR.out)
      go_wp2_with (first
        | (go_at_call 47; refine HCall.out.mono ?_; rintro e9 V ⟨rfl, hw9, hq9⟩; have HRV := hid hw9; have HXV := hid hq9; clear hw9 hq9)
        | (with_reducible refine wpl_bsl 1 _ (by with_unfolding_all rfl) (by with_unfolding_all rfl) [x] (by decide) (by kernel_rfl) ?_)
        | (at_builtin; refine wpList_append_own (w := V.alloc (.cells (flat Rv.L [x]).toArray 54)) rfl _ _ 22 rfl w.heap.size 54 i0 (.agg zero23) 23 264 Tryz.underlying22 HI.out.1 HI.out.2.1 HI.out.2.2.1 HI.out.2.2.2 rfl (by decide) _ _ _ rfl ((own_qx HOW.out HXV.out HRL.out).alloc _) _ 1 1 x.L rfl rfl ?c1 ?c2 ?c3 ?c4 ?c5 ?_))
      case c1 => rw [flat_y]; exact news_new V x.L 54
      case c2 => exact x.ones
      case c3 => unfold maxLen; have := HLN.out; omega
      case c4 => have := HLN.out; omega
      case c5 => have := HX.out.size; have := HXV.out.size; simp; omega
      intro v3 w3 hown3 hgrow _
      have HO3 := hid (own_snoc' (enc := Rv.L) (x := x) hown3 (by have := HLN.out; omega))
      have HB := hid (((own_qx HOW.out HXV.out HRL.out).alloc (.cells (flat Rv.L [x]).toArray 54)).blk)
      have HR3 := hid (rr_grow (HRV.out.on ((Q.refl _).alloc (.cells (flat Rv.L [x]).toArray 54))) hgrow (fun j hj => by have := HB.out j hj; have := HRL.out; omega))
      have HX3 := hid (qx_grow ((HX.out.trans HXV.out).alloc (.cells (flat Rv.L [x]).toArray 54)) hgrow (fun j hj => HB.out j hj))
      clear hown3 hgrow HOW HR HX HRV HXV HCall HB
      go_wp2_with fail
      go_roundw
      case rel => exact ⟨n + 1, by omega, by go_num, hid (by rw [HT.out]; exact HO3.out), HR3, HX3⟩
      case measure => simp [intOf]; omega
    · have HN : Hid (xs.take n = xs) := hid (List.take_of_length_le (by omega))
      rw [HN.out] at HOW
      go_wp2_with fail
      go_ret
      exact ⟨_, rfl, HOW.out, HX.out⟩
set_option maxHeartbeats 4000000 in
theorem rbatch_nil (w0 : World) (r : Nat) (w : World) (h : Rr w0 r [] w) :
    Calls Tryz.prog 24 #[.pointer (some ⟨r, 0, none⟩)] w fun e W' => e = .returned (.slice none 0 0) ∧ Qx r w W' := by
  have HC := hid (rcount0 w0 r 32 w (by decide) h)
  clear h
  go_enter Tryz.func24, Tryz.ntmps24
  go_upto_region 3 with (go_at_call 46; refine HC.out.mono ?_; rintro e9 w1 ⟨rfl, hw9, hq9⟩; have HX := hid hq9; clear hw9 hq9)
  clear HC
  go_wp2_with fail
  go_loopw [3, 6] (fun o s W => o = .slice none 0 0 ∧ s = .int .i64 0 ∧ W = w1) (fun _ _ _ => 0)
  case atStart => exact ⟨rfl, rfl, rfl⟩
  case round =>
    obtain ⟨rfl, rfl, rfl⟩ := hrel
    go_wp2_with fail
    go_ret
    exact ⟨rfl, HX.out⟩
structure OpT (w : World) (x : Rv) (b : Bool) (bs : List UInt8) : Prop where
  may : ∀ V, Q w V → Calls Tryz.prog 37 #[.agg x.L.toArray] V fun e V' => e = .returned (.bool b) ∧ Q V V'
  wr : b = true → ∀ V p, WOp V p x bs
  rd : b = true → ∀ V r, ROp V r x bs
  len : bs.length ≤ 100000
theorem OpT.on {w V : World} {x : Rv} {b : Bool} {bs : List UInt8} (h : OpT w x b bs) (q : Q w V) : OpT V x b bs := ⟨fun U u => h.may U (q.trans u), h.wr, h.rd, h.len⟩
theorem encode_t (v : Value) (xs : List Rv) (mb : Rv → Bool) (ob : Rv → List UInt8) (w : World) (h : Sl Rv.L 23 w v xs) (ho : ∀ x ∈ xs, OpT w x (mb x) (ob x)) :
    Calls Tryz.prog 10 #[v] w fun e W' => EncP w (decide (xs.length ≤ 32) && xs.all mb) (vn xs.length ++ xs.flatMap ob) e W' :=
  encode_any v xs mb ob w h (fun x hx => (ho x hx).may) (fun x hx => (ho x hx).len) (fun ha x hx p hp => (ho x hx).wr (List.all_eq_true.1 ha x hx) w p)
def DecP (w : World) (xs : List Rv) (e : Ending) (W' : World) : Prop := Q w W' ∧ ∃ v, e = .returned (.tuple #[v, .int .i64 0]) ∧ Sl Rv.L 23 W' v xs
set_option maxHeartbeats 8000000 in
theorem decode_any (u : Value) (xs : List Rv) (mb : Rv → Bool) (ob : Rv → List UInt8) (w : World) (hl : xs.length ≤ 32) (ha : xs.all mb = true) (ho : ∀ x ∈ xs, OpT w x (mb x) (ob x)) (h : Sl eb 1 w u (vn xs.length ++ xs.flatMap ob)) :
    Calls Tryz.prog 12 #[u] w fun e W' => DecP w xs e W' := by
  have HS := hid h
  have HO := hid ho
  have HA := hid ha
  have HL := hid hl
  obtain ⟨au, cu, rfl, _, _⟩ := h.len
  have HR0 : Hid (Rr w w.heap.size (vn xs.length ++ xs.flatMap ob) (w.alloc (.cells #[.slice au (vn xs.length ++ xs.flatMap ob).length cu, .int .i64 0] 63))) := hid ⟨_, 0, heap_alloc_last w _, h⟩
  clear h ho ha hl
  generalize (vn xs.length ++ xs.flatMap ob).length = nu at HS HR0 ⊢
  rw [vn_lt (by have := HL.out; omega)] at HR0
  have QA : Hid (Q w (w.alloc (.cells #[.slice au nu cu, .int .i64 0] 63))) := hid ((Q.refl w).alloc _)
  have HGE : Hid (w.heap.size ≤ w.heap.size) := hid (Nat.le_refl _)
  have HBN : Hid ((UInt8.ofNat xs.length).toNat = xs.length) := hid (by have := HL.out; simp; omega)
  go_enter Tryz.func12, Tryz.ntmps12
  go_upto_region 2 with fail
  generalize w.alloc (.cells #[.slice au nu cu, .int .i64 0] 63) = w1 at HR0 QA ⊢
  obtain ⟨r, hr⟩ : ∃ r, w.heap.size = r := ⟨_, rfl⟩
  rw [hr] at HR0 ⊢
  have HRW : Hid (w.heap.size ≤ r) := hid (by omega)
  clear hr HGE
  have HB := hid (rbatch_any w r (UInt8.ofNat xs.length) xs ob w1 QA.out HRW.out HBN.out HL.out (fun x hx => (HO.out x hx).rd (List.all_eq_true.1 HA.out x hx) w r) HR0.out)
  go_upto_region 3 with (go_at_call 24; refine HB.out.mono ?_; rintro e9 w2 ⟨v, rfl, hw9, hq9⟩; have HV := hid (hw9.sl Rv.len (by decide)); have HQ2 := hid (hq9.qq QA.out HRW.out); clear hw9 hq9)
  clear HB HR0
  have HE := hid (encode_t v xs mb ob w2 HV.out (fun x hx => (HO.out x hx).on HQ2.out))
  rw [decide_eq_true HL.out, HA.out] at HE
  go_upto_region 4 with (go_at_call 10; refine HE.out.mono ?_; rintro e9 w3 ⟨hq9, he9, _⟩; obtain ⟨vb, rfl, hs9⟩ := he9 rfl; have HQ3 := hid hq9; have HVB := hid hs9; clear hq9 he9 hs9)
  have HEQ := hid (bytesEqual_any vb (.slice au nu cu) _ _ w3 HVB.out (HS.out.on (HQ2.out.trans HQ3.out)))
  rw [decide_eq_true rfl] at HEQ
  go_wp2_with (go_at_call 25; refine HEQ.out.mono ?_; rintro e9 w4 ⟨rfl, hq9⟩; have HQ4 := hid hq9; clear hq9)
  go_ret2
  exact ⟨HQ2.out.trans (HQ3.out.trans HQ4.out), v, rfl, (HV.out.on HQ3.out).on HQ4.out⟩
set_option maxHeartbeats 8000000 in
theorem decode_nil (w : World) : Calls Tryz.prog 12 #[.slice none 0 0] w fun e W' => e = .returned (.tuple #[.slice none 0 0, .int .i64 5]) ∧ Q w W' := by
  have HR0 : Hid (Rr w w.heap.size [] (w.alloc (.cells #[.slice none 0 0, .int .i64 0] 63))) := hid ⟨_, 0, heap_alloc_last w _, sl_nil w⟩
  have QA : Hid (Q w (w.alloc (.cells #[.slice none 0 0, .int .i64 0] 63))) := hid ((Q.refl w).alloc _)
  go_enter Tryz.func12, Tryz.ntmps12
  go_upto_region 2 with fail
  generalize w.alloc (.cells #[.slice none 0 0, .int .i64 0] 63) = w1 at HR0 QA ⊢
  obtain ⟨r, hr⟩ : ∃ r, w.heap.size = r := ⟨_, rfl⟩
  rw [hr] at HR0 ⊢
  have HRW : Hid (w.heap.size ≤ r) := hid (by omega)
  clear hr
  have HB := hid (rbatch_nil w r w1 HR0.out)
  go_upto_region 3 with (go_at_call 24; refine HB.out.mono ?_; rintro e9 w2 ⟨rfl, hq9⟩; have HQ2 := hid (hq9.qq QA.out HRW.out); clear hq9)
  clear HB HR0
  have HE := hid (encode_t (.slice none 0 0) [] (fun _ => true) (fun _ => []) w2 (sl_nil w2) (fun x hx => absurd hx (by simp)))
  go_upto_region 4 with (go_at_call 10; refine HE.out.mono ?_; rintro e9 w3 ⟨hq9, he9, _⟩; obtain ⟨vb, rfl, hs9⟩ := he9 rfl; have HQ3 := hid hq9; have HVB := hid hs9; clear hq9 he9 hs9)
  have HEQ := hid (bytesEqual_any vb (.slice none 0 0) _ [] w3 HVB.out (sl_nil w3))
  rw [decide_eq_false (by simp [vn_lt])] at HEQ
  go_wp2_with (go_at_call 25; refine HEQ.out.mono ?_; rintro e9 w4 ⟨rfl, hq9⟩; have HQ4 := hid hq9; clear hq9)
  go_ret2
  exact ⟨rfl, HQ2.out.trans (HQ3.out.trans HQ4.out)⟩
def xAdd : Rv := ⟨5, ⟨#[99, 49, 110, 49]⟩, 0, 0, false, 0, 0, ⟨#[]⟩, false, 0, 0, 0, ⟨#[]⟩, false, 0, none, 0, 0, none, 0, 0, 0, 0, 0, none, 0, 0, 0, ⟨#[120]⟩⟩
def xZero : Rv := ⟨0, ⟨#[]⟩, 0, 0, false, 0, 0, ⟨#[]⟩, false, 0, 0, 0, ⟨#[]⟩, false, 0, none, 0, 0, none, 0, 0, 0, 0, 0, none, 0, 0, 0, ⟨#[]⟩⟩
def ob (x : Rv) : List UInt8 := if x.k = 1 then [1, 4, 99, 48, 110, 48, UInt8.ofNat x.row.toNat, 0, 0] else if x.k = 5 then [5, 4, 99, 49, 110, 49, 1, 120] else []
def mb (x : Rv) : Bool := decide (x.k = 1 ∨ x.k = 5)
theorem may_add (w : World) (hg : Gd w) : Calls Tryz.prog 37 #[.agg xAdd.L.toArray] w fun e V' => e = .returned (.bool true) ∧ Q w V' := by
  have HE := hid (fun V (q : Q w V) => opeq_any (⟨5, ⟨#[99, 49, 110, 49]⟩, 0, 0, false, 0, 0, ⟨#[]⟩, false, 0, 0, 0, ⟨#[]⟩, false, 0, none, 0, 0, none, 0, 0, 0, 0, 0, none, 0, 0, 0, ⟨#[]⟩⟩ : Rv) (⟨5, ⟨#[99, 49, 110, 49]⟩, 0, 0, false, 0, 0, ⟨#[]⟩, false, 0, 0, 0, ⟨#[]⟩, false, 0, none, 0, 0, none, 0, 0, 0, 0, 0, none, 0, 0, 0, ⟨#[]⟩⟩ : Rv) zeroE zeroE [] [] true V ⟨rd_zero V, R.sl_nil V⟩ ⟨rd_zero V, R.sl_nil V⟩ (by decide) (by decide) (by decide) ⟨fun _ => ⟨rfl, rfl, rfl, rfl, ⟨rfl, rfl, rfl⟩, rfl, rfl, rfl, rfl, ⟨rfl, rfl, rfl, rfl, rfl⟩, rfl⟩, fun _ => rfl⟩)
  unfold Rv.v at HE
  exact om5 5 ⟨#[99, 49, 110, 49]⟩ (.int .i64 0) (.int .i64 0) (.bool false) (.int .i64 0) (.int .i64 0) (.string ⟨#[]⟩) (.bool false) (.int .i64 0) (.int .i64 0) (.int .i64 0) (.string ⟨#[]⟩) (.bool false) (.int .i64 0) (.slice none 0 0) (.slice none 0 0) (.int .i64 0) (.int .i64 0) (.int .i64 0) (.slice none 0 0) (.int .i64 0) (.string ⟨#[120]⟩) w true true true (by decide) (by decide) (by decide) (by decide) (by decide) (hid (by kernel_rfl)) (hid (fun V q => (mayName_any' ⟨#[120]⟩ V (by decide)).mono fun e V' h => ⟨h.1, h.2 ▸ Q.refl _⟩)) (hid (fun V q => id_any ⟨#[99, 49, 110, 49]⟩ V (hg.on q).1 (by decide))) HE
theorem may_zero (w : World) : Calls Tryz.prog 37 #[.agg xZero.L.toArray] w fun e V' => e = .returned (.bool false) ∧ Q w V' :=
  om0 0 ⟨#[]⟩ (.int .i64 0) (.int .i64 0) (.bool false) (.int .i64 0) (.int .i64 0) (.string ⟨#[]⟩) (.bool false) (.int .i64 0) (.int .i64 0) (.int .i64 0) (.string ⟨#[]⟩) (.bool false) (.int .i64 0) (.slice none 0 0) (.slice none 0 0) (.int .i64 0) (.int .i64 0) (.int .i64 0) (.slice none 0 0) (.int .i64 0) (.string ⟨#[]⟩) w (by decide) (by decide) (by decide) (by decide) (by decide) (by decide) (by decide) (hid (by kernel_rfl))
theorem ob_add : vn 5 ++ (vn (⟨#[99, 49, 110, 49]⟩ : ByteArray).size ++ ((⟨#[99, 49, 110, 49]⟩ : ByteArray).data.toList ++ (vn (⟨#[120]⟩ : ByteArray).size ++ (⟨#[120]⟩ : ByteArray).data.toList))) = ob xAdd := by
  rw [vn_lt (m := 5) (by decide), vn_lt (m := (⟨#[99, 49, 110, 49]⟩ : ByteArray).size) (by decide), vn_lt (m := (⟨#[120]⟩ : ByteArray).size) (by decide)]
  rfl
theorem opt_add (w : World) (hg : Gd w) : OpT w xAdd (mb xAdd) (ob xAdd) := by
  refine ⟨fun V q => may_add V (hg.on q), fun _ V p L U q hw hl => ?_, fun _ V r D W q hr h => ?_, by decide⟩
  · have h := wop5 p L ⟨#[99, 49, 110, 49]⟩ ⟨#[120]⟩ (.int .i64 0) (.int .i64 0) (.bool false) (.int .i64 0) (.int .i64 0) (.string ⟨#[]⟩) (.bool false) (.int .i64 0) (.int .i64 0) (.int .i64 0) (.string ⟨#[]⟩) (.bool false) (.int .i64 0) (.slice none 0 0) (.slice none 0 0) (.int .i64 0) (.int .i64 0) (.int .i64 0) (.slice none 0 0) (.int .i64 0) U hw hl (by decide) (by decide)
    rw [ob_add] at h
    exact h
  · exact rop5 V r 4 1 [99, 49, 110, 49] [120] D W q hr (by decide) (by decide) (by decide) (by decide) h
theorem opt_zero (w : World) : OpT w xZero (mb xZero) (ob xZero) :=
  ⟨fun V q => may_zero V, fun e => absurd e (by decide), fun e => absurd e (by decide), by decide⟩
theorem eqop_add (V : World) : Calls Tryz.prog 19 #[.agg xAdd.L.toArray, .agg xAdd.L.toArray] V fun e V' => e = .returned (.bool true) ∧ Q V V' :=
  eqop_any xAdd xAdd zeroE zeroE [] [] true V ⟨rd_zero V, R.sl_nil V⟩ ⟨rd_zero V, R.sl_nil V⟩ (by decide) (by decide) ⟨fun _ => ⟨rfl, rfl, rfl, rfl, ⟨rfl, rfl, rfl⟩, rfl, rfl, rfl, rfl, ⟨rfl, rfl, rfl, rfl, rfl⟩, rfl⟩, fun _ => rfl⟩
theorem step_loadG {w : World} {ops : Array Oper} {o : Oper} {a : Act} {K : Act → World → Prop} {Q : Exit → Act → World → Prop} {E : Prop} (hw : Region.wanted o (yielded ops a.tmps) = true) (x : Operand) (ho : o.op = .load 54 x)
    (b off : Nat) (hx : a.eval x = .pointer (some ⟨b, off, none⟩)) (z : Rv) (hz : w.rangeAt b off z.L)
    (h : K (a.put o.dst (.agg z.L.toArray)) w) : if Region.wanted o (yielded ops a.tmps) = true then Oper.wp Tryz.prog o a w K Q else E := by
  rw [if_pos hw]
  exact wp_load_mid 54 x ho b off hx z.L _ hz Tryz.underlying54 rfl info35 h
set_option maxHeartbeats 8000000 in
theorem begun_any (w : World) (hg : Gd w) : Calls Tryz.prog 8 #[] w fun e V' => e = .returned (.bool true) ∧ Q w V' := by
  have HG := hid hg
  clear hg
  go_enter Tryz.func8, Tryz.ntmps8
  go_upto_region 2 with (first
    | (with_reducible refine wpl_buildt 54 _ (by with_unfolding_all rfl) (by with_unfolding_all rfl) xAdd.L.toArray (by kernel_rfl) ?_)
    | (with_reducible refine wpl_lay w _ _ (by with_unfolding_all rfl) (by with_unfolding_all rfl) xAdd (by with_unfolding_all rfl) (by with_unfolding_all rfl) (by with_unfolding_all rfl) ?_))
  have ZA := hid (cq_new w xAdd.L)
  have QA : Hid (Q w (w.alloc (.cells xAdd.L.toArray 54))) := hid ((Q.refl w).alloc _)
  generalize w.alloc (.cells xAdd.L.toArray 54) = w1 at ZA QA ⊢
  generalize w.heap.size = p at ZA ⊢
  have HE1 := hid (encode_t (.slice (some ⟨w1.heap.size, 0, none⟩) 1 1) [xAdd] mb ob (w1.alloc (.cells (flat Rv.L [xAdd]).toArray 54)) (sl_lit23 w1 [xAdd] (by decide)) (fun x hx => by
    simp only [List.mem_cons, List.not_mem_nil, or_false] at hx
    subst hx
    exact opt_add _ (HG.out.on (QA.out.alloc _))))
  go_upto_region 3 with (first
    | (with_reducible refine wpl_load (by with_unfolding_all rfl) _ (by with_unfolding_all rfl) p (by with_unfolding_all rfl) xAdd.L (by with_unfolding_all exact ZA.out) (by with_unfolding_all rfl) ?_)
    | (with_reducible refine wpl_bsl 1 _ (by with_unfolding_all rfl) (by with_unfolding_all rfl) [xAdd] (by decide) (by kernel_rfl) ?_)
    | (go_at_call 10; refine HE1.out.mono ?_; rintro e9 w2 ⟨hq9, he9, _⟩; obtain ⟨vb, rfl, hs9⟩ := he9 rfl; have Q2 := hid ((QA.out.alloc (.cells (flat Rv.L [xAdd]).toArray 54)).trans hq9); have VB := hid hs9; have ZB := hid ((ZA.out.on ((Q.refl _).alloc (.cells (flat Rv.L [xAdd]).toArray 54))).on hq9); clear hq9 he9 hs9))
  clear HE1 ZA QA
  have HD1 := hid (decode_any vb [xAdd] mb ob w2 (by decide) (by decide) (fun x hx => by
    simp only [List.mem_cons, List.not_mem_nil, or_false] at hx
    subst hx
    exact opt_add _ (HG.out.on Q2.out)) VB.out)
  go_upto_region 4 with (go_at_call 12; refine HD1.out.mono ?_; rintro e9 w3 ⟨hq9, vd, rfl, hs9⟩; have Q3 := hid (Q2.out.trans hq9); have VD := hid hs9; have ZC := hid (ZB.out.on hq9); clear hq9 hs9)
  clear HD1 VB ZB Q2
  go_upto_region 5 with (go_at_call 12; refine (decode_nil w3).mono ?_; rintro e9 w4 ⟨rfl, hq9⟩; have Q4 := hid (Q3.out.trans hq9); have VE := hid (VD.out.on hq9); have ZD := hid (ZC.out.on hq9); clear hq9)
  clear VD ZC Q3
  have HE2 := hid (encode_t (.slice (some ⟨w4.heap.size, 0, none⟩) 1 1) [xZero] mb ob (w4.alloc (.cells (flat Rv.L [xZero]).toArray 54)) (sl_lit23 w4 [xZero] (by decide)) (fun x hx => by
    simp only [List.mem_cons, List.not_mem_nil, or_false] at hx
    subst hx
    exact opt_zero _))
  go_upto_region 6 with (first
    | (with_reducible refine wpl_buildt 54 _ (by with_unfolding_all rfl) (by with_unfolding_all rfl) xZero.L.toArray (by kernel_rfl) ?_)
    | (with_reducible refine wpl_bsl 1 _ (by with_unfolding_all rfl) (by with_unfolding_all rfl) [xZero] (by decide) (by kernel_rfl) ?_)
    | (go_at_call 10; refine HE2.out.mono ?_; rintro e9 w5 ⟨hq9, _, he9⟩; have hh := he9 rfl; subst hh; have Q5 := hid ((Q4.out.alloc (.cells (flat Rv.L [xZero]).toArray 54)).trans hq9); have VF := hid ((VE.out.on ((Q.refl _).alloc (.cells (flat Rv.L [xZero]).toArray 54))).on hq9); have ZE := hid ((ZD.out.on ((Q.refl _).alloc (.cells (flat Rv.L [xZero]).toArray 54))).on hq9); clear hq9 he9))
  clear HE2 VE ZD Q4
  obtain ⟨g, off, cap, e, _, _, hc⟩ := VF.out.at (i := 0) (by simp)
  cases e
  have HA : Hid (∀ V, Q w5 V → V.rangeAt g off xAdd.L ∧ V.rangeAt p 0 xAdd.L) := hid (fun V q => ⟨fun j u hu => by
    have := (hc.on q) j u hu
    simpa using this, fun j u hu => by
    have := (ZE.out.on q).c j u hu
    simpa using this⟩)
  clear hc VF ZE
  refine wp_region_any (by kernel_rfl) ?_
  change wpAny _ _ _ _ _ _ _ (World.drew _)
  refine wpAny_ready (rs := [0]) (by kernel_rfl) (by simp) ?_
  refine AllReady.cons rfl (fun K hK => ?_) AllReady.nil
  go_simp
  refine hK _ _ ?_
  clear hK K
  refine wpAny_ready (rs := [1]) (by kernel_rfl) (by simp) ?_
  refine AllReady.cons rfl (fun K hK => ?_) AllReady.nil
  go_simp
  refine hK _ _ ?_
  clear hK K
  refine wpAny_ready (rs := [2]) (by kernel_rfl) (by simp) ?_
  refine AllReady.cons rfl (fun K hK => ?_) AllReady.nil
  go_simp
  refine hK _ _ ?_
  clear hK K
  refine wpAny_ready (rs := [3]) (by kernel_rfl) (by simp) ?_
  refine AllReady.cons rfl (fun K hK => ?_) AllReady.nil
  go_simp
  refine hK _ _ ?_
  clear hK K
  refine wpAny_ready (rs := [4]) (by kernel_rfl) (by simp) ?_
  refine AllReady.cons rfl (fun K hK => ?_) AllReady.nil
  go_simp
  refine hK _ _ ?_
  clear hK K
  refine wpAny_ready (rs := [5]) (by kernel_rfl) (by simp) ?_
  refine AllReady.cons rfl (fun K hK => ?_) AllReady.nil
  go_simp
  refine hK _ _ ?_
  clear hK K
  refine wpAny_ready (rs := [6]) (by kernel_rfl) (by simp) ?_
  refine AllReady.cons rfl (fun K hK => ?_) AllReady.nil
  go_simp
  refine hK _ _ ?_
  clear hK K
  refine wpAny_ready (rs := [7]) (by kernel_rfl) (by simp) ?_
  refine AllReady.cons rfl (fun K hK => ?_) AllReady.nil
  go_simp
  refine hK _ _ ?_
  clear hK K
  refine wpAny_ready (rs := [8]) (by kernel_rfl) (by simp) ?_
  refine AllReady.cons rfl (fun K hK => ?_) AllReady.nil
  go_simp
  refine hK _ _ ?_
  clear hK K
  refine wpAny_ready (rs := [9]) (by kernel_rfl) (by simp) ?_
  refine AllReady.cons rfl (fun K hK => ?_) AllReady.nil
  go_simp
  refine hK _ _ ?_
  clear hK K
  refine wpAny_ready (rs := [10]) (by kernel_rfl) (by simp) ?_
  refine AllReady.cons rfl (fun K hK => ?_) AllReady.nil
  go_simp
  refine hK _ _ ?_
  clear hK K
  refine wpAny_ready (rs := [11]) (by kernel_rfl) (by simp) ?_
  refine AllReady.cons rfl (fun K hK => ?_) AllReady.nil
  go_simp
  refine hK _ _ ?_
  clear hK K
  refine wpAny_ready (rs := [12, 15]) (by kernel_rfl) (by simp) ?_
  refine AllReady.cons rfl (fun K hK => ?_) (AllReady.cons rfl (fun K hK => ?_) AllReady.nil)
  · go_simp
    refine hK _ _ ?_
    clear hK K
    refine wpAny_ready (rs := [13, 15]) (by kernel_rfl) (by simp) ?_
    refine AllReady.cons rfl (fun K hK => ?_) (AllReady.cons rfl (fun K hK => ?_) AllReady.nil)
    · go_simp
      refine hK _ _ ?_
      clear hK K
      refine wpAny_ready (rs := [14, 15]) (by kernel_rfl) (by simp) ?_
      refine AllReady.cons rfl (fun K hK => ?_) (AllReady.cons rfl (fun K hK => ?_) AllReady.nil)
      · refine step_loadG (by rfl) _ (by rfl) g off (by rfl) xAdd (HA.out _ (Q.refl _).drew).1 (hK _ _ ?_)
        clear hK K
        refine wpAny_ready (rs := [15]) (by kernel_rfl) (by simp) ?_
        refine AllReady.cons rfl (fun K hK => ?_) AllReady.nil
        refine step_loadG (by rfl) _ (by rfl) p 0 (by rfl) xAdd (HA.out _ (Q.refl _).drew).2 (hK _ _ ?_)
        clear hK K
        refine wpAny_ready (rs := [16]) (by kernel_rfl) (by simp) ?_
        refine AllReady.cons rfl (fun K hK => ?_) AllReady.nil
        go_simp
        refine (eqop_add _).mono ?_
        rintro e9 y9 ⟨rfl, hq9⟩
        have Q9 := hid (Q5.out.trans (((Q.refl _).drew).trans hq9))
        clear hq9
        refine hK _ _ ?_
        clear hK K
        refine wpAny_ready (rs := [17]) (by kernel_rfl) (by simp) ?_
        refine AllReady.cons rfl (fun K hK => ?_) AllReady.nil
        go_simp
        refine hK _ _ ?_
        clear hK K
        refine wpAny_ready (rs := [18]) (by kernel_rfl) (by simp) ?_
        refine AllReady.cons rfl (fun K hK => ?_) AllReady.nil
        go_simp
        refine hK _ _ ?_
        clear hK K
        refine wpAny_ready (rs := [19]) (by kernel_rfl) (by simp) ?_
        refine AllReady.cons rfl (fun K hK => ?_) AllReady.nil
        go_simp
        refine hK _ _ ?_
        clear hK K
        refine wpAny_ready (rs := [20]) (by kernel_rfl) (by simp) ?_
        refine AllReady.cons rfl (fun K hK => ?_) AllReady.nil
        go_simp
        refine hK _ _ ?_
        clear hK K
        refine wpAny_ready (rs := [21]) (by kernel_rfl) (by simp) ?_
        refine AllReady.cons rfl (fun K hK => ?_) AllReady.nil
        go_simp
        refine hK _ _ ?_
        clear hK K
        refine wpAny_ready (rs := [22]) (by kernel_rfl) (by simp) ?_
        refine AllReady.cons rfl (fun K hK => ?_) AllReady.nil
        go_simp
        refine hK _ _ ?_
        clear hK K
        refine wpAny_ready (rs := [23]) (by kernel_rfl) (by simp) ?_
        refine AllReady.cons rfl (fun K hK => ?_) AllReady.nil
        go_simp
        refine hK _ _ ?_
        clear hK K
        refine wpAny_ready (rs := [24]) (by kernel_rfl) (by simp) ?_
        refine AllReady.cons rfl (fun K hK => ?_) AllReady.nil
        go_simp
        refine hK _ _ ?_
        clear hK K
        refine wpAny_ready (rs := [25]) (by kernel_rfl) (by simp) ?_
        refine AllReady.cons rfl (fun K hK => ?_) AllReady.nil
        go_simp
        refine hK _ _ ?_
        clear hK K
        refine wpAny_ready (rs := [26]) (by kernel_rfl) (by simp) ?_
        refine AllReady.cons rfl (fun K hK => ?_) AllReady.nil
        go_simp
        refine hK _ _ ?_
        clear hK K
        refine wpAny_ready (rs := [27]) (by kernel_rfl) (by simp) ?_
        refine AllReady.cons rfl (fun K hK => ?_) AllReady.nil
        go_simp
        refine hK _ _ ?_
        clear hK K
        refine wpAny_ready (rs := [28]) (by kernel_rfl) (by simp) ?_
        refine AllReady.cons rfl (fun K hK => ?_) AllReady.nil
        go_simp
        refine hK _ _ ?_
        clear hK K
        refine wpAny_ready (rs := [29]) (by kernel_rfl) (by simp) ?_
        refine AllReady.cons rfl (fun K hK => ?_) AllReady.nil
        go_simp
        refine hK _ _ ?_
        clear hK K
        refine wpAny_ready (rs := [30]) (by kernel_rfl) (by simp) ?_
        refine AllReady.cons rfl (fun K hK => ?_) AllReady.nil
        go_simp
        refine hK _ _ ?_
        clear hK K
        refine wpAny_done (by kernel_rfl) ?_ _
        go_wp2_with fail
        go_ret
        exact ⟨rfl, Q9.out⟩
      · refine step_loadG (by rfl) _ (by rfl) p 0 (by rfl) xAdd (HA.out _ (Q.refl _).drew).2 (hK _ _ ?_)
        clear hK K
        refine wpAny_ready (rs := [14]) (by kernel_rfl) (by simp) ?_
        refine AllReady.cons rfl (fun K hK => ?_) AllReady.nil
        refine step_loadG (by rfl) _ (by rfl) g off (by rfl) xAdd (HA.out _ (Q.refl _).drew).1 (hK _ _ ?_)
        clear hK K
        refine wpAny_ready (rs := [16]) (by kernel_rfl) (by simp) ?_
        refine AllReady.cons rfl (fun K hK => ?_) AllReady.nil
        go_simp
        refine (eqop_add _).mono ?_
        rintro e9 y9 ⟨rfl, hq9⟩
        have Q9 := hid (Q5.out.trans (((Q.refl _).drew).trans hq9))
        clear hq9
        refine hK _ _ ?_
        clear hK K
        refine wpAny_ready (rs := [17]) (by kernel_rfl) (by simp) ?_
        refine AllReady.cons rfl (fun K hK => ?_) AllReady.nil
        go_simp
        refine hK _ _ ?_
        clear hK K
        refine wpAny_ready (rs := [18]) (by kernel_rfl) (by simp) ?_
        refine AllReady.cons rfl (fun K hK => ?_) AllReady.nil
        go_simp
        refine hK _ _ ?_
        clear hK K
        refine wpAny_ready (rs := [19]) (by kernel_rfl) (by simp) ?_
        refine AllReady.cons rfl (fun K hK => ?_) AllReady.nil
        go_simp
        refine hK _ _ ?_
        clear hK K
        refine wpAny_ready (rs := [20]) (by kernel_rfl) (by simp) ?_
        refine AllReady.cons rfl (fun K hK => ?_) AllReady.nil
        go_simp
        refine hK _ _ ?_
        clear hK K
        refine wpAny_ready (rs := [21]) (by kernel_rfl) (by simp) ?_
        refine AllReady.cons rfl (fun K hK => ?_) AllReady.nil
        go_simp
        refine hK _ _ ?_
        clear hK K
        refine wpAny_ready (rs := [22]) (by kernel_rfl) (by simp) ?_
        refine AllReady.cons rfl (fun K hK => ?_) AllReady.nil
        go_simp
        refine hK _ _ ?_
        clear hK K
        refine wpAny_ready (rs := [23]) (by kernel_rfl) (by simp) ?_
        refine AllReady.cons rfl (fun K hK => ?_) AllReady.nil
        go_simp
        refine hK _ _ ?_
        clear hK K
        refine wpAny_ready (rs := [24]) (by kernel_rfl) (by simp) ?_
        refine AllReady.cons rfl (fun K hK => ?_) AllReady.nil
        go_simp
        refine hK _ _ ?_
        clear hK K
        refine wpAny_ready (rs := [25]) (by kernel_rfl) (by simp) ?_
        refine AllReady.cons rfl (fun K hK => ?_) AllReady.nil
        go_simp
        refine hK _ _ ?_
        clear hK K
        refine wpAny_ready (rs := [26]) (by kernel_rfl) (by simp) ?_
        refine AllReady.cons rfl (fun K hK => ?_) AllReady.nil
        go_simp
        refine hK _ _ ?_
        clear hK K
        refine wpAny_ready (rs := [27]) (by kernel_rfl) (by simp) ?_
        refine AllReady.cons rfl (fun K hK => ?_) AllReady.nil
        go_simp
        refine hK _ _ ?_
        clear hK K
        refine wpAny_ready (rs := [28]) (by kernel_rfl) (by simp) ?_
        refine AllReady.cons rfl (fun K hK => ?_) AllReady.nil
        go_simp
        refine hK _ _ ?_
        clear hK K
        refine wpAny_ready (rs := [29]) (by kernel_rfl) (by simp) ?_
        refine AllReady.cons rfl (fun K hK => ?_) AllReady.nil
        go_simp
        refine hK _ _ ?_
        clear hK K
        refine wpAny_ready (rs := [30]) (by kernel_rfl) (by simp) ?_
        refine AllReady.cons rfl (fun K hK => ?_) AllReady.nil
        go_simp
        refine hK _ _ ?_
        clear hK K
        refine wpAny_done (by kernel_rfl) ?_ _
        go_wp2_with fail
        go_ret
        exact ⟨rfl, Q9.out⟩
    · refine step_loadG (by rfl) _ (by rfl) p 0 (by rfl) xAdd (HA.out _ (Q.refl _).drew).2 (hK _ _ ?_)
      clear hK K
      refine wpAny_ready (rs := [13]) (by kernel_rfl) (by simp) ?_
      refine AllReady.cons rfl (fun K hK => ?_) AllReady.nil
      go_simp
      refine hK _ _ ?_
      clear hK K
      refine wpAny_ready (rs := [14]) (by kernel_rfl) (by simp) ?_
      refine AllReady.cons rfl (fun K hK => ?_) AllReady.nil
      refine step_loadG (by rfl) _ (by rfl) g off (by rfl) xAdd (HA.out _ (Q.refl _).drew).1 (hK _ _ ?_)
      clear hK K
      refine wpAny_ready (rs := [16]) (by kernel_rfl) (by simp) ?_
      refine AllReady.cons rfl (fun K hK => ?_) AllReady.nil
      go_simp
      refine (eqop_add _).mono ?_
      rintro e9 y9 ⟨rfl, hq9⟩
      have Q9 := hid (Q5.out.trans (((Q.refl _).drew).trans hq9))
      clear hq9
      refine hK _ _ ?_
      clear hK K
      refine wpAny_ready (rs := [17]) (by kernel_rfl) (by simp) ?_
      refine AllReady.cons rfl (fun K hK => ?_) AllReady.nil
      go_simp
      refine hK _ _ ?_
      clear hK K
      refine wpAny_ready (rs := [18]) (by kernel_rfl) (by simp) ?_
      refine AllReady.cons rfl (fun K hK => ?_) AllReady.nil
      go_simp
      refine hK _ _ ?_
      clear hK K
      refine wpAny_ready (rs := [19]) (by kernel_rfl) (by simp) ?_
      refine AllReady.cons rfl (fun K hK => ?_) AllReady.nil
      go_simp
      refine hK _ _ ?_
      clear hK K
      refine wpAny_ready (rs := [20]) (by kernel_rfl) (by simp) ?_
      refine AllReady.cons rfl (fun K hK => ?_) AllReady.nil
      go_simp
      refine hK _ _ ?_
      clear hK K
      refine wpAny_ready (rs := [21]) (by kernel_rfl) (by simp) ?_
      refine AllReady.cons rfl (fun K hK => ?_) AllReady.nil
      go_simp
      refine hK _ _ ?_
      clear hK K
      refine wpAny_ready (rs := [22]) (by kernel_rfl) (by simp) ?_
      refine AllReady.cons rfl (fun K hK => ?_) AllReady.nil
      go_simp
      refine hK _ _ ?_
      clear hK K
      refine wpAny_ready (rs := [23]) (by kernel_rfl) (by simp) ?_
      refine AllReady.cons rfl (fun K hK => ?_) AllReady.nil
      go_simp
      refine hK _ _ ?_
      clear hK K
      refine wpAny_ready (rs := [24]) (by kernel_rfl) (by simp) ?_
      refine AllReady.cons rfl (fun K hK => ?_) AllReady.nil
      go_simp
      refine hK _ _ ?_
      clear hK K
      refine wpAny_ready (rs := [25]) (by kernel_rfl) (by simp) ?_
      refine AllReady.cons rfl (fun K hK => ?_) AllReady.nil
      go_simp
      refine hK _ _ ?_
      clear hK K
      refine wpAny_ready (rs := [26]) (by kernel_rfl) (by simp) ?_
      refine AllReady.cons rfl (fun K hK => ?_) AllReady.nil
      go_simp
      refine hK _ _ ?_
      clear hK K
      refine wpAny_ready (rs := [27]) (by kernel_rfl) (by simp) ?_
      refine AllReady.cons rfl (fun K hK => ?_) AllReady.nil
      go_simp
      refine hK _ _ ?_
      clear hK K
      refine wpAny_ready (rs := [28]) (by kernel_rfl) (by simp) ?_
      refine AllReady.cons rfl (fun K hK => ?_) AllReady.nil
      go_simp
      refine hK _ _ ?_
      clear hK K
      refine wpAny_ready (rs := [29]) (by kernel_rfl) (by simp) ?_
      refine AllReady.cons rfl (fun K hK => ?_) AllReady.nil
      go_simp
      refine hK _ _ ?_
      clear hK K
      refine wpAny_ready (rs := [30]) (by kernel_rfl) (by simp) ?_
      refine AllReady.cons rfl (fun K hK => ?_) AllReady.nil
      go_simp
      refine hK _ _ ?_
      clear hK K
      refine wpAny_done (by kernel_rfl) ?_ _
      go_wp2_with fail
      go_ret
      exact ⟨rfl, Q9.out⟩
  · refine step_loadG (by rfl) _ (by rfl) p 0 (by rfl) xAdd (HA.out _ (Q.refl _).drew).2 (hK _ _ ?_)
    clear hK K
    refine wpAny_ready (rs := [12]) (by kernel_rfl) (by simp) ?_
    refine AllReady.cons rfl (fun K hK => ?_) AllReady.nil
    go_simp
    refine hK _ _ ?_
    clear hK K
    refine wpAny_ready (rs := [13]) (by kernel_rfl) (by simp) ?_
    refine AllReady.cons rfl (fun K hK => ?_) AllReady.nil
    go_simp
    refine hK _ _ ?_
    clear hK K
    refine wpAny_ready (rs := [14]) (by kernel_rfl) (by simp) ?_
    refine AllReady.cons rfl (fun K hK => ?_) AllReady.nil
    refine step_loadG (by rfl) _ (by rfl) g off (by rfl) xAdd (HA.out _ (Q.refl _).drew).1 (hK _ _ ?_)
    clear hK K
    refine wpAny_ready (rs := [16]) (by kernel_rfl) (by simp) ?_
    refine AllReady.cons rfl (fun K hK => ?_) AllReady.nil
    go_simp
    refine (eqop_add _).mono ?_
    rintro e9 y9 ⟨rfl, hq9⟩
    have Q9 := hid (Q5.out.trans (((Q.refl _).drew).trans hq9))
    clear hq9
    refine hK _ _ ?_
    clear hK K
    refine wpAny_ready (rs := [17]) (by kernel_rfl) (by simp) ?_
    refine AllReady.cons rfl (fun K hK => ?_) AllReady.nil
    go_simp
    refine hK _ _ ?_
    clear hK K
    refine wpAny_ready (rs := [18]) (by kernel_rfl) (by simp) ?_
    refine AllReady.cons rfl (fun K hK => ?_) AllReady.nil
    go_simp
    refine hK _ _ ?_
    clear hK K
    refine wpAny_ready (rs := [19]) (by kernel_rfl) (by simp) ?_
    refine AllReady.cons rfl (fun K hK => ?_) AllReady.nil
    go_simp
    refine hK _ _ ?_
    clear hK K
    refine wpAny_ready (rs := [20]) (by kernel_rfl) (by simp) ?_
    refine AllReady.cons rfl (fun K hK => ?_) AllReady.nil
    go_simp
    refine hK _ _ ?_
    clear hK K
    refine wpAny_ready (rs := [21]) (by kernel_rfl) (by simp) ?_
    refine AllReady.cons rfl (fun K hK => ?_) AllReady.nil
    go_simp
    refine hK _ _ ?_
    clear hK K
    refine wpAny_ready (rs := [22]) (by kernel_rfl) (by simp) ?_
    refine AllReady.cons rfl (fun K hK => ?_) AllReady.nil
    go_simp
    refine hK _ _ ?_
    clear hK K
    refine wpAny_ready (rs := [23]) (by kernel_rfl) (by simp) ?_
    refine AllReady.cons rfl (fun K hK => ?_) AllReady.nil
    go_simp
    refine hK _ _ ?_
    clear hK K
    refine wpAny_ready (rs := [24]) (by kernel_rfl) (by simp) ?_
    refine AllReady.cons rfl (fun K hK => ?_) AllReady.nil
    go_simp
    refine hK _ _ ?_
    clear hK K
    refine wpAny_ready (rs := [25]) (by kernel_rfl) (by simp) ?_
    refine AllReady.cons rfl (fun K hK => ?_) AllReady.nil
    go_simp
    refine hK _ _ ?_
    clear hK K
    refine wpAny_ready (rs := [26]) (by kernel_rfl) (by simp) ?_
    refine AllReady.cons rfl (fun K hK => ?_) AllReady.nil
    go_simp
    refine hK _ _ ?_
    clear hK K
    refine wpAny_ready (rs := [27]) (by kernel_rfl) (by simp) ?_
    refine AllReady.cons rfl (fun K hK => ?_) AllReady.nil
    go_simp
    refine hK _ _ ?_
    clear hK K
    refine wpAny_ready (rs := [28]) (by kernel_rfl) (by simp) ?_
    refine AllReady.cons rfl (fun K hK => ?_) AllReady.nil
    go_simp
    refine hK _ _ ?_
    clear hK K
    refine wpAny_ready (rs := [29]) (by kernel_rfl) (by simp) ?_
    refine AllReady.cons rfl (fun K hK => ?_) AllReady.nil
    go_simp
    refine hK _ _ ?_
    clear hK K
    refine wpAny_ready (rs := [30]) (by kernel_rfl) (by simp) ?_
    refine AllReady.cons rfl (fun K hK => ?_) AllReady.nil
    go_simp
    refine hK _ _ ?_
    clear hK K
    refine wpAny_done (by kernel_rfl) ?_ _
    go_wp2_with fail
    go_ret
    exact ⟨rfl, Q9.out⟩
end Go.Proofs.YtcgddnliiondoaaGreatDoor
