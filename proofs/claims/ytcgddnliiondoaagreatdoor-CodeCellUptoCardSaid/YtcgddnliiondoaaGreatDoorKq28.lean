/- CodeCell's law: its first part, the two cells cut; Cells and. -/
import Derived.Test.YtcgddnliiondoaaGreatDoorKq27
import Derived.Test.YtcgddnliiondoaaGreatDoorKq26
import Derived.Test.YtcgddnliiondoaaGreatDoorKq16
import Derived.Test.YtcgddnliiondoaaGreatDoorKq25
set_option linter.unusedVariables false
set_option linter.unusedSimpArgs false
set_option maxRecDepth 100000
set_option maxHeartbeats 8000000
namespace Go.Proofs.YtcgddnliiondoaaGreatDoor
open Go.RowKit
open IV
set_option linter.unusedVariables false
set_option linter.unusedSimpArgs false
structure CvI (W : World) (x : Cv) (X : Ex) : Prop where
  t : RdI W X x.tr
  sm : Sm (cutE X 1 220).1
  nd : nodes (cutE X 1 220).1 ≤ 1000
  rn : Rn (cutE X 1 220).1
  vr : V.fitB x.vn = true
structure CvG (W : World) (x : Cv) (X : Ex) (b3 b4 : Nat) : Prop where
  t : Rdg (fun b => b ≠ b3 ∧ b ≠ b4) W X x.tr
  vt : x.vt.size ≤ 1000000
  sm : Sm X
  nd : nodes X ≤ 1000
  rn : Rn X
  vr : V.fitB x.vn = true
theorem CvG.r {W : World} {x : Cv} {X : Ex} {b3 b4 : Nat} (h : CvG W x X b3 b4) : CvR W x X := ⟨Rdg.rd _ _ h.t, h.vt, h.sm, h.nd, h.rn, h.vr⟩
theorem CvG.on {W V : World} {x : Cv} {X : Ex} {b3 b4 : Nat} (h : CvG W x X b3 b4) (q : Q W V) : CvG V x X b3 b4 := ⟨Rdg.on (Qx.of q) (p := b3) (fun b hb => hb.1) _ _ h.t, h.vt, h.sm, h.nd, h.rn, h.vr⟩
theorem CvG.s3 {W : World} {x : Cv} {X : Ex} {b3 b4 : Nat} (h : CvG W x X b3 b4) (C : Array Value) : CvG (W.setRow b3 C) x X b3 b4 := ⟨Rdg.on (qx_setRow W b3 C) (fun b hb => hb.1) _ _ h.t, h.vt, h.sm, h.nd, h.rn, h.vr⟩
theorem CvG.s4 {W : World} {x : Cv} {X : Ex} {b3 b4 : Nat} (h : CvG W x X b3 b4) (C : Array Value) : CvG (W.setRow b4 C) x X b3 b4 := ⟨Rdg.on (qx_setRow W b4 C) (fun b hb => hb.2) _ _ h.t, h.vt, h.sm, h.nd, h.rn, h.vr⟩
theorem cut_cv {x : Cv} {X : Ex} {w W : World} {b3 b4 : Nat} (h : CvI w x X) (q : Q w W) (h3 : w.heap.size ≤ b3 ∧ b3 < W.heap.size) (h4 : w.heap.size ≤ b4 ∧ b4 < W.heap.size) : Calls Tryz.prog 14 #[.agg x.a] W fun e V => ∃ y : Cv, e = .returned (.agg y.a) ∧ CvG V y (cutE X 1 220).1 b3 b4 ∧ Q W V := by
  refine (cutc_any x.f x.vk x.vn x.vt x.vb x.ve x.k x.m x.t x.bb x.er x.a1 x.l1 x.c1 x.a2 x.l2 x.c2 X w W h.t q).mono ?_
  rintro e V ⟨k8, m8, t8, bb8, er8, a18, l18, c18, a28, l28, c28, rfl, h1, h2⟩
  exact ⟨⟨x.f, x.vk, x.vn, cuT x.vt, x.vb, x.ve, k8, m8, t8, bb8, er8, a18, l18, c18, a28, l28, c28⟩, rfl, ⟨Rdg.mono (fun b hb => by omega) _ _ h1, by have := cuT_sz x.vt; show (cuT x.vt).size ≤ _; omega, h.sm, h.nd, h.rn, h.vr⟩, h2⟩
section
variable {ops : Array Oper} {Q9 : Exit → Act → World → Prop} {a0 : Act} {ds : List Nat} {J : (Nat → Value) → World → Prop} {v : Nat → Value} {w : World} {i : Nat} {o : Oper} {d t t' q : Nat} {x : Cv} {old : Array Value}
theorem opw_loadB (x : Cv) (ho : ops[i]? = some o) (hg : o.guard = none) (hop : o.op = .load 42 (.tmp t)) (hd : o.dst = some d) (hm : d ∈ ds) (hx : (frm a0 ds v).eval (.tmp t) = .pointer (some ⟨q, 0, none⟩)) (hb : Bq w q x.a 42) (hI : J (up v d (.agg x.a)) w) :
    WO Tryz.prog ops Q9 i (Ks a0 ds J) (frm a0 ds v) w :=
  opw_wp ho hg (wp_load_row 42 (.tmp t) hop q hx 42 x.a (0, 0) _ hb.h Tryz.underlying42 rfl info42 (ks_put hd hm hI))
theorem opw_storeB (x : Cv) (ho : ops[i]? = some o) (hg : o.guard = none) (hop : o.op = .store 42 (.tmp t) (.tmp t')) (hd : o.dst = none) (hx : (frm a0 ds v).eval (.tmp t) = .pointer (some ⟨q, 0, none⟩)) (hy : (frm a0 ds v).eval (.tmp t') = .agg x.a) (hb : Bq w q old 42) (hs : old.size = 13) (hI : J v (w.setRow q x.a)) :
    WO Tryz.prog ops Q9 i (Ks a0 ds J) (frm a0 ds v) w :=
  opw_wp ho hg (wp_store_row 42 (.tmp t) (.tmp t') hop q x.a hx hy 42 old hb.h info42 hs x.one (ks_non hd hI))
end
structure RI (w : World) (x y : Cv) (X Y : Ex) (b3 b4 : Nat) (L : Nat → Bool) (v : Nat → Value) (W : World) : Prop where
  q : Q w W
  l3 : b3 < W.heap.size ∧ b4 < W.heap.size
  m1 : L 1 = true → L 0 = true
  m4 : L 4 = true → L 1 = true
  m3 : L 3 = true → L 2 = true
  m5 : L 5 = true → L 3 = true
  r0 : L 0 = true → v 19 = .agg x.a
  r2 : L 2 = true → v 21 = .agg y.a
  r1 : L 1 = true → ∃ x' : Cv, v 20 = .agg x'.a ∧ CvG W x' X b3 b4 ∧ (L 4 = true → Bq W b3 x'.a 42)
  r3 : L 3 = true → ∃ y' : Cv, v 22 = .agg y'.a ∧ CvG W y' Y b3 b4 ∧ (L 5 = true → Bq W b4 y'.a 42)
  n4 : L 4 = false → Bq W b3 x.a 42
  n5 : L 5 = false → Bq W b4 y.a 42
theorem lf {L : Nat → Bool} {i j : Nat} (h : L i = true → L j = true) (hj : L j = false) : L i = false := by
  cases e : L i
  · rfl
  · rw [h e] at hj; cases hj
section
variable {w W W' : World} {x y z : Cv} {X Y : Ex} {b3 b4 : Nat} {L : Nat → Bool} {v : Nat → Value}
theorem RI.s0 (J : RI w x y X Y b3 b4 L v W) : RI w x y X Y b3 b4 (ul L 0) (up v 19 (.agg x.a)) W := ⟨J.q, J.l3, fun _ => rfl, J.m4, J.m3, J.m5, fun _ => rfl, J.r2, J.r1, J.r3, J.n4, J.n5⟩
theorem RI.s2 (J : RI w x y X Y b3 b4 L v W) : RI w x y X Y b3 b4 (ul L 2) (up v 21 (.agg y.a)) W := ⟨J.q, J.l3, J.m1, J.m4, fun _ => rfl, J.m5, J.r0, fun _ => rfl, J.r1, J.r3, J.n4, J.n5⟩
theorem RI.s1 (J : RI w x y X Y b3 b4 L v W) (hL : L 1 = false) (h0 : L 0 = true) (q : Q W W') (hz : CvG W' z X b3 b4) : RI w x y X Y b3 b4 (ul L 1) (up v 20 (.agg z.a)) W' :=
  ⟨J.q.trans q, by have := q.size; have := J.l3; omega, fun _ => h0, fun _ => rfl, J.m3, J.m5, J.r0, J.r2, fun _ => ⟨z, rfl, hz, fun h => absurd (show L 4 = true from h) (by rw [lf J.m4 hL]; exact Bool.false_ne_true)⟩, fun h => by
    obtain ⟨y', e, g, k⟩ := J.r3 h
    exact ⟨y', e, g.on q, fun h => (k h).on q⟩, fun h => (J.n4 h).on q, fun h => (J.n5 h).on q⟩
theorem RI.s3 (J : RI w x y X Y b3 b4 L v W) (hL : L 3 = false) (h2 : L 2 = true) (q : Q W W') (hz : CvG W' z Y b3 b4) : RI w x y X Y b3 b4 (ul L 3) (up v 22 (.agg z.a)) W' :=
  ⟨J.q.trans q, by have := q.size; have := J.l3; omega, J.m1, J.m4, fun _ => h2, fun _ => rfl, J.r0, J.r2, fun h => by
    obtain ⟨y', e, g, k⟩ := J.r1 h
    exact ⟨y', e, g.on q, fun h => (k h).on q⟩, fun _ => ⟨z, rfl, hz, fun h => absurd (show L 5 = true from h) (by rw [lf J.m5 hL]; exact Bool.false_ne_true)⟩, fun h => (J.n4 h).on q, fun h => (J.n5 h).on q⟩
theorem RI.s4 (J : RI w x y X Y b3 b4 L v W) (hL : L 4 = false) (h1 : L 1 = true) (hb : w.heap.size ≤ b3) (hne : b4 ≠ b3) (hv : v 20 = .agg z.a) (hz : CvG W z X b3 b4) : RI w x y X Y b3 b4 (ul L 4) v (W.setRow b3 z.a) :=
  ⟨(qx_setRow W b3 z.a).qq J.q hb, by have := J.l3; simpa [World.setRow] using this, J.m1, fun _ => h1, J.m3, J.m5, J.r0, J.r2, fun _ => ⟨z, hv, hz.s3 _, fun _ => (J.n4 hL).row z.a⟩, fun h => by
    obtain ⟨y', e, g, k⟩ := J.r3 h
    exact ⟨y', e, g.s3 _, fun h => (k h).orow hne _⟩, fun h => absurd (show true = false from h) (by decide), fun h => (J.n5 h).orow hne _⟩
theorem RI.s5 (J : RI w x y X Y b3 b4 L v W) (hL : L 5 = false) (h3 : L 3 = true) (hb : w.heap.size ≤ b4) (hne : b3 ≠ b4) (hv : v 22 = .agg z.a) (hz : CvG W z Y b3 b4) : RI w x y X Y b3 b4 (ul L 5) v (W.setRow b4 z.a) :=
  ⟨(qx_setRow W b4 z.a).qq J.q hb, by have := J.l3; simpa [World.setRow] using this, J.m1, J.m4, J.m3, fun _ => h3, J.r0, J.r2, fun h => by
    obtain ⟨y', e, g, k⟩ := J.r1 h
    exact ⟨y', e, g.s4 _, fun h => (k h).orow hne _⟩, fun _ => ⟨z, hv, hz.s4 _, fun _ => (J.n5 hL).row z.a⟩, fun h => (J.n4 h).orow hne _, fun h => absurd (show true = false from h) (by decide)⟩
end
theorem news_sl {W : World} {ad : Addr} {n c : Nat} {L : List UInt8} (h : Sl eb 1 W (.slice (some ad) n c) L) : ∀ j u, (bc L)[j]? = some u → W.cell? (ad.add j) = some u := by
  intro j u hu
  have hj : j < L.length := by have := (List.getElem?_eq_some_iff.1 hu).1; rwa [bc_len] at this
  obtain ⟨b, off, cap, e, _, _, hc⟩ := h.at hj
  injection e with e1 e2 e3
  injection e1 with e1
  subst e1
  have h9 := hc 0 (.int .u8 L[j].toNat) rfl
  rw [add_lit]
  have hu' : u = .int .u8 L[j].toNat := by
    unfold bc at hu
    rw [List.getElem?_map, List.getElem?_eq_getElem hj] at hu
    exact (Option.some.inj hu).symm
  rw [hu']
  simpa using h9
theorem wpl_loadgB {w : World} {ops : Array Oper} {rest : List Oper} {o : Oper} {a : Act} {Q : Exit → Act → World → Prop} (x : Operand) (ho : o.op = .load 42 x) (hw : Region.wanted o (yielded ops a.tmps) = true)
    (g : Nat) (hx : a.eval x = .pointer (some ⟨g, 0, none⟩)) (C : Array Value) (hg : Bq w g C 42) (hi : (Tryz.prog.info? 42).map (·.size) = some C.size)
    (h : wpList Tryz.prog ops Q rest (a.put o.dst (.agg C)) w) : wpList Tryz.prog ops Q (o :: rest) a w := by
  simp only [wpList, hw, if_true]
  exact .inl (wp_load_row 42 x ho g hx 42 C (0, 0) _ hg.h Tryz.underlying42 rfl hi h)
theorem encC_pos (f : Bool) (vk n : Int) (t : List UInt8) (b : Bool) (e : Int) (X : Ex) : 0 < (encC f vk n t b e X).length := by
  have h1 := vn_pos 5
  have h2 := vn_pos vk.toNat
  unfold encC
  split <;> rw [List.length_append] <;> omega
theorem sl_n {W : World} {a : Option Addr} {n c : Nat} {D : List UInt8} (h : Sl eb 1 W (.slice a n c) D) : n = D.length ∧ n ≤ c := by
  obtain ⟨a', c', e, h1, _⟩ := h
  cases e
  exact ⟨rfl, h1⟩
theorem own_bc {W : World} {B : Nat} {v : Value} {L : List UInt8} (h : W.ownsRow B 5 1 v (0 + L.length) ([] ++ bc L)) : Own eb 5 1 B W v L := by
  unfold Own
  rw [flat_eb]
  simpa using h
theorem same_ex (x y : Cv) (X Y : Ex) : ∃ b : Bool, b = true ↔ x.same y X Y := by
  rcases Classical.em (x.same y X Y) with h | h
  · exact ⟨true, fun _ => h, fun _ => rfl⟩
  · exact ⟨false, fun e => absurd e Bool.false_ne_true, fun e => absurd e h⟩
theorem bc_one (L : List UInt8) : ∀ u ∈ bc L, u.oneCell' = true := by
  intro u hu
  unfold bc at hu
  obtain ⟨b, _, rfl⟩ := List.mem_map.1 hu
  rfl
theorem own_eb {W : World} {B n : Nat} {v : Value} {L : List UInt8} (h : W.ownsRow B 5 1 v n (bc L)) (hn : n = L.length) : Sl eb 1 W v L := by
  subst hn
  exact Own.sl (e := 5) (B := B) (by unfold Own; rw [flat_eb]; exact h) eb_len (by decide)
theorem inf_of5 : ∃ i, Tryz.prog.info? 5 = some i ∧ i.zero = some (.int .u8 0) ∧ i.size = 1 ∧ i.bytes = 1 := by
  have h := info5w
  cases e : Tryz.prog.info? 5 with
  | none => rw [e] at h; cases h
  | some i =>
    rw [e] at h
    simp only [Option.map_some, Option.some.injEq, Prod.mk.injEq] at h
    exact ⟨i, rfl, h.1, h.2.1, h.2.2⟩
set_option maxHeartbeats 16000000 in
theorem codecell_any (x y : Cv) (X0 Y0 : Ex) (u : Value) (D0 : List UInt8) (w : World) (hg : Gd w) (hx : CvI w x X0) (hy : CvI w y Y0) (hu : Sl eb 1 w u D0) (hsh : ∀ n c, u = .slice none n c → c = 0) : Calls Tryz.prog 6 #[.agg x.a, .agg y.a, u] w fun e V' => e = .returned (.bool true) ∧ Q w V' := by
  have HG := hid hg
  have HXI := hid hx
  have HYI := hid hy
  have HU := hid hu
  obtain ⟨ao, cap, rfl, _, _⟩ := hu.len
  have HSH : Hid (ao = none → cap = 0) := hid (fun e => hsh _ _ (by rw [e]))
  clear hg hx hy hu hsh
  generalize hn0 : D0.length = n0 at HU ⊢
  go_enter Tryz.func6, Tryz.ntmps6
  go_upto_region 1 with fail
  obtain ⟨b3, e3⟩ : ∃ b3, b3 = w.heap.size := ⟨_, rfl⟩
  obtain ⟨b4, e4⟩ : ∃ b4, b4 = w.heap.size + 1 := ⟨_, rfl⟩
  have Z3 : Hid (Bq ((w.alloc (.cells x.a 42)).alloc (.cells y.a 42)) b3 x.a 42) := hid ((e3 ▸ bq_new w x.a 42).on ((Q.refl _).alloc _))
  have Z4 : Hid (Bq ((w.alloc (.cells x.a 42)).alloc (.cells y.a 42)) b4 y.a 42) := hid (by
    have h := bq_new (w.alloc (.cells x.a 42)) y.a 42
    rwa [show (w.alloc (.cells x.a 42)).heap.size = b4 by rw [e4]; simp] at h)
  have Q1 : Hid (Q w ((w.alloc (.cells x.a 42)).alloc (.cells y.a 42))) := hid (((Q.refl w).alloc _).alloc _)
  rw [← e4, ← e3]
  have hb3 : w.heap.size ≤ b3 := by omega
  have hb4 : w.heap.size ≤ b4 := by omega
  have hne : b4 ≠ b3 := by omega
  clear e3 e4
  generalize (w.alloc (.cells x.a 42)).alloc (.cells y.a 42) = w1 at Z3 Z4 Q1 ⊢
  go_upto_region 4 with (go_at_call 8; refine (begun_any _ (HG.out.on Q1.out)).mono ?_; rintro e9 w2 ⟨rfl, q9⟩; have Q2 := hid (Q1.out.trans q9); have Z32 := hid (Z3.out.on q9); have Z42 := hid (Z4.out.on q9); clear q9)
  clear Z3 Z4 Q1
  have hl3 : b3 < w2.heap.size ∧ b4 < w2.heap.size := ⟨Z32.out.l, Z42.out.l⟩
  refine wp_region_invw (by kernel_rfl) [19, 20, 21, 22] (RI w x y (cutE X0 1 220).1 (cutE Y0 1 220).1 b3 b4) (by kernel_rfl) (steps_list ⟨?o0, ?o1, ?o2, ?o3, ?o4, ?o5, trivial⟩) ⟨Q2.out.drew, hl3, fun h => absurd h Bool.false_ne_true, fun h => absurd h Bool.false_ne_true, fun h => absurd h Bool.false_ne_true, fun h => absurd h Bool.false_ne_true, fun h => absurd h Bool.false_ne_true, fun h => absurd h Bool.false_ne_true, fun h => absurd h Bool.false_ne_true, fun h => absurd h Bool.false_ne_true, fun _ => Z32.out.on (Q.refl _).drew, fun _ => Z42.out.on (Q.refl _).drew⟩ ?rest
  case o0 =>
    intro L v W J hL hd
    exact opw_loadB x rfl rfl rfl rfl (by decide) rfl (J.n4 (lf J.m4 (lf J.m1 hL))) J.s0
  case o2 =>
    intro L v W J hL hd
    exact opw_loadB y rfl rfl rfl rfl (by decide) rfl (J.n5 (lf J.m5 (lf J.m3 hL))) J.s2
  case o1 =>
    intro L v W J hL hd
    have h0 : v 19 = .agg x.a := J.r0 (hd 0 (by decide))
    refine opw_call rfl rfl rfl (by decide) (by simp only [frm, List.foldl_cons, List.foldl_nil, List.setIfInBounds_toArray, List.set_cons_zero, List.set_cons_succ]; (go_simp) <;> (first | exact ⟨⟨rfl, rfl⟩, rfl⟩ | exact ⟨rfl, rfl⟩ | with_reducible rfl)) ?_
    refine (cut_cv HXI.out J.q ⟨hb3, J.l3.1⟩ ⟨hb4, J.l3.2⟩).mono ?_
    rintro e W1 ⟨z, rfl, hz, q1⟩
    exact ⟨_, rfl, J.s1 hL (hd 0 (by decide)) q1 hz⟩
  case o3 =>
    intro L v W J hL hd
    have h0 : v 21 = .agg y.a := J.r2 (hd 2 (by decide))
    refine opw_call rfl rfl rfl (by decide) (by simp only [frm, List.foldl_cons, List.foldl_nil, List.setIfInBounds_toArray, List.set_cons_zero, List.set_cons_succ]; (go_simp) <;> (first | exact ⟨⟨rfl, rfl⟩, rfl⟩ | exact ⟨rfl, rfl⟩ | with_reducible rfl)) ?_
    refine (cut_cv HYI.out J.q ⟨hb3, J.l3.1⟩ ⟨hb4, J.l3.2⟩).mono ?_
    rintro e W1 ⟨z, rfl, hz, q1⟩
    exact ⟨_, rfl, J.s3 hL (hd 2 (by decide)) q1 hz⟩
  case o4 =>
    intro L v W J hL hd
    obtain ⟨z, hv, hz, _⟩ := J.r1 (hd 1 (by decide))
    exact opw_storeB z rfl rfl rfl rfl rfl ((frm_eval (by decide) (by rfl)).trans hv) (J.n4 hL) x.size (J.s4 hL (hd 1 (by decide)) hb3 hne hv hz)
  case o5 =>
    intro L v W J hL hd
    obtain ⟨z, hv, hz, _⟩ := J.r3 (hd 3 (by decide))
    exact opw_storeB z rfl rfl rfl rfl rfl ((frm_eval (by decide) (by rfl)).trans hv) (J.n5 hL) y.size (J.s5 hL (hd 3 (by decide)) hb4 (Ne.symm hne) hv hz)
  intro L v w3 hall J
  obtain ⟨c, hc1, hc2, hc3⟩ := J.r1 (hall 1 (by decide))
  obtain ⟨d, hd1, hd2, hd3⟩ := J.r3 (hall 3 (by decide))
  have ZC := hid (hc3 (hall 4 (by decide)))
  have ZD := hid (hd3 (hall 5 (by decide)))
  have HC := hid hc2.r
  have HD := hid hd2.r
  have QW := hid J.q
  clear hall J hc1 hc2 hc3 hd1 hd2 hd3 Z32 Z42 Q2 HXI HYI hl3
  generalize (cutE X0 1 220).1 = X at HC
  generalize (cutE Y0 1 220).1 = Y at HD
  have HI : Hid ((Tryz.prog.info? 42).map (·.size) = some 13) := hid info42
  have hnl : ¬ n0 < 0 := by omega
  simp only [frm, List.foldl_cons, List.foldl_nil, List.setIfInBounds_toArray, List.set_cons_zero, List.set_cons_succ]
  generalize v 19 = v19
  generalize v 20 = v20
  generalize v 21 = v21
  generalize v 22 = v22
  clear hn0
  have HE := hid (cellenc_cv (HG.out.on QW.out) HC.out)
  have HM := hid (fun V (q : Q w3 V) => rmay_cv (HC.out.on q))
  obtain ⟨n9, a9, c9, D, HD9, H40⟩ : ∃ (n9 : Nat) (a9 : Option Addr) (c9 : Nat) (D : List UInt8), Hid (Sl eb 1 w (.slice a9 n9 c9) D ∧ (a9 = none → c9 = 0)) ∧ Hid ((¬ (40 : Int) < (n0 : Int) → a9 = ao ∧ n9 = n0 ∧ c9 = cap) ∧ ((40 : Int) < (n0 : Int) → n9 = 40 ∧ ∀ W, (Instr.sliceAt 25 (.slice ao n0 cap) none (some (.int .i64 40)) none).run Tryz.prog W = .ok (.slice a9 n9 c9) W)) := by
    by_cases h40 : (40 : Int) < (n0 : Int)
    · obtain ⟨ao', cap', hv, h1, h2⟩ := HU.out.len
      injection hv with hv1 hv2 hv3
      obtain ⟨a1, c1, hr1, hs1⟩ := sl_to HU.out 40 (by omega)
      refine ⟨40, a1, c1, _, hid ⟨hs1, fun e => ?_⟩, hid ⟨fun h => absurd h40 h, fun _ => ⟨rfl, hr1.out⟩⟩⟩
      obtain ⟨b, off, cap9, e9, _⟩ := hs1.at (i := 0) (by rw [List.length_take]; omega)
      rw [e] at e9
      injection e9 with e9
      cases e9
    · exact ⟨n0, ao, cap, D0, hid ⟨HU.out, HSH.out⟩, hid ⟨fun _ => ⟨rfl, rfl, rfl⟩, fun h => absurd h h40⟩⟩
  by_cases h40 : (40 : Int) < (n0 : Int)
  · have hT := (H40.out.2 h40).2
    have H9 : Hid (n9 ≤ 100000) := hid (by have := (H40.out.2 h40).1; omega)
    clear H40 HU HSH
    go_upto_region 7 with fail
    cases hm : c.may X
    · rw [hm] at HE HM
      go_wp2_with (first
        | (with_reducible refine wpList_load_row (by with_unfolding_all rfl) 42 _ (by with_unfolding_all rfl) b3 (by with_unfolding_all rfl) 42 c.a (0, 0) _ ZC4.out.h Tryz.underlying42 (by with_unfolding_all rfl) (by with_unfolding_all exact HI.out) ?_)
        | (with_reducible refine wpList_load_row (by with_unfolding_all rfl) 42 _ (by with_unfolding_all rfl) b3 (by with_unfolding_all rfl) 42 c.a (0, 0) _ ZC.out.h Tryz.underlying42 (by with_unfolding_all rfl) (by with_unfolding_all exact HI.out) ?_)
        | (go_at_call 15; refine HE.out.mono ?_; rintro e9 w4 ⟨hq9, _, he9⟩; have hh := he9 rfl; subst hh; have Q4 := hid hq9; have ZC4 := hid (ZC.out.on hq9); clear hq9 he9)
        | (go_at_call 16; refine (HM.out _ Q4.out).mono ?_; rintro e9 w5 ⟨rfl, hq9⟩; have Q5 := hid (Q4.out.trans hq9); clear hq9))
      go_ret
      exact ⟨rfl, QW.out.trans Q5.out⟩
    · rw [hm] at HE HM
      have HMC := hid hm
      clear hm
      go_upto_region 10 with (first
        | (with_reducible refine wpList_load_row (by with_unfolding_all rfl) 42 _ (by with_unfolding_all rfl) b3 (by with_unfolding_all rfl) 42 c.a (0, 0) _ ZC4.out.h Tryz.underlying42 (by with_unfolding_all rfl) (by with_unfolding_all exact HI.out) ?_)
        | (with_reducible refine wpList_load_row (by with_unfolding_all rfl) 42 _ (by with_unfolding_all rfl) b3 (by with_unfolding_all rfl) 42 c.a (0, 0) _ ZC.out.h Tryz.underlying42 (by with_unfolding_all rfl) (by with_unfolding_all exact HI.out) ?_)
        | (go_at_call 15; refine HE.out.mono ?_; rintro e9 w4 ⟨hq9, he9, _⟩; obtain ⟨vb, rfl, hs9⟩ := he9 rfl; have VB := hid hs9; have Q4 := hid hq9; have ZC4 := hid (ZC.out.on hq9); clear hq9 he9 hs9; obtain ⟨g, o, cb, hvb, hcb1, hcb2, _⟩ := VB.out.at (i := 0) (encC_pos _ _ _ _ _ _ _); subst hvb)
        | (go_at_call 16; refine (HM.out _ Q4.out).mono ?_; rintro e9 w5 ⟨rfl, hq9⟩; have Q5 := hid (Q4.out.trans hq9); have VB5 := hid (VB.out.on hq9); clear hq9))
      clear HE HM ZC4 VB Q4 hcb1 hcb2
      have HLB : Hid ((c.enc X).length ≤ 60000) := hid (encC_short HMC.out)
      have HBS := hid (news_sl VB5.out)
      have HO1 := hid (bc_one (c.enc X))
      have HL1 : Hid ((bc (c.enc X)).length = (c.enc X).length * 1) := hid (by rw [bc_len]; omega)
      obtain ⟨i0, hI5⟩ := inf_of5
      have HI5 := hid hI5
      clear hI5
      have HD5 := hid (HD9.out.1.on (QW.out.trans Q5.out))
      have HN9 := hid (sl_n HD5.out)
      have HB5 : Hid (w5.heap.size ≤ w5.heap.size) := hid (Nat.le_refl _)
      have HDN := hid (fun ad (e : a9 = some ad) W (q : Q w5 W) => news_sl (n := n9) (c := c9) (by rw [← e]; exact HD5.out.on q))
      have HO2 := hid (bc_one D)
      have HL2 : Hid ((bc D).length = n9 * 1) := hid (by rw [bc_len, HN9.out.1]; omega)
      have HZ9 : Hid (a9 = none → c9 = 0 ∧ n9 = 0 ∧ D = []) := hid (fun e => by
        have h1 := HD9.out.2 e
        have h2 := HN9.out.2
        have h3 := HN9.out.1
        exact ⟨h1, by omega, List.eq_nil_of_length_eq_zero (by omega)⟩)
      clear HD9 HD5
      cases a9 with
      | none =>
        obtain ⟨rfl, rfl, rfl⟩ := HZ9.out rfl
        clear HZ9 HDN
        go_upto_region 11 with (first
          | (at_builtin; refine wpList_append_own (w := w5) rfl _ _ 25 rfl w5.heap.size 5 i0 (.int .u8 0) 1 1 Tryz.underlying25 HI5.out.1 HI5.out.2.1 HI5.out.2.2.1 HI5.out.2.2.2 rfl (by decide) (.slice none 0 0) 0 [] rfl (World.ownsRow_nil _ _ _ _) ⟨g, o, none⟩ (c.enc X).length cb (bc (c.enc X)) rfl HL1.out HBS.out HO1.out (by unfold maxLen; have := HLB.out; omega) (by have := HLB.out; omega) HB5.out ?_; intro v6 w6 hown6 hgrow6 _; have OW6 := hid hown6; have Q56 : Hid (Q w5 w6) := hid (Below.grown (Q.refl _) hgrow6 (Nat.le_refl _) (fun k hk => by cases hk)); have OX6 : Hid (Own eb 5 1 w5.heap.size w6 v6 (c.enc X)) := hid (own_bc hown6); clear hown6 hgrow6)
          | (at_builtin; refine wpList_append_own_none (w := w6) rfl _ _ 25 rfl w5.heap.size 5 i0 1 Tryz.underlying25 HI5.out.1 v6 (0 + (c.enc X).length) ([] ++ bc (c.enc X)) rfl OW6.out rfl ?_; have SLV : Hid (Sl eb 1 w6 v6 (c.enc X ++ [])) := hid (by rw [List.append_nil]; exact OX6.out.sl eb_len (by decide)); have Q7 := hid (Q5.out.trans Q56.out))
          | (go_at_call 17; refine (readcell_any _ c X [] w3 w6 (HG.out.on (QW.out.trans Q7.out)) HC.out HMC.out SLV.out).mono ?_; rintro e9 w8 ⟨z, rfl, hz1, hz2, hq9⟩; have HZ := hid (And.intro hz1 hz2); have Q8 := hid (Q7.out.trans hq9); have Q58 : Hid (Q w5 w8) := hid (Q56.out.trans hq9); clear hq9 hz1 hz2)
          | (with_reducible refine wpl_layt w8 42 _ _ (by with_unfolding_all rfl) (by with_unfolding_all rfl) z.a z13 (by with_unfolding_all rfl) (by with_unfolding_all rfl) (by with_unfolding_all exact info42) (by with_unfolding_all rfl) (by with_unfolding_all exact z.one) (by with_unfolding_all rfl) ?_))
        obtain ⟨b9, e9⟩ : ∃ b9, b9 = w8.heap.size := ⟨_, rfl⟩
        have ZZ := hid (bq_new w8 z.a 42)
        rw [← e9] at ZZ ⊢
        clear e9
        have Q9 : Hid (Q w8 (w8.alloc (.cells z.a 42))) := hid ((Q.refl _).alloc _)
        generalize w8.alloc (.cells z.a 42) = w9 at ZZ Q9 ⊢
        have QT := hid (Q8.out.trans Q9.out)
        have ZD9 := hid (ZD.out.on QT.out)
        have HZT := hid (Rd.on Q9.out _ _ HZ.out.1)
        have HZS := hid HZ.out.2
        have VB9 := hid (VB5.out.on (Q58.out.trans Q9.out))
        clear HZ SLV OW6 OX6 Q56 Q7 Q8 Q58 HL1 HL2 HO1 HO2 HBS HI5 HB5 VB5
        have HE2 := hid (cellenc_cv (HG.out.on (QW.out.trans QT.out)) (HD.out.on QT.out))
        go_upto_region 12 with (first
          | (with_reducible refine wpList_load_row (by with_unfolding_all rfl) 42 _ (by with_unfolding_all rfl) b4 (by with_unfolding_all rfl) 42 d.a (0, 0) _ ZD9.out.h Tryz.underlying42 (by with_unfolding_all rfl) (by with_unfolding_all exact HI.out) ?_)
          | (go_at_call 15; refine HE2.out.mono ?_; intro e9 w10 hcp; obtain ⟨ve, rfl, hs9, hq9⟩ := hcp.any; have VE := hid hs9; have Q10 := hid (QT.out.trans hq9); have ZD10 := hid (ZD9.out.on hq9); have ZC10 := hid (ZC.out.on (QT.out.trans hq9)); have ZZ10 := hid (ZZ.out.on hq9); have VB10 := hid (VB9.out.on hq9); have HZT10 := hid (Rd.on hq9 _ _ HZT.out); clear hcp hq9 hs9))
        clear HE2 ZD9 ZZ VB9 HZT
        obtain ⟨s9, hs9⟩ := same_ex c d X Y
        have HS9 := hid hs9
        clear hs9
        have HEQ := hid (eqcell_cv (W := w10) s9 (HC.out.on Q10.out).t (HD.out.on Q10.out).t HS9.out)
        go_upto_region 13 with (first
          | (with_reducible refine wpList_load_row (by with_unfolding_all rfl) 42 _ (by with_unfolding_all rfl) b3 (by with_unfolding_all rfl) 42 c.a (0, 0) _ ZC10.out.h Tryz.underlying42 (by with_unfolding_all rfl) (by with_unfolding_all exact HI.out) ?_)
          | (with_reducible refine wpList_load_row (by with_unfolding_all rfl) 42 _ (by with_unfolding_all rfl) b4 (by with_unfolding_all rfl) 42 d.a (0, 0) _ ZD10.out.h Tryz.underlying42 (by with_unfolding_all rfl) (by with_unfolding_all exact HI.out) ?_)
          | (go_at_call 18; refine HEQ.out.mono ?_; rintro e9 w11 ⟨rfl, hq9⟩; have Q11 := hid (Q10.out.trans hq9); have ZC11 := hid (ZC10.out.on hq9); have ZZ11 := hid (ZZ10.out.on hq9); have VB11 := hid (VB10.out.on hq9); have HZT11 := hid (Rd.on hq9 _ _ HZT10.out); have VE11 := hid (fun h => (VE.out h).on hq9); clear hq9))
        clear HEQ ZC10 ZD10 ZZ10 VB10 HZT10 VE
        have HEZ := hid (eqcell_cv (W := w11) (x := z) (y := c) true HZT11.out (HC.out.on Q11.out).t (show true = true ↔ z.same c X X from ⟨fun _ => HZS.out, fun _ => rfl⟩))
        cases md : d.may Y
        · simp only [Bool.false_eq_true, if_false]
          go_wp2_with (first
            | (with_reducible refine wpl_loadgB _ (by with_unfolding_all rfl) (by with_unfolding_all rfl) b9 (by with_unfolding_all rfl) z.a (by with_unfolding_all exact ZZ11.out) (by with_unfolding_all exact HI.out) ?_)
            | (with_reducible refine wpl_loadgB _ (by with_unfolding_all rfl) (by with_unfolding_all rfl) b3 (by with_unfolding_all rfl) c.a (by with_unfolding_all exact ZC11.out) (by with_unfolding_all exact HI.out) ?_)
            | (go_at_call 18; refine HEZ.out.mono ?_; rintro e9 w12 ⟨rfl, hq9⟩; have Q12 := hid (Q11.out.trans hq9); clear hq9))
          go_ret
          exact ⟨rfl, QW.out.trans Q12.out⟩
        · have hve := VE11.out md
          obtain ⟨ae, ce, rfl, _, _⟩ := hve.len
          have HCE := hid (fun W (q : Q w11 W) => sl_conv (hve.on q))
          have HCB := hid (fun W (q : Q w11 W) => sl_conv (VB11.out.on q))
          obtain ⟨S, hS⟩ : ∃ S : ByteArray, S = ⟨(c.enc X).toArray⟩ := ⟨_, rfl⟩
          obtain ⟨T, hT⟩ : ∃ T : ByteArray, T = ⟨(d.enc Y).toArray⟩ := ⟨_, rfl⟩
          have hcc : ((T.toList == S.toList) == s9) = true := by
            have h := same_iff HC.out HD.out HMC.out md
            rw [hS, hT, Lib.toList_data, Lib.toList_data, beq_iff_eq, Bool.eq_iff_iff, HS9.out, ← h]
            simp
          rw [← hS] at HCB
          rw [← hT] at HCE
          clear hS hT hve VE11 VB11 HS9
          simp only [if_true]
          go_wp2_with (first
            | (with_reducible refine wpl_loadgB _ (by with_unfolding_all rfl) (by with_unfolding_all rfl) b9 (by with_unfolding_all rfl) z.a (by with_unfolding_all exact ZZ11.out) (by with_unfolding_all exact HI.out) ?_)
            | (with_reducible refine wpl_loadgB _ (by with_unfolding_all rfl) (by with_unfolding_all rfl) b3 (by with_unfolding_all rfl) c.a (by with_unfolding_all exact ZC11.out) (by with_unfolding_all exact HI.out) ?_)
            | (go_at_call 18; refine HEZ.out.mono ?_; rintro e9 w12 ⟨rfl, hq9⟩; have Q12 := hid (Q11.out.trans hq9); have hC1 := HCE.out _ hq9; have hC2 := HCB.out _ hq9; clear hq9))
          go_ret
          exact ⟨rfl, QW.out.trans Q12.out⟩
      | some ad =>
        have HDA := hid (HDN.out ad rfl)
        clear HZ9 HDN
        go_upto_region 11 with (first
          | (at_builtin; refine wpList_append_own (w := w5) rfl _ _ 25 rfl w5.heap.size 5 i0 (.int .u8 0) 1 1 Tryz.underlying25 HI5.out.1 HI5.out.2.1 HI5.out.2.2.1 HI5.out.2.2.2 rfl (by decide) (.slice none 0 0) 0 [] rfl (World.ownsRow_nil _ _ _ _) ⟨g, o, none⟩ (c.enc X).length cb (bc (c.enc X)) rfl HL1.out HBS.out HO1.out (by unfold maxLen; have := HLB.out; omega) (by have := HLB.out; omega) HB5.out ?_; intro v6 w6 hown6 hgrow6 _; have OW6 := hid hown6; have Q56 : Hid (Q w5 w6) := hid (Below.grown (Q.refl _) hgrow6 (Nat.le_refl _) (fun k hk => by cases hk)); have OX6 : Hid (Own eb 5 1 w5.heap.size w6 v6 (c.enc X)) := hid (own_bc hown6); clear hown6 hgrow6)
          | (at_builtin; refine wpList_append_own (w := w6) rfl _ _ 25 rfl w5.heap.size 5 i0 (.int .u8 0) 1 1 Tryz.underlying25 HI5.out.1 HI5.out.2.1 HI5.out.2.2.1 HI5.out.2.2.2 rfl (by decide) v6 (0 + (c.enc X).length) ([] ++ bc (c.enc X)) rfl OW6.out ad n9 c9 (bc D) rfl HL2.out (HDA.out w6 Q56.out) HO2.out (by unfold maxLen; have := HLB.out; have := H9.out; omega) (by have := HLB.out; have := H9.out; omega) Q56.out.size ?_; intro v7 w7 hown7 hgrow7 _; have Q57 : Hid (Q w5 w7) := hid (Below.grown Q56.out hgrow7 Q56.out.size OX6.out.blk); have SLV : Hid (Sl eb 1 w7 v7 (c.enc X ++ D)) := hid (own_eb (B := w5.heap.size) (n := 0 + (c.enc X).length + n9) (by rw [bc_app]; simpa using hown7) (by rw [List.length_append, ← HN9.out.1]; omega)); have Q7 := hid (Q5.out.trans Q57.out); clear hown7 hgrow7)
          | (go_at_call 17; refine (readcell_any _ c X D w3 w7 (HG.out.on (QW.out.trans Q7.out)) HC.out HMC.out SLV.out).mono ?_; rintro e9 w8 ⟨z, rfl, hz1, hz2, hq9⟩; have HZ := hid (And.intro hz1 hz2); have Q8 := hid (Q7.out.trans hq9); have Q58 : Hid (Q w5 w8) := hid (Q57.out.trans hq9); clear hq9 hz1 hz2)
          | (with_reducible refine wpl_layt w8 42 _ _ (by with_unfolding_all rfl) (by with_unfolding_all rfl) z.a z13 (by with_unfolding_all rfl) (by with_unfolding_all rfl) (by with_unfolding_all exact info42) (by with_unfolding_all rfl) (by with_unfolding_all exact z.one) (by with_unfolding_all rfl) ?_))
        obtain ⟨b9, e9⟩ : ∃ b9, b9 = w8.heap.size := ⟨_, rfl⟩
        have ZZ := hid (bq_new w8 z.a 42)
        rw [← e9] at ZZ ⊢
        clear e9
        have Q9 : Hid (Q w8 (w8.alloc (.cells z.a 42))) := hid ((Q.refl _).alloc _)
        generalize w8.alloc (.cells z.a 42) = w9 at ZZ Q9 ⊢
        have QT := hid (Q8.out.trans Q9.out)
        have ZD9 := hid (ZD.out.on QT.out)
        have HZT := hid (Rd.on Q9.out _ _ HZ.out.1)
        have HZS := hid HZ.out.2
        have VB9 := hid (VB5.out.on (Q58.out.trans Q9.out))
        clear HZ SLV OW6 OX6 Q56 Q7 Q8 Q58 HDA Q57 HL1 HL2 HO1 HO2 HBS HI5 HB5 VB5
        have HE2 := hid (cellenc_cv (HG.out.on (QW.out.trans QT.out)) (HD.out.on QT.out))
        go_upto_region 12 with (first
          | (with_reducible refine wpList_load_row (by with_unfolding_all rfl) 42 _ (by with_unfolding_all rfl) b4 (by with_unfolding_all rfl) 42 d.a (0, 0) _ ZD9.out.h Tryz.underlying42 (by with_unfolding_all rfl) (by with_unfolding_all exact HI.out) ?_)
          | (go_at_call 15; refine HE2.out.mono ?_; intro e9 w10 hcp; obtain ⟨ve, rfl, hs9, hq9⟩ := hcp.any; have VE := hid hs9; have Q10 := hid (QT.out.trans hq9); have ZD10 := hid (ZD9.out.on hq9); have ZC10 := hid (ZC.out.on (QT.out.trans hq9)); have ZZ10 := hid (ZZ.out.on hq9); have VB10 := hid (VB9.out.on hq9); have HZT10 := hid (Rd.on hq9 _ _ HZT.out); clear hcp hq9 hs9))
        clear HE2 ZD9 ZZ VB9 HZT
        obtain ⟨s9, hs9⟩ := same_ex c d X Y
        have HS9 := hid hs9
        clear hs9
        have HEQ := hid (eqcell_cv (W := w10) s9 (HC.out.on Q10.out).t (HD.out.on Q10.out).t HS9.out)
        go_upto_region 13 with (first
          | (with_reducible refine wpList_load_row (by with_unfolding_all rfl) 42 _ (by with_unfolding_all rfl) b3 (by with_unfolding_all rfl) 42 c.a (0, 0) _ ZC10.out.h Tryz.underlying42 (by with_unfolding_all rfl) (by with_unfolding_all exact HI.out) ?_)
          | (with_reducible refine wpList_load_row (by with_unfolding_all rfl) 42 _ (by with_unfolding_all rfl) b4 (by with_unfolding_all rfl) 42 d.a (0, 0) _ ZD10.out.h Tryz.underlying42 (by with_unfolding_all rfl) (by with_unfolding_all exact HI.out) ?_)
          | (go_at_call 18; refine HEQ.out.mono ?_; rintro e9 w11 ⟨rfl, hq9⟩; have Q11 := hid (Q10.out.trans hq9); have ZC11 := hid (ZC10.out.on hq9); have ZZ11 := hid (ZZ10.out.on hq9); have VB11 := hid (VB10.out.on hq9); have HZT11 := hid (Rd.on hq9 _ _ HZT10.out); have VE11 := hid (fun h => (VE.out h).on hq9); clear hq9))
        clear HEQ ZC10 ZD10 ZZ10 VB10 HZT10 VE
        have HEZ := hid (eqcell_cv (W := w11) (x := z) (y := c) true HZT11.out (HC.out.on Q11.out).t (show true = true ↔ z.same c X X from ⟨fun _ => HZS.out, fun _ => rfl⟩))
        cases md : d.may Y
        · simp only [Bool.false_eq_true, if_false]
          go_wp2_with (first
            | (with_reducible refine wpl_loadgB _ (by with_unfolding_all rfl) (by with_unfolding_all rfl) b9 (by with_unfolding_all rfl) z.a (by with_unfolding_all exact ZZ11.out) (by with_unfolding_all exact HI.out) ?_)
            | (with_reducible refine wpl_loadgB _ (by with_unfolding_all rfl) (by with_unfolding_all rfl) b3 (by with_unfolding_all rfl) c.a (by with_unfolding_all exact ZC11.out) (by with_unfolding_all exact HI.out) ?_)
            | (go_at_call 18; refine HEZ.out.mono ?_; rintro e9 w12 ⟨rfl, hq9⟩; have Q12 := hid (Q11.out.trans hq9); clear hq9))
          go_ret
          exact ⟨rfl, QW.out.trans Q12.out⟩
        · have hve := VE11.out md
          obtain ⟨ae, ce, rfl, _, _⟩ := hve.len
          have HCE := hid (fun W (q : Q w11 W) => sl_conv (hve.on q))
          have HCB := hid (fun W (q : Q w11 W) => sl_conv (VB11.out.on q))
          obtain ⟨S, hS⟩ : ∃ S : ByteArray, S = ⟨(c.enc X).toArray⟩ := ⟨_, rfl⟩
          obtain ⟨T, hT⟩ : ∃ T : ByteArray, T = ⟨(d.enc Y).toArray⟩ := ⟨_, rfl⟩
          have hcc : ((T.toList == S.toList) == s9) = true := by
            have h := same_iff HC.out HD.out HMC.out md
            rw [hS, hT, Lib.toList_data, Lib.toList_data, beq_iff_eq, Bool.eq_iff_iff, HS9.out, ← h]
            simp
          rw [← hS] at HCB
          rw [← hT] at HCE
          clear hS hT hve VE11 VB11 HS9
          simp only [if_true]
          go_wp2_with (first
            | (with_reducible refine wpl_loadgB _ (by with_unfolding_all rfl) (by with_unfolding_all rfl) b9 (by with_unfolding_all rfl) z.a (by with_unfolding_all exact ZZ11.out) (by with_unfolding_all exact HI.out) ?_)
            | (with_reducible refine wpl_loadgB _ (by with_unfolding_all rfl) (by with_unfolding_all rfl) b3 (by with_unfolding_all rfl) c.a (by with_unfolding_all exact ZC11.out) (by with_unfolding_all exact HI.out) ?_)
            | (go_at_call 18; refine HEZ.out.mono ?_; rintro e9 w12 ⟨rfl, hq9⟩; have Q12 := hid (Q11.out.trans hq9); have hC1 := HCE.out _ hq9; have hC2 := HCB.out _ hq9; clear hq9))
          go_ret
          exact ⟨rfl, QW.out.trans Q12.out⟩
  · obtain ⟨rfl, rfl, rfl⟩ := H40.out.1 h40
    have H9 : Hid (n9 ≤ 100000) := hid (by omega)
    clear H40 HU HSH
    go_upto_region 7 with fail
    cases hm : c.may X
    · rw [hm] at HE HM
      go_wp2_with (first
        | (with_reducible refine wpList_load_row (by with_unfolding_all rfl) 42 _ (by with_unfolding_all rfl) b3 (by with_unfolding_all rfl) 42 c.a (0, 0) _ ZC4.out.h Tryz.underlying42 (by with_unfolding_all rfl) (by with_unfolding_all exact HI.out) ?_)
        | (with_reducible refine wpList_load_row (by with_unfolding_all rfl) 42 _ (by with_unfolding_all rfl) b3 (by with_unfolding_all rfl) 42 c.a (0, 0) _ ZC.out.h Tryz.underlying42 (by with_unfolding_all rfl) (by with_unfolding_all exact HI.out) ?_)
        | (go_at_call 15; refine HE.out.mono ?_; rintro e9 w4 ⟨hq9, _, he9⟩; have hh := he9 rfl; subst hh; have Q4 := hid hq9; have ZC4 := hid (ZC.out.on hq9); clear hq9 he9)
        | (go_at_call 16; refine (HM.out _ Q4.out).mono ?_; rintro e9 w5 ⟨rfl, hq9⟩; have Q5 := hid (Q4.out.trans hq9); clear hq9))
      go_ret
      exact ⟨rfl, QW.out.trans Q5.out⟩
    · rw [hm] at HE HM
      have HMC := hid hm
      clear hm
      go_upto_region 10 with (first
        | (with_reducible refine wpList_load_row (by with_unfolding_all rfl) 42 _ (by with_unfolding_all rfl) b3 (by with_unfolding_all rfl) 42 c.a (0, 0) _ ZC4.out.h Tryz.underlying42 (by with_unfolding_all rfl) (by with_unfolding_all exact HI.out) ?_)
        | (with_reducible refine wpList_load_row (by with_unfolding_all rfl) 42 _ (by with_unfolding_all rfl) b3 (by with_unfolding_all rfl) 42 c.a (0, 0) _ ZC.out.h Tryz.underlying42 (by with_unfolding_all rfl) (by with_unfolding_all exact HI.out) ?_)
        | (go_at_call 15; refine HE.out.mono ?_; rintro e9 w4 ⟨hq9, he9, _⟩; obtain ⟨vb, rfl, hs9⟩ := he9 rfl; have VB := hid hs9; have Q4 := hid hq9; have ZC4 := hid (ZC.out.on hq9); clear hq9 he9 hs9; obtain ⟨g, o, cb, hvb, hcb1, hcb2, _⟩ := VB.out.at (i := 0) (encC_pos _ _ _ _ _ _ _); subst hvb)
        | (go_at_call 16; refine (HM.out _ Q4.out).mono ?_; rintro e9 w5 ⟨rfl, hq9⟩; have Q5 := hid (Q4.out.trans hq9); have VB5 := hid (VB.out.on hq9); clear hq9))
      clear HE HM ZC4 VB Q4 hcb1 hcb2
      have HLB : Hid ((c.enc X).length ≤ 60000) := hid (encC_short HMC.out)
      have HBS := hid (news_sl VB5.out)
      have HO1 := hid (bc_one (c.enc X))
      have HL1 : Hid ((bc (c.enc X)).length = (c.enc X).length * 1) := hid (by rw [bc_len]; omega)
      obtain ⟨i0, hI5⟩ := inf_of5
      have HI5 := hid hI5
      clear hI5
      have HD5 := hid (HD9.out.1.on (QW.out.trans Q5.out))
      have HN9 := hid (sl_n HD5.out)
      have HB5 : Hid (w5.heap.size ≤ w5.heap.size) := hid (Nat.le_refl _)
      have HDN := hid (fun ad (e : a9 = some ad) W (q : Q w5 W) => news_sl (n := n9) (c := c9) (by rw [← e]; exact HD5.out.on q))
      have HO2 := hid (bc_one D)
      have HL2 : Hid ((bc D).length = n9 * 1) := hid (by rw [bc_len, HN9.out.1]; omega)
      have HZ9 : Hid (a9 = none → c9 = 0 ∧ n9 = 0 ∧ D = []) := hid (fun e => by
        have h1 := HD9.out.2 e
        have h2 := HN9.out.2
        have h3 := HN9.out.1
        exact ⟨h1, by omega, List.eq_nil_of_length_eq_zero (by omega)⟩)
      clear HD9 HD5
      cases a9 with
      | none =>
        obtain ⟨rfl, rfl, rfl⟩ := HZ9.out rfl
        clear HZ9 HDN
        go_upto_region 11 with (first
          | (at_builtin; refine wpList_append_own (w := w5) rfl _ _ 25 rfl w5.heap.size 5 i0 (.int .u8 0) 1 1 Tryz.underlying25 HI5.out.1 HI5.out.2.1 HI5.out.2.2.1 HI5.out.2.2.2 rfl (by decide) (.slice none 0 0) 0 [] rfl (World.ownsRow_nil _ _ _ _) ⟨g, o, none⟩ (c.enc X).length cb (bc (c.enc X)) rfl HL1.out HBS.out HO1.out (by unfold maxLen; have := HLB.out; omega) (by have := HLB.out; omega) HB5.out ?_; intro v6 w6 hown6 hgrow6 _; have OW6 := hid hown6; have Q56 : Hid (Q w5 w6) := hid (Below.grown (Q.refl _) hgrow6 (Nat.le_refl _) (fun k hk => by cases hk)); have OX6 : Hid (Own eb 5 1 w5.heap.size w6 v6 (c.enc X)) := hid (own_bc hown6); clear hown6 hgrow6)
          | (at_builtin; refine wpList_append_own_none (w := w6) rfl _ _ 25 rfl w5.heap.size 5 i0 1 Tryz.underlying25 HI5.out.1 v6 (0 + (c.enc X).length) ([] ++ bc (c.enc X)) rfl OW6.out rfl ?_; have SLV : Hid (Sl eb 1 w6 v6 (c.enc X ++ [])) := hid (by rw [List.append_nil]; exact OX6.out.sl eb_len (by decide)); have Q7 := hid (Q5.out.trans Q56.out))
          | (go_at_call 17; refine (readcell_any _ c X [] w3 w6 (HG.out.on (QW.out.trans Q7.out)) HC.out HMC.out SLV.out).mono ?_; rintro e9 w8 ⟨z, rfl, hz1, hz2, hq9⟩; have HZ := hid (And.intro hz1 hz2); have Q8 := hid (Q7.out.trans hq9); have Q58 : Hid (Q w5 w8) := hid (Q56.out.trans hq9); clear hq9 hz1 hz2)
          | (with_reducible refine wpl_layt w8 42 _ _ (by with_unfolding_all rfl) (by with_unfolding_all rfl) z.a z13 (by with_unfolding_all rfl) (by with_unfolding_all rfl) (by with_unfolding_all exact info42) (by with_unfolding_all rfl) (by with_unfolding_all exact z.one) (by with_unfolding_all rfl) ?_))
        obtain ⟨b9, e9⟩ : ∃ b9, b9 = w8.heap.size := ⟨_, rfl⟩
        have ZZ := hid (bq_new w8 z.a 42)
        rw [← e9] at ZZ ⊢
        clear e9
        have Q9 : Hid (Q w8 (w8.alloc (.cells z.a 42))) := hid ((Q.refl _).alloc _)
        generalize w8.alloc (.cells z.a 42) = w9 at ZZ Q9 ⊢
        have QT := hid (Q8.out.trans Q9.out)
        have ZD9 := hid (ZD.out.on QT.out)
        have HZT := hid (Rd.on Q9.out _ _ HZ.out.1)
        have HZS := hid HZ.out.2
        have VB9 := hid (VB5.out.on (Q58.out.trans Q9.out))
        clear HZ SLV OW6 OX6 Q56 Q7 Q8 Q58 HL1 HL2 HO1 HO2 HBS HI5 HB5 VB5
        have HE2 := hid (cellenc_cv (HG.out.on (QW.out.trans QT.out)) (HD.out.on QT.out))
        go_upto_region 12 with (first
          | (with_reducible refine wpList_load_row (by with_unfolding_all rfl) 42 _ (by with_unfolding_all rfl) b4 (by with_unfolding_all rfl) 42 d.a (0, 0) _ ZD9.out.h Tryz.underlying42 (by with_unfolding_all rfl) (by with_unfolding_all exact HI.out) ?_)
          | (go_at_call 15; refine HE2.out.mono ?_; intro e9 w10 hcp; obtain ⟨ve, rfl, hs9, hq9⟩ := hcp.any; have VE := hid hs9; have Q10 := hid (QT.out.trans hq9); have ZD10 := hid (ZD9.out.on hq9); have ZC10 := hid (ZC.out.on (QT.out.trans hq9)); have ZZ10 := hid (ZZ.out.on hq9); have VB10 := hid (VB9.out.on hq9); have HZT10 := hid (Rd.on hq9 _ _ HZT.out); clear hcp hq9 hs9))
        clear HE2 ZD9 ZZ VB9 HZT
        obtain ⟨s9, hs9⟩ := same_ex c d X Y
        have HS9 := hid hs9
        clear hs9
        have HEQ := hid (eqcell_cv (W := w10) s9 (HC.out.on Q10.out).t (HD.out.on Q10.out).t HS9.out)
        go_upto_region 13 with (first
          | (with_reducible refine wpList_load_row (by with_unfolding_all rfl) 42 _ (by with_unfolding_all rfl) b3 (by with_unfolding_all rfl) 42 c.a (0, 0) _ ZC10.out.h Tryz.underlying42 (by with_unfolding_all rfl) (by with_unfolding_all exact HI.out) ?_)
          | (with_reducible refine wpList_load_row (by with_unfolding_all rfl) 42 _ (by with_unfolding_all rfl) b4 (by with_unfolding_all rfl) 42 d.a (0, 0) _ ZD10.out.h Tryz.underlying42 (by with_unfolding_all rfl) (by with_unfolding_all exact HI.out) ?_)
          | (go_at_call 18; refine HEQ.out.mono ?_; rintro e9 w11 ⟨rfl, hq9⟩; have Q11 := hid (Q10.out.trans hq9); have ZC11 := hid (ZC10.out.on hq9); have ZZ11 := hid (ZZ10.out.on hq9); have VB11 := hid (VB10.out.on hq9); have HZT11 := hid (Rd.on hq9 _ _ HZT10.out); have VE11 := hid (fun h => (VE.out h).on hq9); clear hq9))
        clear HEQ ZC10 ZD10 ZZ10 VB10 HZT10 VE
        have HEZ := hid (eqcell_cv (W := w11) (x := z) (y := c) true HZT11.out (HC.out.on Q11.out).t (show true = true ↔ z.same c X X from ⟨fun _ => HZS.out, fun _ => rfl⟩))
        cases md : d.may Y
        · simp only [Bool.false_eq_true, if_false]
          go_wp2_with (first
            | (with_reducible refine wpl_loadgB _ (by with_unfolding_all rfl) (by with_unfolding_all rfl) b9 (by with_unfolding_all rfl) z.a (by with_unfolding_all exact ZZ11.out) (by with_unfolding_all exact HI.out) ?_)
            | (with_reducible refine wpl_loadgB _ (by with_unfolding_all rfl) (by with_unfolding_all rfl) b3 (by with_unfolding_all rfl) c.a (by with_unfolding_all exact ZC11.out) (by with_unfolding_all exact HI.out) ?_)
            | (go_at_call 18; refine HEZ.out.mono ?_; rintro e9 w12 ⟨rfl, hq9⟩; have Q12 := hid (Q11.out.trans hq9); clear hq9))
          go_ret
          exact ⟨rfl, QW.out.trans Q12.out⟩
        · have hve := VE11.out md
          obtain ⟨ae, ce, rfl, _, _⟩ := hve.len
          have HCE := hid (fun W (q : Q w11 W) => sl_conv (hve.on q))
          have HCB := hid (fun W (q : Q w11 W) => sl_conv (VB11.out.on q))
          obtain ⟨S, hS⟩ : ∃ S : ByteArray, S = ⟨(c.enc X).toArray⟩ := ⟨_, rfl⟩
          obtain ⟨T, hT⟩ : ∃ T : ByteArray, T = ⟨(d.enc Y).toArray⟩ := ⟨_, rfl⟩
          have hcc : ((T.toList == S.toList) == s9) = true := by
            have h := same_iff HC.out HD.out HMC.out md
            rw [hS, hT, Lib.toList_data, Lib.toList_data, beq_iff_eq, Bool.eq_iff_iff, HS9.out, ← h]
            simp
          rw [← hS] at HCB
          rw [← hT] at HCE
          clear hS hT hve VE11 VB11 HS9
          simp only [if_true]
          go_wp2_with (first
            | (with_reducible refine wpl_loadgB _ (by with_unfolding_all rfl) (by with_unfolding_all rfl) b9 (by with_unfolding_all rfl) z.a (by with_unfolding_all exact ZZ11.out) (by with_unfolding_all exact HI.out) ?_)
            | (with_reducible refine wpl_loadgB _ (by with_unfolding_all rfl) (by with_unfolding_all rfl) b3 (by with_unfolding_all rfl) c.a (by with_unfolding_all exact ZC11.out) (by with_unfolding_all exact HI.out) ?_)
            | (go_at_call 18; refine HEZ.out.mono ?_; rintro e9 w12 ⟨rfl, hq9⟩; have Q12 := hid (Q11.out.trans hq9); have hC1 := HCE.out _ hq9; have hC2 := HCB.out _ hq9; clear hq9))
          go_ret
          exact ⟨rfl, QW.out.trans Q12.out⟩
      | some ad =>
        have HDA := hid (HDN.out ad rfl)
        clear HZ9 HDN
        go_upto_region 11 with (first
          | (at_builtin; refine wpList_append_own (w := w5) rfl _ _ 25 rfl w5.heap.size 5 i0 (.int .u8 0) 1 1 Tryz.underlying25 HI5.out.1 HI5.out.2.1 HI5.out.2.2.1 HI5.out.2.2.2 rfl (by decide) (.slice none 0 0) 0 [] rfl (World.ownsRow_nil _ _ _ _) ⟨g, o, none⟩ (c.enc X).length cb (bc (c.enc X)) rfl HL1.out HBS.out HO1.out (by unfold maxLen; have := HLB.out; omega) (by have := HLB.out; omega) HB5.out ?_; intro v6 w6 hown6 hgrow6 _; have OW6 := hid hown6; have Q56 : Hid (Q w5 w6) := hid (Below.grown (Q.refl _) hgrow6 (Nat.le_refl _) (fun k hk => by cases hk)); have OX6 : Hid (Own eb 5 1 w5.heap.size w6 v6 (c.enc X)) := hid (own_bc hown6); clear hown6 hgrow6)
          | (at_builtin; refine wpList_append_own (w := w6) rfl _ _ 25 rfl w5.heap.size 5 i0 (.int .u8 0) 1 1 Tryz.underlying25 HI5.out.1 HI5.out.2.1 HI5.out.2.2.1 HI5.out.2.2.2 rfl (by decide) v6 (0 + (c.enc X).length) ([] ++ bc (c.enc X)) rfl OW6.out ad n9 c9 (bc D) rfl HL2.out (HDA.out w6 Q56.out) HO2.out (by unfold maxLen; have := HLB.out; have := H9.out; omega) (by have := HLB.out; have := H9.out; omega) Q56.out.size ?_; intro v7 w7 hown7 hgrow7 _; have Q57 : Hid (Q w5 w7) := hid (Below.grown Q56.out hgrow7 Q56.out.size OX6.out.blk); have SLV : Hid (Sl eb 1 w7 v7 (c.enc X ++ D)) := hid (own_eb (B := w5.heap.size) (n := 0 + (c.enc X).length + n9) (by rw [bc_app]; simpa using hown7) (by rw [List.length_append, ← HN9.out.1]; omega)); have Q7 := hid (Q5.out.trans Q57.out); clear hown7 hgrow7)
          | (go_at_call 17; refine (readcell_any _ c X D w3 w7 (HG.out.on (QW.out.trans Q7.out)) HC.out HMC.out SLV.out).mono ?_; rintro e9 w8 ⟨z, rfl, hz1, hz2, hq9⟩; have HZ := hid (And.intro hz1 hz2); have Q8 := hid (Q7.out.trans hq9); have Q58 : Hid (Q w5 w8) := hid (Q57.out.trans hq9); clear hq9 hz1 hz2)
          | (with_reducible refine wpl_layt w8 42 _ _ (by with_unfolding_all rfl) (by with_unfolding_all rfl) z.a z13 (by with_unfolding_all rfl) (by with_unfolding_all rfl) (by with_unfolding_all exact info42) (by with_unfolding_all rfl) (by with_unfolding_all exact z.one) (by with_unfolding_all rfl) ?_))
        obtain ⟨b9, e9⟩ : ∃ b9, b9 = w8.heap.size := ⟨_, rfl⟩
        have ZZ := hid (bq_new w8 z.a 42)
        rw [← e9] at ZZ ⊢
        clear e9
        have Q9 : Hid (Q w8 (w8.alloc (.cells z.a 42))) := hid ((Q.refl _).alloc _)
        generalize w8.alloc (.cells z.a 42) = w9 at ZZ Q9 ⊢
        have QT := hid (Q8.out.trans Q9.out)
        have ZD9 := hid (ZD.out.on QT.out)
        have HZT := hid (Rd.on Q9.out _ _ HZ.out.1)
        have HZS := hid HZ.out.2
        have VB9 := hid (VB5.out.on (Q58.out.trans Q9.out))
        clear HZ SLV OW6 OX6 Q56 Q7 Q8 Q58 HDA Q57 HL1 HL2 HO1 HO2 HBS HI5 HB5 VB5
        have HE2 := hid (cellenc_cv (HG.out.on (QW.out.trans QT.out)) (HD.out.on QT.out))
        go_upto_region 12 with (first
          | (with_reducible refine wpList_load_row (by with_unfolding_all rfl) 42 _ (by with_unfolding_all rfl) b4 (by with_unfolding_all rfl) 42 d.a (0, 0) _ ZD9.out.h Tryz.underlying42 (by with_unfolding_all rfl) (by with_unfolding_all exact HI.out) ?_)
          | (go_at_call 15; refine HE2.out.mono ?_; intro e9 w10 hcp; obtain ⟨ve, rfl, hs9, hq9⟩ := hcp.any; have VE := hid hs9; have Q10 := hid (QT.out.trans hq9); have ZD10 := hid (ZD9.out.on hq9); have ZC10 := hid (ZC.out.on (QT.out.trans hq9)); have ZZ10 := hid (ZZ.out.on hq9); have VB10 := hid (VB9.out.on hq9); have HZT10 := hid (Rd.on hq9 _ _ HZT.out); clear hcp hq9 hs9))
        clear HE2 ZD9 ZZ VB9 HZT
        obtain ⟨s9, hs9⟩ := same_ex c d X Y
        have HS9 := hid hs9
        clear hs9
        have HEQ := hid (eqcell_cv (W := w10) s9 (HC.out.on Q10.out).t (HD.out.on Q10.out).t HS9.out)
        go_upto_region 13 with (first
          | (with_reducible refine wpList_load_row (by with_unfolding_all rfl) 42 _ (by with_unfolding_all rfl) b3 (by with_unfolding_all rfl) 42 c.a (0, 0) _ ZC10.out.h Tryz.underlying42 (by with_unfolding_all rfl) (by with_unfolding_all exact HI.out) ?_)
          | (with_reducible refine wpList_load_row (by with_unfolding_all rfl) 42 _ (by with_unfolding_all rfl) b4 (by with_unfolding_all rfl) 42 d.a (0, 0) _ ZD10.out.h Tryz.underlying42 (by with_unfolding_all rfl) (by with_unfolding_all exact HI.out) ?_)
          | (go_at_call 18; refine HEQ.out.mono ?_; rintro e9 w11 ⟨rfl, hq9⟩; have Q11 := hid (Q10.out.trans hq9); have ZC11 := hid (ZC10.out.on hq9); have ZZ11 := hid (ZZ10.out.on hq9); have VB11 := hid (VB10.out.on hq9); have HZT11 := hid (Rd.on hq9 _ _ HZT10.out); have VE11 := hid (fun h => (VE.out h).on hq9); clear hq9))
        clear HEQ ZC10 ZD10 ZZ10 VB10 HZT10 VE
        have HEZ := hid (eqcell_cv (W := w11) (x := z) (y := c) true HZT11.out (HC.out.on Q11.out).t (show true = true ↔ z.same c X X from ⟨fun _ => HZS.out, fun _ => rfl⟩))
        cases md : d.may Y
        · simp only [Bool.false_eq_true, if_false]
          go_wp2_with (first
            | (with_reducible refine wpl_loadgB _ (by with_unfolding_all rfl) (by with_unfolding_all rfl) b9 (by with_unfolding_all rfl) z.a (by with_unfolding_all exact ZZ11.out) (by with_unfolding_all exact HI.out) ?_)
            | (with_reducible refine wpl_loadgB _ (by with_unfolding_all rfl) (by with_unfolding_all rfl) b3 (by with_unfolding_all rfl) c.a (by with_unfolding_all exact ZC11.out) (by with_unfolding_all exact HI.out) ?_)
            | (go_at_call 18; refine HEZ.out.mono ?_; rintro e9 w12 ⟨rfl, hq9⟩; have Q12 := hid (Q11.out.trans hq9); clear hq9))
          go_ret
          exact ⟨rfl, QW.out.trans Q12.out⟩
        · have hve := VE11.out md
          obtain ⟨ae, ce, rfl, _, _⟩ := hve.len
          have HCE := hid (fun W (q : Q w11 W) => sl_conv (hve.on q))
          have HCB := hid (fun W (q : Q w11 W) => sl_conv (VB11.out.on q))
          obtain ⟨S, hS⟩ : ∃ S : ByteArray, S = ⟨(c.enc X).toArray⟩ := ⟨_, rfl⟩
          obtain ⟨T, hT⟩ : ∃ T : ByteArray, T = ⟨(d.enc Y).toArray⟩ := ⟨_, rfl⟩
          have hcc : ((T.toList == S.toList) == s9) = true := by
            have h := same_iff HC.out HD.out HMC.out md
            rw [hS, hT, Lib.toList_data, Lib.toList_data, beq_iff_eq, Bool.eq_iff_iff, HS9.out, ← h]
            simp
          rw [← hS] at HCB
          rw [← hT] at HCE
          clear hS hT hve VE11 VB11 HS9
          simp only [if_true]
          go_wp2_with (first
            | (with_reducible refine wpl_loadgB _ (by with_unfolding_all rfl) (by with_unfolding_all rfl) b9 (by with_unfolding_all rfl) z.a (by with_unfolding_all exact ZZ11.out) (by with_unfolding_all exact HI.out) ?_)
            | (with_reducible refine wpl_loadgB _ (by with_unfolding_all rfl) (by with_unfolding_all rfl) b3 (by with_unfolding_all rfl) c.a (by with_unfolding_all exact ZC11.out) (by with_unfolding_all exact HI.out) ?_)
            | (go_at_call 18; refine HEZ.out.mono ?_; rintro e9 w12 ⟨rfl, hq9⟩; have Q12 := hid (Q11.out.trans hq9); have hC1 := HCE.out _ hq9; have hC2 := HCB.out _ hq9; clear hq9))
          go_ret
          exact ⟨rfl, QW.out.trans Q12.out⟩
end Go.Proofs.YtcgddnliiondoaaGreatDoor
namespace Go.Proofs.YtcgddnliiondoaaGreatDoor
open Go.ChangeShapes Go.WideShapes Go.ChangeAt Go.RowKit
set_option linter.constructorNameAsVariable false in
theorem open_cv {H : Type} {enc : TypeId × Value → H} {W : World} {sp : Nat → Bool} {held : Bool} {base base' : Nat} {v : Value} {d : DataW H} {p : List MemPlace} {r : Reach}
    (hv : Value.okWide Tryz.prog W r base' 42 v) (h : DataW.Trod enc Tryz.prog W base sp held 42 v d p) (hB : Rows.uptoBulk d ≤ 2000000) : ∃ (x : Cv) (X : Ex), v = .agg x.a ∧ CvI W x X := by
  obtain ⟨cs, rfl, hsz⟩ := okWide_struct Tryz.underlying42 hv
  obtain ⟨fuel, hf⟩ := h
  have hf' : DataW.trod enc Tryz.prog W base sp held fuel 42 cs.toList = some (d, p) := hf
  obtain ⟨f, vk, vn, vt, vb, ve, k, m, t, bb, er, a1, l1, c1, a2, l2, c2, X, h1, h2, h3, h4, h5⟩ := open_cell fuel _ _ hf'
  refine ⟨⟨f, vk, vn, vt, vb, ve, k, m, t, bb, er, a1, l1, c1, a2, l2, c2⟩, X, by rw [← Array.toArray_toList (xs := cs), h1]; rfl, h2, cut_sm (B := Rows.uptoBulk d) (by omega) X 1 220 h3, by have := cut_nodes X 1 220 (by omega); omega, cut_rn X 1 220 h4, h5⟩
theorem list_of8 (P : Nat → UInt8 → Prop) : ∀ n, (∀ i, i < n → ∃ x, P i x) → ∃ l : List UInt8, l.length = n ∧ ∀ i (h : i < l.length), P i l[i]
  | 0, _ => ⟨[], rfl, fun i hi => absurd hi (by simp)⟩
  | n + 1, h => by
    obtain ⟨l, hl, hp⟩ := list_of8 P n (fun i hi => h i (by omega))
    obtain ⟨x, hx⟩ := h n (by omega)
    refine ⟨l ++ [x], by simp [hl], fun i hi => ?_⟩
    by_cases hin : i < l.length
    · rw [List.getElem_append_left hin]
      exact hp i hin
    · have hie : i = l.length := by simp at hi; omega
      subst hie
      rw [List.getElem_append_right (Nat.le_refl _)]
      simp only [Nat.sub_self, List.getElem_cons_zero]
      rw [hl]
      exact hx
theorem cells5 : Tryz.prog.cellsOf 5 = 1 := by kernel_rfl
theorem open_bytes {H : Type} {enc : TypeId × Value → H} {W : World} {sp : Nat → Bool} {held : Bool} {base base' : Nat} {v : Value} {d : DataW H} {p : List MemPlace} {r : Reach}
    (hv : Value.okWide Tryz.prog W r base' 25 v) (h : DataW.Trod enc Tryz.prog W base sp held 25 v d p) : (∃ L : List UInt8, Sl eb 1 W v L) ∧ ∀ n c, v = .slice none n c → c = 0 := by
  obtain ⟨a0, len0, cap0, rfl⟩ := okWide_slice Tryz.underlying25 hv
  obtain ⟨fuel, hf⟩ := h
  rcases DataW.trod_slice Tryz.underlying25 hf with ⟨hcs, _⟩ | ⟨x, l, c, elems, rest, m, hdd, hcs, hdz, hb, hl, hm, hlen, hel, hx1, hx2⟩
  · simp [Value.cells] at hcs
    obtain ⟨rfl, rfl, rfl⟩ := hcs
    exact ⟨⟨[], sl_nil W⟩, fun n c e => by injection e with _ _ e; exact e.symm⟩
  · simp [Value.cells] at hcs
    obtain ⟨rfl, rfl, rfl⟩ := hcs
    refine ⟨?_, fun n c e => by injection e with e; cases e⟩
    have hcell : ∀ i, i < len0 → ∃ y : UInt8, W.cell? (x.add (i * 1)) = some (.int .u8 y.toNat) := by
      intro i hi
      have hi' := hel i hi
      rw [cells5, List.getElem?_eq_getElem (by omega), Option.bind_eq_some_iff] at hi'
      obtain ⟨cs, h1, h2⟩ := hi'
      obtain ⟨n, rfl, _, hw⟩ := DataW.trod_int Tryz.underlying5 h2
      have hr : 0 ≤ n ∧ n ≤ 255 := by
        unfold Lit.wf at hw
        simpa [IntKind.min, IntKind.max, IntKind.signed, IntKind.bits] using hw
      obtain ⟨_, _, h3⟩ := World.cells?_some h1
      have h4 := h3 0 (by omega)
      obtain ⟨k, rfl⟩ := Int.eq_ofNat_of_zero_le hr.1
      refine ⟨UInt8.ofNat k, ?_⟩
      rw [show (UInt8.ofNat k).toNat = k by simp; omega]
      simpa [Addr.add] using h4
    rcases Nat.eq_zero_or_pos len0 with rfl | hp
    · exact ⟨[], ⟨some x, cap0, rfl, Nat.zero_le _, hm, fun h => absurd h (by simp)⟩⟩
    · obtain ⟨b, off, spot⟩ := x
      obtain ⟨c0, hc0⟩ := hcell 0 hp
      have hspot : spot = none := by simpa [Addr.add] using World.cell?_spot hc0
      subst hspot
      obtain ⟨L, hL, hP⟩ := list_of8 (fun i y => W.cell? ⟨b, off + i, none⟩ = some (.int .u8 y.toNat)) len0 (fun i hi => by
        obtain ⟨y, g⟩ := hcell i hi
        rw [add_lit, Nat.mul_one] at g
        exact ⟨y, g⟩)
      subst hL
      refine ⟨L, ⟨some ⟨b, off, none⟩, cap0, rfl, hl, hm, fun _ => ⟨b, off, rfl, fun i hi j u hu => ?_⟩⟩⟩
      have hj : j = 0 := by
        have := (List.getElem?_eq_some_iff.1 hu).1
        rw [eb_len] at this
        omega
      subst hj
      have hu' : u = .int .u8 L[i].toNat := (Option.some.inj hu).symm
      rw [hu', Nat.mul_one]
      exact hP i hi
end Go.Proofs.YtcgddnliiondoaaGreatDoor
