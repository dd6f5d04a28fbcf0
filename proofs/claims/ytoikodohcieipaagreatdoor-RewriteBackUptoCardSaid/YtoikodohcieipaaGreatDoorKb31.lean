/- counterpaneref5.may, MayExpr a. -/
import Derived.Test.YtoikodohcieipaaGreatDoorKb30
import Derived.Test.YtoikodohcieipaaGreatDoorKb29
import Derived.Test.YtoikodohcieipaaGreatDoorKb26
import Derived.Test.YtoikodohcieipaaGreatDoorKb21
import Derived.Test.YtoikodohcieipaaGreatDoorKb28
set_option linter.unusedVariables false
set_option linter.unusedSimpArgs false
set_option maxRecDepth 100000
set_option maxHeartbeats 8000000
namespace Go.Proofs.YtoikodohcieipaaGreatDoor
open Go.RowKit
theorem mre_of {W : World} (x : Rf) (hs : x.1.length ≤ 2000000) : MRe W x := by
  intro V q
  exact rmay_any ⟨x.1.toArray⟩ x.2.1 x.2.2.1 x.2.2.2.1 x.2.2.2.2 V (by show x.1.toArray.size ≤ 4000000000; simp; omega)
theorem bare_leaf (ok : Bool) (n : Int) (t : List UInt8) (b : Bool) (e : Int) (l1 : Nat) (ks : List Ex) (d : Nat) : ((ok && bareB n t b e l1 ks.length) && rm.rmL ks d) = (ok && bareB n t b e l1 ks.length) := by
  cases h : bareB n t b e l1 ks.length
  · rw [Bool.and_false, Bool.false_and]
  · have : ks = [] := List.eq_nil_of_length_eq_zero (of_decide_eq_true h).2.2.2.2.2
    subst this
    rw [rm.rmL, Bool.and_true]
theorem rmay_all : ∀ (s : Nat) (x : Ex) (v : Value) (W : World) (d : Nat), SizeOf.sizeOf x ≤ s → Sm x → Rd W x v → Calls Tryz.prog 30 #[v, .int .i64 (d : Int)] W fun e W' => e = .returned (.bool (rm x d)) ∧ Q W W' := by
  intro s
  induction s with
  | zero =>
    intro x v W d hs
    cases x with
    | mk k n t b e rs ks => simp at hs
  | succ s ih =>
    intro x v W d hsz hs hr
    obtain ⟨k, n, t, b, e, rs, ks, rv', kv, ao, cap, rfl, hp⟩ := hr.prt
    obtain ⟨ar, cr, hrv, hl⟩ := hp.rl
    have hsl : Sl rf 5 W (.slice ar rs.length cr) rs := hrv ▸ hp.rl
    have hkl := hp.kl
    subst hkl hrv
    have hx := hp.ex
    have hcap : ks.length ≤ 9223372036854775807 := by have h1 := hp.le; have h2 := hp.mx; unfold maxLen at h2; omega
    have HKid : Hid (∀ i (hi : i < ks.length) V, Q W V → ∃ b' off c0 c1 c2 c3 c4 c5 c6, ao = some ⟨b', off, none⟩ ∧ Kid V ks[i] b' (off + i * 7) c0 c1 c2 c3 c4 c5 c6) := hid (fun i hi V q => by
      obtain ⟨b', off, ha, hl⟩ := (hp.on q).kd (by intro h; rw [h] at hi; simp at hi)
      obtain ⟨c0, c1, c2, c3, c4, c5, c6, hk⟩ := hl.kid i hi
      exact ⟨b', off, c0, c1, c2, c3, c4, c5, c6, ha, hk⟩)
    have hkids : ∀ y ∈ ks, Sm y := sm_kids k n t.data.toList b e rs ks (hx ▸ hs)
    have IH : Hid (∀ i (hi : i < ks.length) v V, Rd V ks[i] v → Calls Tryz.prog 30 #[v, .int .i64 ((d : Int) + 1)] V fun e W' => e = .returned (.bool (rm ks[i] (d + 1))) ∧ Q V W') := hid (fun i hi v V hr => by
      have h1 := kid_size (k := k) (n := n) (t := t.data.toList) (b := b) (e := e) (rs := rs) i hi
      rw [← hx] at h1
      have := ih ks[i] v V (d + 1) (by omega) (hkids _ (List.getElem_mem hi)) hr
      rw [show ((d + 1 : Nat) : Int) = (d : Int) + 1 by omega] at this
      exact this)
    clear ih hr
    subst hx
    rw [Sm] at hs
    obtain ⟨s1, s2, _⟩ := hs
    have st : t.size ≤ 1000000 := by rw [← len_data]; exact s1
    have hm : Hid (∀ y ∈ rs, MRe W y) := hid (fun y hy => mre_of y (s2 y hy))
    rw [rm, mayN]
    by_cases h1 : k = 1
    · subst h1
      rw [if_pos rfl, bare_leaf]
      exact rn_1 n t b e ar rs.length cr ao ks.length cap W d
    by_cases h2 : k = 2
    · subst h2
      rw [if_neg (by decide), if_pos rfl, bare_leaf]
      exact rn_2 n t b e ar rs.length cr ao ks.length cap W d (by omega)
    by_cases h3 : k = 3
    · subst h3
      rw [if_neg (by decide), if_neg (by decide), if_pos rfl, bare_leaf]
      exact rn_3 n t b e ar rs.length cr ao ks.length cap W d
    by_cases h4 : k = 4
    · subst h4
      rw [if_neg (by decide), if_neg (by decide), if_neg (by decide), if_pos rfl, bare_leaf]
      exact rn_4 n t b e ar rs.length cr ao ks.length cap W d
    by_cases h5 : k = 5
    · subst h5
      rw [if_neg (by decide), if_neg (by decide), if_neg (by decide), if_neg (by decide), if_pos rfl, bare_leaf]
      exact rn_5 n t b e ar rs.length cr ao ks.length cap W d rs hsl hm
    by_cases h6 : k = 6
    · subst h6
      rw [if_neg (by decide), if_neg (by decide), if_neg (by decide), if_neg (by decide), if_neg (by decide), if_pos rfl, bare_leaf]
      exact rn_6 n t b e ar rs.length cr ao ks.length cap W d rs hsl hm
    by_cases h7 : k = 7
    · subst h7
      rw [if_neg (by decide), if_neg (by decide), if_neg (by decide), if_neg (by decide), if_neg (by decide), if_neg (by decide), if_pos rfl]
      exact rn_7 n t b e ar rs.length cr ao ks.length cap W d ks rfl hcap HKid IH
    by_cases h8 : k = 8
    · subst h8
      rw [if_neg (by decide), if_neg (by decide), if_neg (by decide), if_neg (by decide), if_neg (by decide), if_neg (by decide), if_neg (by decide), if_pos rfl]
      exact rn_8 n t b e ar rs.length cr ao ks.length cap W d ks rfl hcap HKid IH
    by_cases h9 : k = 9
    · subst h9
      rw [if_neg (by decide), if_neg (by decide), if_neg (by decide), if_neg (by decide), if_neg (by decide), if_neg (by decide), if_neg (by decide), if_neg (by decide), if_pos rfl]
      exact rn_9 n t b e ar rs.length cr ao ks.length cap W d (by omega) ks rfl hcap HKid IH
    rw [if_neg h1, if_neg h2, if_neg h3, if_neg h4, if_neg h5, if_neg h6, if_neg h7, if_neg h8, if_neg h9, Bool.false_and, Bool.and_false]
    exact rn_k k n t b e ar rs.length cr ao ks.length cap W d (by omega)
set_option maxHeartbeats 4000000 in
theorem rcount_any (x : Ex) (v : Value) (W : World) (hr : Rd W x v) : Calls Tryz.prog 29 #[v] W fun e W' => e = .returned (.int .i64 (min (nodes x) 201 : Nat)) ∧ Q W W' := by
  have HC := hid (fun W' (q : Q W W') => count_any (SizeOf.sizeOf x) x v W' 0 0 0 (Nat.le_refl _) rfl (by omega) (Rd.on q _ _ hr))
  have hn := cnt_nodes x 0 (by omega)
  rw [Nat.zero_add] at hn
  rw [← hn]
  obtain ⟨k, n, t, b, e, a1, l1, c1, a2, l2, c2, rfl⟩ := hr.shape
  obtain ⟨c, hc⟩ : ∃ c, cnt x 0 = c := ⟨_, rfl⟩
  rw [hc] at HC ⊢
  clear hn hc hr
  by_cases h : 200 < c
  · have h' : (200 : Int) < (c : Int) := by omega
    have HR : Hid (min c 201 = 201) := by show _ = _; omega
    go_enter Tryz.func29, Tryz.ntmps29
    go_wp2_with (go_at_call 54; refine (HC.out _ ((Q.refl _).alloc _)).mono ?_; rintro e9 w1 ⟨rfl, q1⟩; have Q1 : Hid (Q W w1) := hid (((Q.refl _).alloc _).trans q1); clear q1)
    go_ret
    exact ⟨by rw [HR.out]; rfl, Q1.out⟩
  · have h' : ¬ (200 : Int) < (c : Int) := by omega
    have HR : Hid (min c 201 = c) := by show _ = _; omega
    go_enter Tryz.func29, Tryz.ntmps29
    go_wp2_with (go_at_call 54; refine (HC.out _ ((Q.refl _).alloc _)).mono ?_; rintro e9 w1 ⟨rfl, q1⟩; have Q1 : Hid (Q W w1) := hid (((Q.refl _).alloc _).trans q1); clear q1)
    go_ret
    exact ⟨by rw [HR.out]; rfl, Q1.out⟩
set_option maxHeartbeats 4000000 in
theorem rmayexpr_any (x : Ex) (v : Value) (W : World) (hs : Sm x) (hr : Rd W x v) : Calls Tryz.prog 12 #[v] W fun e W' => e = .returned (.bool (fitB x && mall mayN x)) ∧ Q W W' := by
  have HC := hid (fun W' (q : Q W W') => rcount_any x v W' (Rd.on q _ _ hr))
  have HA := hid (fun W' (q : Q W W') => rmay_all (SizeOf.sizeOf x) x v W' 1 (Nat.le_refl _) hs (Rd.on q _ _ hr))
  have he : (fitB x && mall mayN x) = (decide (min (nodes x) 201 ≤ 200) && rm x 1) := by
    rw [rm_shl x 1 50 rfl]
    unfold fitB
    have : decide (nodes x ≤ 200) = decide (min (nodes x) 201 ≤ 200) := by
      by_cases h : nodes x ≤ 200
      · rw [decide_eq_true h, decide_eq_true (by omega)]
      · rw [decide_eq_false h, decide_eq_false (by omega)]
    rw [this, Bool.and_assoc]
  rw [he]
  obtain ⟨k, n, t, b, e, a1, l1, c1, a2, l2, c2, rfl⟩ := hr.shape
  have HX := hid (Bx.start W (.int .i64 k) (.int .i64 n) (.string t) (.bool b) (.int .i64 e) (.slice a1 l1 c1) (.slice a2 l2 c2) 26)
  obtain ⟨c, hc⟩ : ∃ c, min (nodes x) 201 = c := ⟨_, rfl⟩
  obtain ⟨r, hrr⟩ : ∃ r, rm x 1 = r := ⟨_, rfl⟩
  rw [hc] at HC ⊢
  rw [hrr] at HA ⊢
  clear hr hs he hc hrr
  by_cases h : c ≤ 200
  · have h' : (c : Int) ≤ 200 := by omega
    rw [decide_eq_true h, Bool.true_and]
    go_enter Tryz.func12, Tryz.ntmps12
    go_wp2_with (first | (go_at_call 29; refine (HC.out _ ((Q.refl _).alloc _)).mono ?_; rintro e9 w1 ⟨rfl, q1⟩; have Q1 : Hid (Q W w1) := hid (((Q.refl _).alloc _).trans q1); have X1 := hid (HX.out.on q1); clear q1; obtain ⟨_, _, g0, g1, g2, g3, g4, g5, g6⟩ := X1.out) | (go_at_call 30; refine (HA.out _ Q1.out).mono ?_; rintro e9 w2 ⟨rfl, q2⟩; have Q2 : Hid (Q W w2) := hid (Q1.out.trans q2); clear q2))
    go_ret
    exact ⟨rfl, Q2.out⟩
  · have h' : ¬ (c : Int) ≤ 200 := by omega
    rw [decide_eq_false h, Bool.false_and]
    go_enter Tryz.func12, Tryz.ntmps12
    go_wp2_with (go_at_call 29; refine (HC.out _ ((Q.refl _).alloc _)).mono ?_; rintro e9 w1 ⟨rfl, q1⟩; have Q1 : Hid (Q W w1) := hid (((Q.refl _).alloc _).trans q1); clear q1)
    go_ret
    exact ⟨rfl, Q1.out⟩
theorem cut_sm {B : Nat} (hB : B ≤ 2000000) : ∀ (x : Ex) (d l : Nat), Shs B x → Sm (cutE x d l).1
  | .mk k n t b e rs ks, d, l, h => by
    rw [Shs] at h
    rw [cutE, Sm]
    refine ⟨?_, fun r hr => Nat.le_trans (h.1 r (List.mem_of_mem_take hr)) hB, go hB ks d (l - 1) h.2⟩
    rw [List.length_take]
    omega
  where
  go {B : Nat} (hB : B ≤ 2000000) : ∀ (ks : List Ex) (d l : Nat), Shs.ShsL B ks → Sm.SmL (cutE.cutL ks d l).1
  | [], d, l, _ => by rw [cutE.cutL, Sm.SmL]; trivial
  | x :: xs, d, l, h => by
    rw [Shs.ShsL] at h
    rw [cutE.cutL]
    split
    · rw [Sm.SmL]
      exact ⟨cut_sm hB x (d + 1) l h.1, go hB xs d _ h.2⟩
    · rw [Sm.SmL]; trivial
theorem nodesL_len : ∀ (ks : List Ex), ks.length ≤ nodes.nodesL ks
  | [] => by simp
  | x :: xs => by
    rw [nodes.nodesL, List.length_cons]
    have h1 := nodesL_len xs
    have h2 := nodes_pos x
    omega
theorem nodesL_mem {y : Ex} : ∀ {ks : List Ex}, y ∈ ks → nodes y ≤ nodes.nodesL ks
  | [], h => absurd h (by simp)
  | x :: xs, h => by
    rw [nodes.nodesL]
    rcases List.mem_cons.1 h with rfl | h
    · omega
    · have := nodesL_mem h; omega
theorem sn_may : ∀ (s : Nat) (x : Ex), SizeOf.sizeOf x ≤ s → Sm x → mall mayN x = true → nodes x ≤ 1000 → Sn x ∧ (rfs x).length ≤ 2 * nodes x := by
  intro s
  induction s with
  | zero =>
    intro x hs
    cases x with
    | mk k n t b e rs ks => simp at hs
  | succ s ih =>
    intro x hs hm ha hn
    cases x with
    | mk k n t b e rs ks =>
      rw [mall, mallL_all] at ha
      obtain ⟨m1, m2⟩ := Bool.and_eq_true_iff.1 ha
      have hr := may_refs m1
      unfold Sm at hm
      rw [nodes] at hn ⊢
      have hk : ∀ y ∈ ks, Sn y ∧ (rfs y).length ≤ 2 * nodes y := fun y hy => by
        obtain ⟨i, hi, rfl⟩ := List.getElem_of_mem hy
        exact ih _ (by have := kid_size (k := k) (n := n) (t := t) (b := b) (e := e) (rs := rs) i hi; omega) (sm_kid hm.2.2 _ hy) (List.all_eq_true.1 m2 _ hy) (by have := nodesL_mem hy; omega)
      refine ⟨?_, ?_⟩
      · unfold Sn
        exact ⟨hm.1, by omega, hm.2.1, by have := nodesL_len ks; omega, snL_of (fun y hy => (hk y hy).1)⟩
      · have hl : ∀ (l : List Ex), (∀ y ∈ l, (rfs y).length ≤ 2 * nodes y) → (rfs.rfsL l).length ≤ 2 * nodes.nodesL l := by
          intro l
          induction l with
          | nil => intro _; simp [rfs.rfsL]
          | cons y ys ih2 =>
            intro h
            rw [rfs.rfsL, nodes.nodesL, List.length_append]
            have h1 := h y (List.mem_cons_self ..)
            have h2 := ih2 (fun z hz => h z (List.mem_cons_of_mem _ hz))
            omega
        have := hl ks (fun y hy => (hk y hy).2)
        rw [rfs, List.length_append]
        omega
theorem gx_of {x : Ex} (hm : Sm x) (h : (fitB x && mall mayN x) = true) : Gx x ∧ (rfs x).length ≤ 1000000 := by
  have h1 := Bool.and_eq_true_iff.1 h
  have h2 := h1.1
  unfold fitB at h2
  have h3 := of_decide_eq_true (Bool.and_eq_true_iff.1 h2).1
  have h4 := sn_may _ x (Nat.le_refl _) hm h1.2 (by omega)
  exact ⟨⟨h4.1, hm, h⟩, by omega⟩
structure Bk (W0 W : World) (x : Ex) (p : Nat) (v0 v1 v2 v3 v4 v5 v6 : Value) : Prop where
  q : Q W0 W
  nd : Nd W p 0 v0 v1 v2 v3 v4 v5 v6
  rd : Rd W x (.agg #[v0, v1, v2, v3, v4, v5, v6])
theorem Bk.on {W0 W W' : World} {x : Ex} {p : Nat} {v0 v1 v2 v3 v4 v5 v6 : Value} (h : Bk W0 W x p v0 v1 v2 v3 v4 v5 v6) (q : Q W W') : Bk W0 W' x p v0 v1 v2 v3 v4 v5 v6 := ⟨h.q.trans q, h.nd.on q, Rd.on q _ _ h.rd⟩
theorem bk_store {W0 w1 w2 : World} {x : Ex} {p : Nat} {c0 c1 c2 c3 c4 c5 c6 d0 d1 d2 d3 d4 d5 d6 : Value} (q1 : Q W0 w1) (q2 : Q w1 w2) (hp : W0.heap.size ≤ p) (hp2 : p < w1.heap.size) (hn : Nd w2 p 0 c0 c1 c2 c3 c4 c5 c6) (hr : Rdg (fun b => b < W0.heap.size ∨ w1.heap.size ≤ b) w2 x (.agg #[d0, d1, d2, d3, d4, d5, d6])) :
    Bk W0 (((((((w2.setCell ⟨p, 0, none⟩ d0).setCell ⟨p, 1, none⟩ d1).setCell ⟨p, 2, none⟩ d2).setCell ⟨p, 3, none⟩ d3).setCell ⟨p, 4, none⟩ d4).setCell ⟨p, 5, none⟩ d5).setCell ⟨p, 6, none⟩ d6) x p d0 d1 d2 d3 d4 d5 d6 := by
  have hn7 := hn.all7 d0 d1 d2 d3 d4 d5 d6
  simp only [Nat.zero_add] at hn7
  have QF : Qx p w2 (((((((w2.setCell ⟨p, 0, none⟩ d0).setCell ⟨p, 1, none⟩ d1).setCell ⟨p, 2, none⟩ d2).setCell ⟨p, 3, none⟩ d3).setCell ⟨p, 4, none⟩ d4).setCell ⟨p, 5, none⟩ d5).setCell ⟨p, 6, none⟩ d6) := (((((((Qx.refl _ _).own _ _).own _ _).own _ _).own _ _).own _ _).own _ _).own _ _
  have hq := q1.trans q2
  exact ⟨⟨QF.os.trans hq.os, QF.tape.trans hq.tape, QF.output.trans hq.output, Nat.le_trans hq.size QF.size, fun i hi => (QF.block i (Nat.lt_of_lt_of_le hi hq.size) (fun e => by have := Option.some.inj e; omega)).trans (Q.block hq hi)⟩, hn7, Rdg.rd _ _ (Rdg.on QF (fun b hb => by omega) _ _ hr)⟩
set_option maxHeartbeats 2000000 in
theorem back_any (x : Ex) (v : Value) (rows : Bool) (a : Int) (W : World) (hg : Gd W) (hr : RdI W x v) (hs : Sm (cutE x 1 220).1) :
    Calls Tryz.prog 6 #[v, .bool rows, .int .i64 a] W fun e W' => e = .returned (.bool true) ∧ Q W W' := by
  have HBG := hid (fun w (q : Q W w) => begun_any w (hg.on q))
  have HCU := hid (fun w (q : Q W w) => cutx_any x v W w hr q)
  obtain ⟨k0, n0, t0, b0, e0, a1, l1, c1, a2, l2, c2, rfl⟩ := hr.shape
  obtain ⟨y, hy⟩ : ∃ y, (cutE x 1 220).1 = y := ⟨_, rfl⟩
  rw [hy] at HCU hs
  have HMY := hid (fun w v (r : Rd w y v) => rmayexpr_any y v w hs r)
  have HGD := hid hg
  have HNB := hid (nd_new W (.int .i64 k0) (.int .i64 n0) (.string t0) (.bool b0) (.int .i64 e0) (.slice a1 l1 c1) (.slice a2 l2 c2) 26)
  obtain ⟨m, hm⟩ : ∃ m, (fitB y && mall mayN y) = m := ⟨_, rfl⟩
  rw [hm] at HMY
  have HMM := hid hm
  have HSM := hid hs
  clear hg hr hs hy hm
  cases m
  · go_enter Tryz.func6, Tryz.ntmps6
    go_wp2_with (first
      | (go_at_call 8; refine (HBG.out _ ((Q.refl _).alloc _)).mono ?_; rintro e9 w1 ⟨rfl, q1⟩; have Q1 : Hid (Q W w1) := hid (((Q.refl _).alloc _).trans q1); have N1 := hid (HNB.out.on q1); clear q1; obtain ⟨y0, y1, y2, y3, y4, y5, y6, _⟩ := N1.out; simp only [Nat.zero_add] at y0 y1 y2 y3 y4 y5 y6)
      | (go_at_call 9; refine (HCU.out _ Q1.out).mono ?_; rintro e9 w2 ⟨v2, rfl, r2, q2⟩; obtain ⟨k2, n2, t2, b2, e2, a3, l3, c3, a4, l4, c4, rfl⟩ := r2.shape; have N2 := hid (N1.out.on q2); have B2 := hid (bk_store Q1.out q2 (Nat.le_refl _) N1.out.pl.lt N2.out r2); clear r2 q2 y0 y1 y2 y3 y4 y5 y6; obtain ⟨y0, y1, y2, y3, y4, y5, y6, yp⟩ := N2.out; have f0 := yp.frozen 0; have f1 := yp.frozen 1; have f2 := yp.frozen 2; have f3 := yp.frozen 3; have f4 := yp.frozen 4; have f5 := yp.frozen 5; have f6 := yp.frozen 6; clear yp; simp only [Nat.zero_add] at y0 y1 y2 y3 y4 y5 y6)
      | (go_at_call 12; refine (HMY.out _ _ B2.out.rd).mono ?_; rintro e9 w4 ⟨rfl, q4⟩; have B4 := hid (B2.out.on q4); clear q4; obtain ⟨z0, z1, z2, z3, z4, z5, z6, _⟩ := B4.out.nd; simp only [Nat.zero_add] at z0 z1 z2 z3 z4 z5 z6))
    go_ret
    exact ⟨rfl, B4.out.q⟩
  · have HGX := hid (gx_of HSM.out HMM.out)
    rcases Int.lt_or_le a 0 with ha | ha
    · go_enter Tryz.func6, Tryz.ntmps6
      go_wp2_with (first
        | (go_at_call 8; refine (HBG.out _ ((Q.refl _).alloc _)).mono ?_; rintro e9 w1 ⟨rfl, q1⟩; have Q1 : Hid (Q W w1) := hid (((Q.refl _).alloc _).trans q1); have N1 := hid (HNB.out.on q1); clear q1; obtain ⟨y0, y1, y2, y3, y4, y5, y6, _⟩ := N1.out; simp only [Nat.zero_add] at y0 y1 y2 y3 y4 y5 y6)
        | (go_at_call 9; refine (HCU.out _ Q1.out).mono ?_; rintro e9 w2 ⟨v2, rfl, r2, q2⟩; obtain ⟨k2, n2, t2, b2, e2, a3, l3, c3, a4, l4, c4, rfl⟩ := r2.shape; have N2 := hid (N1.out.on q2); have B2 := hid (bk_store Q1.out q2 (Nat.le_refl _) N1.out.pl.lt N2.out r2); clear r2 q2 y0 y1 y2 y3 y4 y5 y6; obtain ⟨y0, y1, y2, y3, y4, y5, y6, yp⟩ := N2.out; have f0 := yp.frozen 0; have f1 := yp.frozen 1; have f2 := yp.frozen 2; have f3 := yp.frozen 3; have f4 := yp.frozen 4; have f5 := yp.frozen 5; have f6 := yp.frozen 6; clear yp; simp only [Nat.zero_add] at y0 y1 y2 y3 y4 y5 y6)
        | (go_at_call 12; refine (HMY.out _ _ B2.out.rd).mono ?_; rintro e9 w4 ⟨rfl, q4⟩; have B4 := hid (B2.out.on q4); clear q4; obtain ⟨z0, z1, z2, z3, z4, z5, z6, _⟩ := B4.out.nd; simp only [Nat.zero_add] at z0 z1 z2 z3 z4 z5 z6))
      go_ret
      exact ⟨rfl, B4.out.q⟩
    · rcases Int.lt_or_le 1099511627776 a with ha2 | ha2
      · go_enter Tryz.func6, Tryz.ntmps6
        go_wp2_with (first
          | (go_at_call 8; refine (HBG.out _ ((Q.refl _).alloc _)).mono ?_; rintro e9 w1 ⟨rfl, q1⟩; have Q1 : Hid (Q W w1) := hid (((Q.refl _).alloc _).trans q1); have N1 := hid (HNB.out.on q1); clear q1; obtain ⟨y0, y1, y2, y3, y4, y5, y6, _⟩ := N1.out; simp only [Nat.zero_add] at y0 y1 y2 y3 y4 y5 y6)
          | (go_at_call 9; refine (HCU.out _ Q1.out).mono ?_; rintro e9 w2 ⟨v2, rfl, r2, q2⟩; obtain ⟨k2, n2, t2, b2, e2, a3, l3, c3, a4, l4, c4, rfl⟩ := r2.shape; have N2 := hid (N1.out.on q2); have B2 := hid (bk_store Q1.out q2 (Nat.le_refl _) N1.out.pl.lt N2.out r2); clear r2 q2 y0 y1 y2 y3 y4 y5 y6; obtain ⟨y0, y1, y2, y3, y4, y5, y6, yp⟩ := N2.out; have f0 := yp.frozen 0; have f1 := yp.frozen 1; have f2 := yp.frozen 2; have f3 := yp.frozen 3; have f4 := yp.frozen 4; have f5 := yp.frozen 5; have f6 := yp.frozen 6; clear yp; simp only [Nat.zero_add] at y0 y1 y2 y3 y4 y5 y6)
          | (go_at_call 12; refine (HMY.out _ _ B2.out.rd).mono ?_; rintro e9 w4 ⟨rfl, q4⟩; have B4 := hid (B2.out.on q4); clear q4; obtain ⟨z0, z1, z2, z3, z4, z5, z6, _⟩ := B4.out.nd; simp only [Nat.zero_add] at z0 z1 z2 z3 z4 z5 z6))
        go_ret
        exact ⟨rfl, B4.out.q⟩
      · have HRF := hid (fun w v (r : Rd w y v) => rrefs_any _ y v w (Nat.le_refl _) r HGX.out.2)
        have HLI := hid (fun w v (q : Q W w) (r : Rd w y v) => lines_any y v ⟨#[99, 48, 110, 48]⟩ ⟨#[99, 48, 110, 48]⟩ rows 1 a 0 w (HGD.out.on q) r HGX.out.1.sn HGX.out.1.sm HGX.out.1.nodes HGX.out.1.may)
        obtain ⟨y1, hy1⟩ : ∃ y1, lnE (⟨#[99, 48, 110, 48]⟩ : ByteArray).data.toList (⟨#[99, 48, 110, 48]⟩ : ByteArray).data.toList rows 1 a 0 y = y1 := ⟨_, rfl⟩
        rw [hy1] at HLI
        have HG1 := hid (hy1 ▸ HGX.out.1.ln (⟨#[99, 48, 110, 48]⟩ : ByteArray).data.toList (⟨#[99, 48, 110, 48]⟩ : ByteArray).data.toList rows 1 a 0)
        have HL2 := hid (fun w v (q : Q W w) (r : Rd w y1 v) => lines_any y1 v ⟨#[99, 48, 110, 48]⟩ ⟨#[99, 48, 110, 48]⟩ rows 2 a 0 w (HGD.out.on q) r HG1.out.sn HG1.out.sm HG1.out.nodes HG1.out.may)
        have HBK := hid (fun hr => hy1 ▸ ln_back HGX.out.1 (⟨#[99, 48, 110, 48]⟩ : ByteArray).data.toList (⟨#[99, 48, 110, 48]⟩ : ByteArray).data.toList rows a ha ha2 hr)
        have HEQ := hid (fun w v v' (r : Rd w y v) (r' : Rd w y v') => eqexpr_any _ y y v v' w (Nat.le_refl _) r r')
        have HRL := hid HGX.out.2
        clear hy1
        go_enter Tryz.func6, Tryz.ntmps6
        go_wp2_with (first
          | (go_at_call 8; refine (HBG.out _ ((Q.refl _).alloc _)).mono ?_; rintro e9 w1 ⟨rfl, q1⟩; have Q1 : Hid (Q W w1) := hid (((Q.refl _).alloc _).trans q1); have N1 := hid (HNB.out.on q1); clear q1; obtain ⟨y0, y1, y2, y3, y4, y5, y6, _⟩ := N1.out; simp only [Nat.zero_add] at y0 y1 y2 y3 y4 y5 y6)
          | (go_at_call 9; refine (HCU.out _ Q1.out).mono ?_; rintro e9 w2 ⟨v2, rfl, r2, q2⟩; obtain ⟨k2, n2, t2, b2, e2, a3, l3, c3, a4, l4, c4, rfl⟩ := r2.shape; have N2 := hid (N1.out.on q2); have B2 := hid (bk_store Q1.out q2 (Nat.le_refl _) N1.out.pl.lt N2.out r2); clear r2 q2 y0 y1 y2 y3 y4 y5 y6; obtain ⟨y0, y1, y2, y3, y4, y5, y6, yp⟩ := N2.out; have f0 := yp.frozen 0; have f1 := yp.frozen 1; have f2 := yp.frozen 2; have f3 := yp.frozen 3; have f4 := yp.frozen 4; have f5 := yp.frozen 5; have f6 := yp.frozen 6; clear yp; simp only [Nat.zero_add] at y0 y1 y2 y3 y4 y5 y6)
          | (go_at_call 12; refine (HMY.out _ _ B2.out.rd).mono ?_; rintro e9 w4 ⟨rfl, q4⟩; have B4 := hid (B2.out.on q4); clear q4; obtain ⟨z0, z1, z2, z3, z4, z5, z6, _⟩ := B4.out.nd; simp only [Nat.zero_add] at z0 z1 z2 z3 z4 z5 z6)
          | (go_at_call 18; refine (HRF.out _ _ B4.out.rd).mono ?_; rintro e9 w5 ⟨v5, rfl, o5, q5⟩; have B5 := hid (B4.out.on q5); have O5 := hid o5; obtain ⟨ao5, co5, hv5, hc5, hd5⟩ := (o5.sl rf_len (by omega)).len; subst hv5; clear o5 q5 z0 z1 z2 z3 z4 z5 z6; obtain ⟨z0, z1, z2, z3, z4, z5, z6, _⟩ := B5.out.nd; simp only [Nat.zero_add] at z0 z1 z2 z3 z4 z5 z6))
        have hroom : (rfs y).length ≤ 9223372036854775807 := by have := HRL.out; omega
        go_loopw [9] (fun z W' => ∃ i : Nat, i ≤ (rfs y).length ∧ z = .int .i64 (i : Int) ∧ W' = w5 ∧ Hid (∀ r ∈ (rfs y).take i, r.2.1 ≤ 1099511627776 ∧ r.2.2.1 ≤ 1099511627776)) (fun z _ => (rfs y).length - (intOf z).toNat)
        case atStart => exact ⟨0, Nat.zero_le _, rfl, rfl, hid (fun r hr => absurd hr (by simp))⟩
        case round =>
          obtain ⟨i, hik, rfl, rfl, hA⟩ := hrel
          by_cases hlt : i < (rfs y).length
          · obtain ⟨g5, cg5, hvv, _⟩ := O5.out.shape (by omega)
            simp only [Value.slice.injEq] at hvv
            obtain ⟨rfl, _, rfl⟩ := hvv
            have hcl := O5.out.cell rf_len hlt
            have x1 := hcl 1 _ rfl
            have x2 := hcl 2 _ rfl
            have HRR := hid (List.take_succ_eq_append_getElem hlt)
            obtain ⟨r1, hr1⟩ : ∃ r1, (rfs y)[i] = r1 := ⟨_, rfl⟩
            rw [hr1] at x1 x2 HRR
            clear hcl hr1
            rcases Int.lt_or_le 1099511627776 r1.2.1 with hrow | hrow
            · go_wp2_with fail
              go_ret
              exact ⟨rfl, B5.out.q⟩
            · rcases Int.lt_or_le 1099511627776 r1.2.2.1 with hcol | hcol
              · go_wp2_with fail
                go_ret
                exact ⟨rfl, B5.out.q⟩
              · go_wp2_with fail
                go_roundw
                case rel => exact ⟨i + 1, by omega, by go_num, by first | rfl | trivial, hid (fun r hr => by
                  rw [HRR.out] at hr
                  rcases List.mem_append.1 hr with hr | hr
                  · exact hA.out r hr
                  · simp at hr; subst hr; exact ⟨hrow, hcol⟩)⟩
                case measure => simp [intOf]; omega
          · have HB2 := hid (HBK.out (fun r hr => hA.out r (by rw [List.take_of_length_le (by omega)]; exact hr)))
            clear hA
            go_wp2_with (first
              | (go_at_call 11; first
                  | (refine (HLI.out _ _ B5.out.q B5.out.rd).mono ?_; rintro e9 w6 ⟨v6, rfl, q6, lo6, hi6, _, _, ow6⟩; obtain ⟨k6, n6, t6, b6, e6, a6, l6, c6, a7, l7, c7, rfl⟩ := ow6.shape; have R6 := hid (Rdg.rd _ _ (Ow.rdg (g := fun _ => True) _ _ _ _ (fun _ _ _ => trivial) ow6)); have B6 := hid (B5.out.on q6); clear ow6 q6 z0 z1 z2 z3 z4 z5 z6; obtain ⟨z0, z1, z2, z3, z4, z5, z6, zp⟩ := B6.out.nd; have hplt : W.heap.size < w6.heap.size := zp.lt; clear zp HLI; simp only [Nat.zero_add] at z0 z1 z2 z3 z4 z5 z6)
                  | (refine (HL2.out _ _ (B6.out.q.alloc _) (Rd.on ((Q.refl _).alloc _) _ _ R6.out)).mono ?_; rintro e9 w8 ⟨v8, rfl, q8, lo8, hi8, _, _, ow8⟩; rw [HB2.out] at ow8; obtain ⟨k8, n8, t8, b8, e8, a8, l8, c8, a9, l9, c9, rfl⟩ := ow8.shape; have R8 := hid (Rdg.rd _ _ (Ow.rdg (g := fun _ => True) _ _ _ _ (fun _ _ _ => trivial) ow8)); have B8 := hid (B6.out.on (((Q.refl _).alloc _).trans q8)); clear ow8 q8 z0 z1 z2 z3 z4 z5 z6; obtain ⟨z0, z1, z2, z3, z4, z5, z6, zp⟩ := B8.out.nd; have hplt2 : W.heap.size < w8.heap.size := zp.lt; clear zp; simp only [Nat.zero_add] at z0 z1 z2 z3 z4 z5 z6))
              | (go_at_call 13; refine (HEQ.out _ _ _ (Rd.on ((Q.refl _).alloc _) _ _ R8.out) (B8.out.on ((Q.refl _).alloc _)).rd).mono ?_; rintro e9 w10 ⟨⟨r10, rfl, h10⟩, q10⟩; obtain rfl : r10 = true := h10.2 (by trivial); have Q10 := hid ((B8.out.q.alloc _).trans q10); clear q10 h10))
            go_ret
            exact ⟨rfl, Q10.out⟩
end Go.Proofs.YtoikodohcieipaaGreatDoor
