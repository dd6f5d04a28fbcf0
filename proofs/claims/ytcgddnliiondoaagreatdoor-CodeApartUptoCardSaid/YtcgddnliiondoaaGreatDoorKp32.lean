/- CodeApart, walked. -/
import Derived.Test.YtcgddnliiondoaaGreatDoorKp29
import Derived.Test.YtcgddnliiondoaaGreatDoorKp31
set_option linter.unusedVariables false
set_option linter.unusedSimpArgs false
set_option maxRecDepth 100000
set_option maxHeartbeats 8000000
namespace Go.Proofs.YtcgddnliiondoaaGreatDoor
open Go.RowKit
open IV
set_option linter.unusedVariables false
set_option linter.unusedSimpArgs false
section
variable {P : Program} {ops : Array Oper} {Q : Exit → Act → World → Prop} {a0 : Act} {ds : List Nat} {J : (Nat → Value) → World → Prop} {v : Nat → Value} {w : World} {i : Nat} {o : Oper}
theorem unwanted_of {g d : Nat} {b b' : Bool} (hg : o.guard = some (g, b)) (ho : (ops[g]?).bind (·.dst) = some d) (hm : d ∈ ds) (hs : (a0.tmps[d]?).isSome = true) (hv : v d = .bool b') (hne : b' ≠ b) :
    Region.wanted o (yielded ops (frm a0 ds v).tmps) = false := by
  unfold Region.wanted yielded
  rw [hg]
  simp only [ho, Option.bind_some, frm_get hm hs, hv]
  cases b <;> cases b' <;> first | rfl | exact absurd rfl hne
theorem opw_skip {d : Nat} (g dg : Nat) (b b' : Bool) (ho : ops[i]? = some o) (hg : o.guard = some (g, b)) (hgo : (ops[g]?).bind (·.dst) = some dg) (hgm : dg ∈ ds) (hgs : (a0.tmps[dg]?).isSome = true) (hgv : v dg = .bool b') (hne : b' ≠ b) (hd : o.dst = some d) (hm : d ∈ ds) (hI : J (up v d undef) w) :
    WO P ops Q i (Ks a0 ds J) (frm a0 ds v) w := by
  refine ⟨wpOp_step ho fun K' hK => ?_⟩
  rw [if_neg (by rw [unwanted_of hg hgo hgm hgs hgv hne]; exact Bool.false_ne_true)]
  exact hK _ _ ⟨up v d undef, by rw [hd]; exact frm_put hm, hI⟩
end
def dstA (j : Nat) : Nat := if j = 20 then 4 else 27 + j
def valA (e f : Int) (b1 b2 b3 : Bool) (va vb : Value) (S T : ByteArray) (c1 : Bool) (v0 v1 : Value) (j : Nat) : Value :=
  if j = 2 then .int .i64 e else if j = 3 then .bool b1 else if j = 4 then .bool b1 else if j = 5 then .int .i64 f else if j = 6 then .bool b2
  else if j = 7 then .bool b3 else if j = 8 then .bool b3 else if j = 9 then va else if j = 10 then .string S else if j = 11 then vb else if j = 12 then .string T
  else if j = 13 then .bool c1 else if j = 14 then v0 else if j = 15 then v1 else if j = 16 then .bool c1 else .bool true
def wdA (b1 b3 : Bool) (j : Nat) : Bool := if j = 5 ∨ j = 6 then !b1 else if 9 ≤ j ∧ j ≤ 17 then !b3 else true
structure AI (w : World) (wd : Nat → Bool) (val : Nat → Value) (L : Nat → Bool) (v : Nat → Value) (W : World) : Prop where
  q : Q w W
  mv : ∀ j, j < 21 → L j = true → wd j = true → v (dstA j) = val j
theorem AI.m {w W W' : World} {wd : Nat → Bool} {val : Nat → Value} {L : Nat → Bool} {v : Nat → Value} {x : Value} (J : AI w wd val L v W) (q : Q W W') (j : Nat) (hj : j < 21) (hx : x = val j) : AI w wd val (ul L j) (up v (dstA j) x) W' := by
  refine ⟨J.q.trans q, fun i hi h hw => ?_⟩
  by_cases e : i = j
  · subst e; rw [up_same9]; exact hx
  · rw [ul_ne9 e] at h
    rw [up_ne9 (by unfold dstA; split <;> split <;> omega)]
    exact J.mv i hi h hw
theorem AI.s {w W : World} {wd : Nat → Bool} {val : Nat → Value} {L : Nat → Bool} {v : Nat → Value} (J : AI w wd val L v W) (j : Nat) (hj : j < 21) (h : wd j = false) : AI w wd val (ul L j) (up v (dstA j) undef) W := by
  refine ⟨J.q, fun i hi hl hw => ?_⟩
  by_cases e : i = j
  · subst e; rw [h] at hw; cases hw
  · rw [ul_ne9 e] at hl
    rw [up_ne9 (by unfold dstA; split <;> split <;> omega)]
    exact J.mv i hi hl hw
theorem EncP.any {w : World} {ok : Bool} {bs : List UInt8} {e : Ending} {W' : World} (h : EncP w ok bs e W') : ∃ va, e = .returned (.tuple #[va, .int .i64 (if ok then 0 else 4)]) ∧ (ok = true → Sl eb 1 W' va bs) ∧ Q w W' := by
  obtain ⟨h1, h2, h3⟩ := h
  cases ok
  · exact ⟨_, h3 rfl, fun e => absurd e Bool.false_ne_true, h1⟩
  · obtain ⟨vb, e1, e2⟩ := h2 rfl
    exact ⟨vb, e1, fun _ => e2, h1⟩
set_option maxHeartbeats 16000000 in
theorem codeapart_any (v0 v1 : Value) (xs ys : List Rv) (w : World) (hg : Gd w) (h0 : Sl Rv.L 23 w v0 xs) (ho0 : ∀ x ∈ xs, OpI w x) (h1 : Sl Rv.L 23 w v1 ys) (ho1 : ∀ x ∈ ys, OpI w x) : Calls Tryz.prog 5 #[v0, v1] w fun e V' => e = .returned (.bool true) ∧ Q w V' := by
  have HG := hid hg
  have HC0 := hid (fun V (q : Q w V) => cutall_any v0 xs 4 w V (by omega) h0 ho0 q)
  have HC1 := hid (fun V (q : Q w V) => cutall_any v1 ys 4 w V (by omega) h1 ho1 q)
  clear h0 ho0 h1 ho1 hg
  go_enter Tryz.func5, Tryz.ntmps5
  go_upto_region 4 with (go_at_call 8; refine (begun_any _ HG.out).mono ?_; rintro e9 V0 ⟨rfl, q9⟩; have HQ0 := hid q9; clear q9)
  go_upto_region 5 with (first
    | (go_at_call 9; refine (HC0.out _ HQ0.out).mono ?_; intro e9 V1 hcp; obtain ⟨zs, u0, rfl, hzs, hog, _, q9⟩ := hcp; have HZ := hid hzs; have HO := hid hog; have HQ1 : Hid (Q w V1) := hid (HQ0.out.trans q9); clear hzs hog q9 HC0 HQ0)
    | (go_at_call 9; refine (HC1.out _ HQ1.out).mono ?_; intro e9 V2 hcp; obtain ⟨us, u1, rfl, hus, hog, _, q9⟩ := hcp; have HU := hid hus; have HP := hid hog; have HQ2 : Hid (Q w V2) := hid (HQ1.out.trans q9); have HQ12 : Hid (Q V1 V2) := hid q9; clear hus hog q9 HC1 HQ1))
  obtain ⟨l, k1, E0⟩ := encode_cut u0 zs V2 (HG.out.on HQ2.out) (HZ.out.on HQ12.out) (fun y hy => by
    obtain ⟨b, hb⟩ := HO.out y hy
    exact ⟨b, hb.on HQ12.out⟩)
  obtain ⟨m, k2, E1⟩ := encode_cut u1 us V2 (HG.out.on HQ2.out) HU.out HP.out
  have HE0 := hid E0
  have HE1 := hid E1
  clear E0 E1 HZ HO HU HP HQ12 HG
  go_upto_region 6 with (go_at_call 10; refine (HE0.out.c _ (Q.refl _)).mono ?_; intro e9 V3 hcp; obtain ⟨va, rfl, hs9, q9⟩ := hcp.any; have HVA := hid hs9; have HQ3 := hid q9; clear hcp hs9 q9)
  go_upto_region 7 with (go_at_call 10; refine (HE1.out.c _ HQ3.out).mono ?_; intro e9 w4 hcp; obtain ⟨vb, rfl, hs9, q9⟩ := hcp.any; have HVB := hid hs9; have HQ34 := hid q9; have HQ24 : Hid (Q V2 w4) := hid (HQ3.out.trans q9); have HQ4 : Hid (Q w w4) := hid (HQ2.out.trans HQ24.out); clear hcp hs9 q9)
  obtain ⟨S0, _⟩ : ∃ S0 : ByteArray, S0 = S0 := ⟨⟨#[]⟩, rfl⟩
  by_cases hk1 : k1 = false
  · subst hk1
    simp only [Bool.false_eq_true, if_false]
    clear HVA HVB HE0 HE1
    generalize (if k2 = true then (0 : Int) else 4) = f9
    refine wp_region_invw (by kernel_rfl) [27, 28, 29, 30, 31, 32, 33, 34, 35, 36, 37, 38, 39, 40, 41, 42, 43, 44, 45, 46, 4] (AI w4 (wdA true true) (valA 4 0 true true true va vb S0 S0 true u0 u1)) (by kernel_rfl) (steps_list ⟨?oA0, ?oA1, ?oA2, ?oA3, ?oA4, ?oA5, ?oA6, ?oA7, ?oA8, ?oA9, ?oA10, ?oA11, ?oA12, ?oA13, ?oA14, ?oA15, ?oA16, ?oA17, ?oA18, ?oA19, ?oA20, trivial⟩) ⟨(Q.refl _).drew, fun j _ h => absurd h Bool.false_ne_true⟩ ?restA
    case oA0 =>
      intro L v W J hL hd
      refine opw_val rfl rfl rfl (by decide) (by simp only [frm, List.foldl_cons, List.foldl_nil, List.setIfInBounds_toArray, List.set_cons_zero, List.set_cons_succ]; (go_simp) <;> (first | exact ⟨⟨rfl, rfl⟩, rfl⟩ | exact ⟨rfl, rfl⟩ | with_reducible rfl)) ?_
      exact J.m (Q.refl _) 0 (by decide) rfl
    case oA1 =>
      intro L v W J hL hd
      have h0 : v 27 = .bool true := J.mv 0 (by decide) (hd 0 (by decide)) rfl
      refine opw_val rfl rfl rfl (by decide) (by simp only [frm, List.foldl_cons, List.foldl_nil, List.setIfInBounds_toArray, List.set_cons_zero, List.set_cons_succ]; (go_simp) <;> (first | exact ⟨⟨rfl, rfl⟩, rfl⟩ | exact ⟨rfl, rfl⟩ | with_reducible rfl)) ?_
      exact J.m (Q.refl _) 1 (by decide) rfl
    case oA2 =>
      intro L v W J hL hd
      have h1 : v 28 = .bool true := J.mv 1 (by decide) (hd 1 (by decide)) rfl
      refine opw_valG 1 28 true rfl rfl rfl (by decide) rfl h1 rfl (by decide) (by simp only [frm, List.foldl_cons, List.foldl_nil, List.setIfInBounds_toArray, List.set_cons_zero, List.set_cons_succ]; (go_simp) <;> (first | exact ⟨⟨rfl, rfl⟩, rfl⟩ | exact ⟨rfl, rfl⟩ | with_reducible rfl)) ?_
      exact J.m (Q.refl _) 2 (by decide) rfl
    case oA3 =>
      intro L v W J hL hd
      have h1 : v 28 = .bool true := J.mv 1 (by decide) (hd 1 (by decide)) rfl
      have h2 : v 29 = .int .i64 4 := J.mv 2 (by decide) (hd 2 (by decide)) rfl
      refine opw_valG 1 28 true rfl rfl rfl (by decide) rfl h1 rfl (by decide) (by simp only [frm, List.foldl_cons, List.foldl_nil, List.setIfInBounds_toArray, List.set_cons_zero, List.set_cons_succ]; (go_simp) <;> (first | exact ⟨⟨rfl, rfl⟩, rfl⟩ | exact ⟨rfl, rfl⟩ | with_reducible rfl)) ?_
      exact J.m (Q.refl _) 3 (by decide) rfl
    case oA4 =>
      intro L v W J hL hd
      have h1 : v 28 = .bool true := J.mv 1 (by decide) (hd 1 (by decide)) rfl
      have h3 : v 30 = .bool true := J.mv 3 (by decide) (hd 3 (by decide)) rfl
      refine opw_valG 1 28 true rfl rfl rfl (by decide) rfl h1 rfl (by decide) (by simp only [frm, List.foldl_cons, List.foldl_nil, List.setIfInBounds_toArray, List.set_cons_zero, List.set_cons_succ]; (go_simp) <;> (first | exact ⟨⟨rfl, rfl⟩, rfl⟩ | exact ⟨rfl, rfl⟩ | with_reducible rfl)) ?_
      exact J.m (Q.refl _) 4 (by decide) rfl
    case oA5 =>
      intro L v W J hL hd
      have h4 : v 31 = .bool true := J.mv 4 (by decide) (hd 4 (by decide)) rfl
      exact opw_skip 4 31 false true rfl rfl rfl (by decide) rfl h4 (by decide) rfl (by decide) (J.s 5 (by decide) rfl)
    case oA6 =>
      intro L v W J hL hd
      have h4 : v 31 = .bool true := J.mv 4 (by decide) (hd 4 (by decide)) rfl
      exact opw_skip 4 31 false true rfl rfl rfl (by decide) rfl h4 (by decide) rfl (by decide) (J.s 6 (by decide) rfl)
    case oA7 =>
      intro L v W J hL hd
      have h1 : v 28 = .bool true := J.mv 1 (by decide) (hd 1 (by decide)) rfl
      have h4 : v 31 = .bool true := J.mv 4 (by decide) (hd 4 (by decide)) rfl
      refine opw_valG 1 28 true rfl rfl rfl (by decide) rfl h1 rfl (by decide) (by simp only [frm, List.foldl_cons, List.foldl_nil, List.setIfInBounds_toArray, List.set_cons_zero, List.set_cons_succ]; (go_simp) <;> (first | exact ⟨⟨rfl, rfl⟩, rfl⟩ | exact ⟨rfl, rfl⟩ | with_reducible rfl)) ?_
      exact J.m (Q.refl _) 7 (by decide) rfl
    case oA8 =>
      intro L v W J hL hd
      have h1 : v 28 = .bool true := J.mv 1 (by decide) (hd 1 (by decide)) rfl
      have h7 : v 34 = .bool true := J.mv 7 (by decide) (hd 7 (by decide)) rfl
      refine opw_valG 1 28 true rfl rfl rfl (by decide) rfl h1 rfl (by decide) (by simp only [frm, List.foldl_cons, List.foldl_nil, List.setIfInBounds_toArray, List.set_cons_zero, List.set_cons_succ]; (go_simp) <;> (first | exact ⟨⟨rfl, rfl⟩, rfl⟩ | exact ⟨rfl, rfl⟩ | with_reducible rfl)) ?_
      exact J.m (Q.refl _) 8 (by decide) rfl
    case oA9 =>
      intro L v W J hL hd
      have h8 : v 35 = .bool true := J.mv 8 (by decide) (hd 8 (by decide)) rfl
      exact opw_skip 8 35 false true rfl rfl rfl (by decide) rfl h8 (by decide) rfl (by decide) (J.s 9 (by decide) rfl)
    case oA10 =>
      intro L v W J hL hd
      have h8 : v 35 = .bool true := J.mv 8 (by decide) (hd 8 (by decide)) rfl
      exact opw_skip 8 35 false true rfl rfl rfl (by decide) rfl h8 (by decide) rfl (by decide) (J.s 10 (by decide) rfl)
    case oA11 =>
      intro L v W J hL hd
      have h8 : v 35 = .bool true := J.mv 8 (by decide) (hd 8 (by decide)) rfl
      exact opw_skip 8 35 false true rfl rfl rfl (by decide) rfl h8 (by decide) rfl (by decide) (J.s 11 (by decide) rfl)
    case oA12 =>
      intro L v W J hL hd
      have h8 : v 35 = .bool true := J.mv 8 (by decide) (hd 8 (by decide)) rfl
      exact opw_skip 8 35 false true rfl rfl rfl (by decide) rfl h8 (by decide) rfl (by decide) (J.s 12 (by decide) rfl)
    case oA13 =>
      intro L v W J hL hd
      have h8 : v 35 = .bool true := J.mv 8 (by decide) (hd 8 (by decide)) rfl
      exact opw_skip 8 35 false true rfl rfl rfl (by decide) rfl h8 (by decide) rfl (by decide) (J.s 13 (by decide) rfl)
    case oA14 =>
      intro L v W J hL hd
      have h8 : v 35 = .bool true := J.mv 8 (by decide) (hd 8 (by decide)) rfl
      exact opw_skip 8 35 false true rfl rfl rfl (by decide) rfl h8 (by decide) rfl (by decide) (J.s 14 (by decide) rfl)
    case oA15 =>
      intro L v W J hL hd
      have h8 : v 35 = .bool true := J.mv 8 (by decide) (hd 8 (by decide)) rfl
      exact opw_skip 8 35 false true rfl rfl rfl (by decide) rfl h8 (by decide) rfl (by decide) (J.s 15 (by decide) rfl)
    case oA16 =>
      intro L v W J hL hd
      have h8 : v 35 = .bool true := J.mv 8 (by decide) (hd 8 (by decide)) rfl
      exact opw_skip 8 35 false true rfl rfl rfl (by decide) rfl h8 (by decide) rfl (by decide) (J.s 16 (by decide) rfl)
    case oA17 =>
      intro L v W J hL hd
      have h8 : v 35 = .bool true := J.mv 8 (by decide) (hd 8 (by decide)) rfl
      exact opw_skip 8 35 false true rfl rfl rfl (by decide) rfl h8 (by decide) rfl (by decide) (J.s 17 (by decide) rfl)
    case oA18 =>
      intro L v W J hL hd
      have h1 : v 28 = .bool true := J.mv 1 (by decide) (hd 1 (by decide)) rfl
      have h8 : v 35 = .bool true := J.mv 8 (by decide) (hd 8 (by decide)) rfl
      refine opw_valG 1 28 true rfl rfl rfl (by decide) rfl h1 rfl (by decide) (by simp only [frm, List.foldl_cons, List.foldl_nil, List.setIfInBounds_toArray, List.set_cons_zero, List.set_cons_succ]; (go_simp) <;> (first | exact ⟨⟨rfl, rfl⟩, rfl⟩ | exact ⟨rfl, rfl⟩ | with_reducible rfl)) ?_
      exact J.m (Q.refl _) 18 (by decide) rfl
    case oA19 =>
      intro L v W J hL hd
      have h1 : v 28 = .bool true := J.mv 1 (by decide) (hd 1 (by decide)) rfl
      have h18 : v 45 = .bool true := J.mv 18 (by decide) (hd 18 (by decide)) rfl
      refine opw_val rfl rfl rfl (by decide) (by simp only [frm, List.foldl_cons, List.foldl_nil, List.setIfInBounds_toArray, List.set_cons_zero, List.set_cons_succ]; (go_simp) <;> (first | exact ⟨⟨rfl, rfl⟩, rfl⟩ | exact ⟨rfl, rfl⟩ | with_reducible rfl)) ?_
      exact J.m (Q.refl _) 19 (by decide) rfl
    case oA20 =>
      intro L v W J hL hd
      have h19 : v 46 = .bool true := J.mv 19 (by decide) (hd 19 (by decide)) rfl
      refine opw_val rfl rfl rfl (by decide) (by simp only [frm, List.foldl_cons, List.foldl_nil, List.setIfInBounds_toArray, List.set_cons_zero, List.set_cons_succ]; (go_simp) <;> (first | exact ⟨⟨rfl, rfl⟩, rfl⟩ | exact ⟨rfl, rfl⟩ | with_reducible rfl)) ?_
      exact J.m (Q.refl _) 20 (by decide) rfl
    intro L v W hall J
    have h20 : v 4 = .bool true := J.mv 20 (by decide) (hall 20 (by decide)) rfl
    have HQ9 := hid J.q
    simp only [frm, List.foldl_cons, List.foldl_nil, List.setIfInBounds_toArray, List.set_cons_zero, List.set_cons_succ]
    simp only [h20]
    clear hall J h20
    go_wp2_with fail
    go_ret
    exact ⟨rfl, HQ4.out.trans HQ9.out⟩
  replace hk1 : k1 = true := by simpa using hk1
  by_cases hk2 : k2 = false
  · subst hk1 hk2
    simp only [Bool.false_eq_true, if_false, if_true]
    clear HVA HVB HE0 HE1
    refine wp_region_invw (by kernel_rfl) [27, 28, 29, 30, 31, 32, 33, 34, 35, 36, 37, 38, 39, 40, 41, 42, 43, 44, 45, 46, 4] (AI w4 (wdA false true) (valA 0 4 false true true va vb S0 S0 true u0 u1)) (by kernel_rfl) (steps_list ⟨?oB0, ?oB1, ?oB2, ?oB3, ?oB4, ?oB5, ?oB6, ?oB7, ?oB8, ?oB9, ?oB10, ?oB11, ?oB12, ?oB13, ?oB14, ?oB15, ?oB16, ?oB17, ?oB18, ?oB19, ?oB20, trivial⟩) ⟨(Q.refl _).drew, fun j _ h => absurd h Bool.false_ne_true⟩ ?restB
    case oB0 =>
      intro L v W J hL hd
      refine opw_val rfl rfl rfl (by decide) (by simp only [frm, List.foldl_cons, List.foldl_nil, List.setIfInBounds_toArray, List.set_cons_zero, List.set_cons_succ]; (go_simp) <;> (first | exact ⟨⟨rfl, rfl⟩, rfl⟩ | exact ⟨rfl, rfl⟩ | with_reducible rfl)) ?_
      exact J.m (Q.refl _) 0 (by decide) rfl
    case oB1 =>
      intro L v W J hL hd
      have h0 : v 27 = .bool true := J.mv 0 (by decide) (hd 0 (by decide)) rfl
      refine opw_val rfl rfl rfl (by decide) (by simp only [frm, List.foldl_cons, List.foldl_nil, List.setIfInBounds_toArray, List.set_cons_zero, List.set_cons_succ]; (go_simp) <;> (first | exact ⟨⟨rfl, rfl⟩, rfl⟩ | exact ⟨rfl, rfl⟩ | with_reducible rfl)) ?_
      exact J.m (Q.refl _) 1 (by decide) rfl
    case oB2 =>
      intro L v W J hL hd
      have h1 : v 28 = .bool true := J.mv 1 (by decide) (hd 1 (by decide)) rfl
      refine opw_valG 1 28 true rfl rfl rfl (by decide) rfl h1 rfl (by decide) (by simp only [frm, List.foldl_cons, List.foldl_nil, List.setIfInBounds_toArray, List.set_cons_zero, List.set_cons_succ]; (go_simp) <;> (first | exact ⟨⟨rfl, rfl⟩, rfl⟩ | exact ⟨rfl, rfl⟩ | with_reducible rfl)) ?_
      exact J.m (Q.refl _) 2 (by decide) rfl
    case oB3 =>
      intro L v W J hL hd
      have h1 : v 28 = .bool true := J.mv 1 (by decide) (hd 1 (by decide)) rfl
      have h2 : v 29 = .int .i64 0 := J.mv 2 (by decide) (hd 2 (by decide)) rfl
      refine opw_valG 1 28 true rfl rfl rfl (by decide) rfl h1 rfl (by decide) (by simp only [frm, List.foldl_cons, List.foldl_nil, List.setIfInBounds_toArray, List.set_cons_zero, List.set_cons_succ]; (go_simp) <;> (first | exact ⟨⟨rfl, rfl⟩, rfl⟩ | exact ⟨rfl, rfl⟩ | with_reducible rfl)) ?_
      exact J.m (Q.refl _) 3 (by decide) rfl
    case oB4 =>
      intro L v W J hL hd
      have h1 : v 28 = .bool true := J.mv 1 (by decide) (hd 1 (by decide)) rfl
      have h3 : v 30 = .bool false := J.mv 3 (by decide) (hd 3 (by decide)) rfl
      refine opw_valG 1 28 true rfl rfl rfl (by decide) rfl h1 rfl (by decide) (by simp only [frm, List.foldl_cons, List.foldl_nil, List.setIfInBounds_toArray, List.set_cons_zero, List.set_cons_succ]; (go_simp) <;> (first | exact ⟨⟨rfl, rfl⟩, rfl⟩ | exact ⟨rfl, rfl⟩ | with_reducible rfl)) ?_
      exact J.m (Q.refl _) 4 (by decide) rfl
    case oB5 =>
      intro L v W J hL hd
      have h4 : v 31 = .bool false := J.mv 4 (by decide) (hd 4 (by decide)) rfl
      refine opw_valG 4 31 false rfl rfl rfl (by decide) rfl h4 rfl (by decide) (by simp only [frm, List.foldl_cons, List.foldl_nil, List.setIfInBounds_toArray, List.set_cons_zero, List.set_cons_succ]; (go_simp) <;> (first | exact ⟨⟨rfl, rfl⟩, rfl⟩ | exact ⟨rfl, rfl⟩ | with_reducible rfl)) ?_
      exact J.m (Q.refl _) 5 (by decide) rfl
    case oB6 =>
      intro L v W J hL hd
      have h4 : v 31 = .bool false := J.mv 4 (by decide) (hd 4 (by decide)) rfl
      have h5 : v 32 = .int .i64 4 := J.mv 5 (by decide) (hd 5 (by decide)) rfl
      refine opw_valG 4 31 false rfl rfl rfl (by decide) rfl h4 rfl (by decide) (by simp only [frm, List.foldl_cons, List.foldl_nil, List.setIfInBounds_toArray, List.set_cons_zero, List.set_cons_succ]; (go_simp) <;> (first | exact ⟨⟨rfl, rfl⟩, rfl⟩ | exact ⟨rfl, rfl⟩ | with_reducible rfl)) ?_
      exact J.m (Q.refl _) 6 (by decide) rfl
    case oB7 =>
      intro L v W J hL hd
      have h1 : v 28 = .bool true := J.mv 1 (by decide) (hd 1 (by decide)) rfl
      have h4 : v 31 = .bool false := J.mv 4 (by decide) (hd 4 (by decide)) rfl
      have h6 : v 33 = .bool true := J.mv 6 (by decide) (hd 6 (by decide)) rfl
      refine opw_valG 1 28 true rfl rfl rfl (by decide) rfl h1 rfl (by decide) (by simp only [frm, List.foldl_cons, List.foldl_nil, List.setIfInBounds_toArray, List.set_cons_zero, List.set_cons_succ]; (go_simp) <;> (first | exact ⟨⟨rfl, rfl⟩, rfl⟩ | exact ⟨rfl, rfl⟩ | with_reducible rfl)) ?_
      exact J.m (Q.refl _) 7 (by decide) rfl
    case oB8 =>
      intro L v W J hL hd
      have h1 : v 28 = .bool true := J.mv 1 (by decide) (hd 1 (by decide)) rfl
      have h7 : v 34 = .bool true := J.mv 7 (by decide) (hd 7 (by decide)) rfl
      refine opw_valG 1 28 true rfl rfl rfl (by decide) rfl h1 rfl (by decide) (by simp only [frm, List.foldl_cons, List.foldl_nil, List.setIfInBounds_toArray, List.set_cons_zero, List.set_cons_succ]; (go_simp) <;> (first | exact ⟨⟨rfl, rfl⟩, rfl⟩ | exact ⟨rfl, rfl⟩ | with_reducible rfl)) ?_
      exact J.m (Q.refl _) 8 (by decide) rfl
    case oB9 =>
      intro L v W J hL hd
      have h8 : v 35 = .bool true := J.mv 8 (by decide) (hd 8 (by decide)) rfl
      exact opw_skip 8 35 false true rfl rfl rfl (by decide) rfl h8 (by decide) rfl (by decide) (J.s 9 (by decide) rfl)
    case oB10 =>
      intro L v W J hL hd
      have h8 : v 35 = .bool true := J.mv 8 (by decide) (hd 8 (by decide)) rfl
      exact opw_skip 8 35 false true rfl rfl rfl (by decide) rfl h8 (by decide) rfl (by decide) (J.s 10 (by decide) rfl)
    case oB11 =>
      intro L v W J hL hd
      have h8 : v 35 = .bool true := J.mv 8 (by decide) (hd 8 (by decide)) rfl
      exact opw_skip 8 35 false true rfl rfl rfl (by decide) rfl h8 (by decide) rfl (by decide) (J.s 11 (by decide) rfl)
    case oB12 =>
      intro L v W J hL hd
      have h8 : v 35 = .bool true := J.mv 8 (by decide) (hd 8 (by decide)) rfl
      exact opw_skip 8 35 false true rfl rfl rfl (by decide) rfl h8 (by decide) rfl (by decide) (J.s 12 (by decide) rfl)
    case oB13 =>
      intro L v W J hL hd
      have h8 : v 35 = .bool true := J.mv 8 (by decide) (hd 8 (by decide)) rfl
      exact opw_skip 8 35 false true rfl rfl rfl (by decide) rfl h8 (by decide) rfl (by decide) (J.s 13 (by decide) rfl)
    case oB14 =>
      intro L v W J hL hd
      have h8 : v 35 = .bool true := J.mv 8 (by decide) (hd 8 (by decide)) rfl
      exact opw_skip 8 35 false true rfl rfl rfl (by decide) rfl h8 (by decide) rfl (by decide) (J.s 14 (by decide) rfl)
    case oB15 =>
      intro L v W J hL hd
      have h8 : v 35 = .bool true := J.mv 8 (by decide) (hd 8 (by decide)) rfl
      exact opw_skip 8 35 false true rfl rfl rfl (by decide) rfl h8 (by decide) rfl (by decide) (J.s 15 (by decide) rfl)
    case oB16 =>
      intro L v W J hL hd
      have h8 : v 35 = .bool true := J.mv 8 (by decide) (hd 8 (by decide)) rfl
      exact opw_skip 8 35 false true rfl rfl rfl (by decide) rfl h8 (by decide) rfl (by decide) (J.s 16 (by decide) rfl)
    case oB17 =>
      intro L v W J hL hd
      have h8 : v 35 = .bool true := J.mv 8 (by decide) (hd 8 (by decide)) rfl
      exact opw_skip 8 35 false true rfl rfl rfl (by decide) rfl h8 (by decide) rfl (by decide) (J.s 17 (by decide) rfl)
    case oB18 =>
      intro L v W J hL hd
      have h1 : v 28 = .bool true := J.mv 1 (by decide) (hd 1 (by decide)) rfl
      have h8 : v 35 = .bool true := J.mv 8 (by decide) (hd 8 (by decide)) rfl
      refine opw_valG 1 28 true rfl rfl rfl (by decide) rfl h1 rfl (by decide) (by simp only [frm, List.foldl_cons, List.foldl_nil, List.setIfInBounds_toArray, List.set_cons_zero, List.set_cons_succ]; (go_simp) <;> (first | exact ⟨⟨rfl, rfl⟩, rfl⟩ | exact ⟨rfl, rfl⟩ | with_reducible rfl)) ?_
      exact J.m (Q.refl _) 18 (by decide) rfl
    case oB19 =>
      intro L v W J hL hd
      have h1 : v 28 = .bool true := J.mv 1 (by decide) (hd 1 (by decide)) rfl
      have h18 : v 45 = .bool true := J.mv 18 (by decide) (hd 18 (by decide)) rfl
      refine opw_val rfl rfl rfl (by decide) (by simp only [frm, List.foldl_cons, List.foldl_nil, List.setIfInBounds_toArray, List.set_cons_zero, List.set_cons_succ]; (go_simp) <;> (first | exact ⟨⟨rfl, rfl⟩, rfl⟩ | exact ⟨rfl, rfl⟩ | with_reducible rfl)) ?_
      exact J.m (Q.refl _) 19 (by decide) rfl
    case oB20 =>
      intro L v W J hL hd
      have h19 : v 46 = .bool true := J.mv 19 (by decide) (hd 19 (by decide)) rfl
      refine opw_val rfl rfl rfl (by decide) (by simp only [frm, List.foldl_cons, List.foldl_nil, List.setIfInBounds_toArray, List.set_cons_zero, List.set_cons_succ]; (go_simp) <;> (first | exact ⟨⟨rfl, rfl⟩, rfl⟩ | exact ⟨rfl, rfl⟩ | with_reducible rfl)) ?_
      exact J.m (Q.refl _) 20 (by decide) rfl
    intro L v W hall J
    have h20 : v 4 = .bool true := J.mv 20 (by decide) (hall 20 (by decide)) rfl
    have HQ9 := hid J.q
    simp only [frm, List.foldl_cons, List.foldl_nil, List.setIfInBounds_toArray, List.set_cons_zero, List.set_cons_succ]
    simp only [h20]
    clear hall J h20
    go_wp2_with fail
    go_ret
    exact ⟨rfl, HQ4.out.trans HQ9.out⟩
  replace hk2 : k2 = true := by simpa using hk2
  subst hk1 hk2
  simp only [if_true]
  have hsA := HVA.out rfl
  have hsB := HVB.out rfl
  obtain ⟨a1, c1, rfl, _, _⟩ := hsA.len
  obtain ⟨a2, c2, rfl, _, _⟩ := hsB.len
  have HC0 := hid (fun W (q : Q w4 W) => sl_conv (hsA.on (HQ34.out.trans q)))
  have HC1 := hid (fun W (q : Q w4 W) => sl_conv (hsB.on q))
  have hO0 := HE0.out.k rfl
  have hO1 := HE1.out.k rfl
  obtain ⟨c, hc⟩ : ∃ c : Bool, c = decide (encB l = encB m) := ⟨_, rfl⟩
  have hcs : c = true ↔ sameOs l m := by
    rw [hc, decide_eq_true_eq]
    exact encB_iff hO0.2 hO1.2 (by omega) (by omega)
  have HEQ := hid (fun W (q : Q w4 W) => eqops_any u0 u1 l m W (HE0.out.s.on (HQ24.out.trans q)) (HE1.out.s.on (HQ24.out.trans q)) (fun o ho => ⟨(HE0.out.r o ho).1.on (HQ24.out.trans q), (HE0.out.r o ho).2⟩) (fun o ho => ⟨(HE1.out.r o ho).1.on (HQ24.out.trans q), (HE1.out.r o ho).2⟩) c hcs)
  obtain ⟨S, hS⟩ : ∃ S : ByteArray, S = ⟨(encB l).toArray⟩ := ⟨_, rfl⟩
  obtain ⟨T, hT⟩ : ∃ T : ByteArray, T = ⟨(encB m).toArray⟩ := ⟨_, rfl⟩
  have HCC : Hid ((S.toList == T.toList) = c) := by
    refine hid ?_
    rw [hS, hT, hc, Lib.toList_data, Lib.toList_data]
    rw [Bool.eq_iff_iff]
    simp
  rw [← hS] at HC0
  rw [← hT] at HC1
  clear hS hT hc hcs hO0 hO1 hsA hsB HVA HVB HE0 HE1
  generalize (encB l).length = n1 at HC0 ⊢
  generalize (encB m).length = n2 at HC1 ⊢
  refine wp_region_invw (by kernel_rfl) [27, 28, 29, 30, 31, 32, 33, 34, 35, 36, 37, 38, 39, 40, 41, 42, 43, 44, 45, 46, 4] (AI w4 (wdA false false) (valA 0 0 false false false (.slice a1 n1 c1) (.slice a2 n2 c2) S T c u0 u1)) (by kernel_rfl) (steps_list ⟨?oC0, ?oC1, ?oC2, ?oC3, ?oC4, ?oC5, ?oC6, ?oC7, ?oC8, ?oC9, ?oC10, ?oC11, ?oC12, ?oC13, ?oC14, ?oC15, ?oC16, ?oC17, ?oC18, ?oC19, ?oC20, trivial⟩) ⟨(Q.refl _).drew, fun j _ h => absurd h Bool.false_ne_true⟩ ?restC
  case oC0 =>
    intro L v W J hL hd
    refine opw_val rfl rfl rfl (by decide) (by simp only [frm, List.foldl_cons, List.foldl_nil, List.setIfInBounds_toArray, List.set_cons_zero, List.set_cons_succ]; (go_simp) <;> (first | exact ⟨⟨rfl, rfl⟩, rfl⟩ | exact ⟨rfl, rfl⟩ | with_reducible rfl)) ?_
    exact J.m (Q.refl _) 0 (by decide) rfl
  case oC1 =>
    intro L v W J hL hd
    have h0 : v 27 = .bool true := J.mv 0 (by decide) (hd 0 (by decide)) rfl
    refine opw_val rfl rfl rfl (by decide) (by simp only [frm, List.foldl_cons, List.foldl_nil, List.setIfInBounds_toArray, List.set_cons_zero, List.set_cons_succ]; (go_simp) <;> (first | exact ⟨⟨rfl, rfl⟩, rfl⟩ | exact ⟨rfl, rfl⟩ | with_reducible rfl)) ?_
    exact J.m (Q.refl _) 1 (by decide) rfl
  case oC2 =>
    intro L v W J hL hd
    have h1 : v 28 = .bool true := J.mv 1 (by decide) (hd 1 (by decide)) rfl
    refine opw_valG 1 28 true rfl rfl rfl (by decide) rfl h1 rfl (by decide) (by simp only [frm, List.foldl_cons, List.foldl_nil, List.setIfInBounds_toArray, List.set_cons_zero, List.set_cons_succ]; (go_simp) <;> (first | exact ⟨⟨rfl, rfl⟩, rfl⟩ | exact ⟨rfl, rfl⟩ | with_reducible rfl)) ?_
    exact J.m (Q.refl _) 2 (by decide) rfl
  case oC3 =>
    intro L v W J hL hd
    have h1 : v 28 = .bool true := J.mv 1 (by decide) (hd 1 (by decide)) rfl
    have h2 : v 29 = .int .i64 0 := J.mv 2 (by decide) (hd 2 (by decide)) rfl
    refine opw_valG 1 28 true rfl rfl rfl (by decide) rfl h1 rfl (by decide) (by simp only [frm, List.foldl_cons, List.foldl_nil, List.setIfInBounds_toArray, List.set_cons_zero, List.set_cons_succ]; (go_simp) <;> (first | exact ⟨⟨rfl, rfl⟩, rfl⟩ | exact ⟨rfl, rfl⟩ | with_reducible rfl)) ?_
    exact J.m (Q.refl _) 3 (by decide) rfl
  case oC4 =>
    intro L v W J hL hd
    have h1 : v 28 = .bool true := J.mv 1 (by decide) (hd 1 (by decide)) rfl
    have h3 : v 30 = .bool false := J.mv 3 (by decide) (hd 3 (by decide)) rfl
    refine opw_valG 1 28 true rfl rfl rfl (by decide) rfl h1 rfl (by decide) (by simp only [frm, List.foldl_cons, List.foldl_nil, List.setIfInBounds_toArray, List.set_cons_zero, List.set_cons_succ]; (go_simp) <;> (first | exact ⟨⟨rfl, rfl⟩, rfl⟩ | exact ⟨rfl, rfl⟩ | with_reducible rfl)) ?_
    exact J.m (Q.refl _) 4 (by decide) rfl
  case oC5 =>
    intro L v W J hL hd
    have h4 : v 31 = .bool false := J.mv 4 (by decide) (hd 4 (by decide)) rfl
    refine opw_valG 4 31 false rfl rfl rfl (by decide) rfl h4 rfl (by decide) (by simp only [frm, List.foldl_cons, List.foldl_nil, List.setIfInBounds_toArray, List.set_cons_zero, List.set_cons_succ]; (go_simp) <;> (first | exact ⟨⟨rfl, rfl⟩, rfl⟩ | exact ⟨rfl, rfl⟩ | with_reducible rfl)) ?_
    exact J.m (Q.refl _) 5 (by decide) rfl
  case oC6 =>
    intro L v W J hL hd
    have h4 : v 31 = .bool false := J.mv 4 (by decide) (hd 4 (by decide)) rfl
    have h5 : v 32 = .int .i64 0 := J.mv 5 (by decide) (hd 5 (by decide)) rfl
    refine opw_valG 4 31 false rfl rfl rfl (by decide) rfl h4 rfl (by decide) (by simp only [frm, List.foldl_cons, List.foldl_nil, List.setIfInBounds_toArray, List.set_cons_zero, List.set_cons_succ]; (go_simp) <;> (first | exact ⟨⟨rfl, rfl⟩, rfl⟩ | exact ⟨rfl, rfl⟩ | with_reducible rfl)) ?_
    exact J.m (Q.refl _) 6 (by decide) rfl
  case oC7 =>
    intro L v W J hL hd
    have h1 : v 28 = .bool true := J.mv 1 (by decide) (hd 1 (by decide)) rfl
    have h4 : v 31 = .bool false := J.mv 4 (by decide) (hd 4 (by decide)) rfl
    have h6 : v 33 = .bool false := J.mv 6 (by decide) (hd 6 (by decide)) rfl
    refine opw_valG 1 28 true rfl rfl rfl (by decide) rfl h1 rfl (by decide) (by simp only [frm, List.foldl_cons, List.foldl_nil, List.setIfInBounds_toArray, List.set_cons_zero, List.set_cons_succ]; (go_simp) <;> (first | exact ⟨⟨rfl, rfl⟩, rfl⟩ | exact ⟨rfl, rfl⟩ | with_reducible rfl)) ?_
    exact J.m (Q.refl _) 7 (by decide) rfl
  case oC8 =>
    intro L v W J hL hd
    have h1 : v 28 = .bool true := J.mv 1 (by decide) (hd 1 (by decide)) rfl
    have h7 : v 34 = .bool false := J.mv 7 (by decide) (hd 7 (by decide)) rfl
    refine opw_valG 1 28 true rfl rfl rfl (by decide) rfl h1 rfl (by decide) (by simp only [frm, List.foldl_cons, List.foldl_nil, List.setIfInBounds_toArray, List.set_cons_zero, List.set_cons_succ]; (go_simp) <;> (first | exact ⟨⟨rfl, rfl⟩, rfl⟩ | exact ⟨rfl, rfl⟩ | with_reducible rfl)) ?_
    exact J.m (Q.refl _) 8 (by decide) rfl
  case oC9 =>
    intro L v W J hL hd
    have h8 : v 35 = .bool false := J.mv 8 (by decide) (hd 8 (by decide)) rfl
    refine opw_valG 8 35 false rfl rfl rfl (by decide) rfl h8 rfl (by decide) (by simp only [frm, List.foldl_cons, List.foldl_nil, List.setIfInBounds_toArray, List.set_cons_zero, List.set_cons_succ]; (go_simp) <;> (first | exact ⟨⟨rfl, rfl⟩, rfl⟩ | exact ⟨rfl, rfl⟩ | with_reducible rfl)) ?_
    exact J.m (Q.refl _) 9 (by decide) rfl
  case oC10 =>
    intro L v W J hL hd
    have h8 : v 35 = .bool false := J.mv 8 (by decide) (hd 8 (by decide)) rfl
    have h9 : v 36 = .slice a1 n1 c1 := J.mv 9 (by decide) (hd 9 (by decide)) rfl
    have hC := HC0.out W J.q
    refine opw_valG 8 35 false rfl rfl rfl (by decide) rfl h8 rfl (by decide) (by simp only [frm, List.foldl_cons, List.foldl_nil, List.setIfInBounds_toArray, List.set_cons_zero, List.set_cons_succ]; (go_simp) <;> (first | exact ⟨⟨rfl, rfl⟩, rfl⟩ | exact ⟨rfl, rfl⟩ | with_reducible rfl)) ?_
    exact J.m (Q.refl _) 10 (by decide) rfl
  case oC11 =>
    intro L v W J hL hd
    have h8 : v 35 = .bool false := J.mv 8 (by decide) (hd 8 (by decide)) rfl
    refine opw_valG 8 35 false rfl rfl rfl (by decide) rfl h8 rfl (by decide) (by simp only [frm, List.foldl_cons, List.foldl_nil, List.setIfInBounds_toArray, List.set_cons_zero, List.set_cons_succ]; (go_simp) <;> (first | exact ⟨⟨rfl, rfl⟩, rfl⟩ | exact ⟨rfl, rfl⟩ | with_reducible rfl)) ?_
    exact J.m (Q.refl _) 11 (by decide) rfl
  case oC12 =>
    intro L v W J hL hd
    have h8 : v 35 = .bool false := J.mv 8 (by decide) (hd 8 (by decide)) rfl
    have h11 : v 38 = .slice a2 n2 c2 := J.mv 11 (by decide) (hd 11 (by decide)) rfl
    have hC := HC1.out W J.q
    refine opw_valG 8 35 false rfl rfl rfl (by decide) rfl h8 rfl (by decide) (by simp only [frm, List.foldl_cons, List.foldl_nil, List.setIfInBounds_toArray, List.set_cons_zero, List.set_cons_succ]; (go_simp) <;> (first | exact ⟨⟨rfl, rfl⟩, rfl⟩ | exact ⟨rfl, rfl⟩ | with_reducible rfl)) ?_
    exact J.m (Q.refl _) 12 (by decide) rfl
  case oC13 =>
    intro L v W J hL hd
    have h8 : v 35 = .bool false := J.mv 8 (by decide) (hd 8 (by decide)) rfl
    have h10 : v 37 = .string S := J.mv 10 (by decide) (hd 10 (by decide)) rfl
    have h12 : v 39 = .string T := J.mv 12 (by decide) (hd 12 (by decide)) rfl
    refine opw_valG 8 35 false rfl rfl rfl (by decide) rfl h8 rfl (by decide) (by simp only [frm, List.foldl_cons, List.foldl_nil, List.setIfInBounds_toArray, List.set_cons_zero, List.set_cons_succ]; (go_simp) <;> (first | exact ⟨⟨rfl, rfl⟩, rfl⟩ | exact ⟨rfl, rfl⟩ | with_reducible rfl)) ?_
    exact J.m (Q.refl _) 13 (by decide) (congrArg Value.bool HCC.out)
  case oC14 =>
    intro L v W J hL hd
    have h8 : v 35 = .bool false := J.mv 8 (by decide) (hd 8 (by decide)) rfl
    refine opw_valG 8 35 false rfl rfl rfl (by decide) rfl h8 rfl (by decide) (by simp only [frm, List.foldl_cons, List.foldl_nil, List.setIfInBounds_toArray, List.set_cons_zero, List.set_cons_succ]; (go_simp) <;> (first | exact ⟨⟨rfl, rfl⟩, rfl⟩ | exact ⟨rfl, rfl⟩ | with_reducible rfl)) ?_
    exact J.m (Q.refl _) 14 (by decide) rfl
  case oC15 =>
    intro L v W J hL hd
    have h8 : v 35 = .bool false := J.mv 8 (by decide) (hd 8 (by decide)) rfl
    refine opw_valG 8 35 false rfl rfl rfl (by decide) rfl h8 rfl (by decide) (by simp only [frm, List.foldl_cons, List.foldl_nil, List.setIfInBounds_toArray, List.set_cons_zero, List.set_cons_succ]; (go_simp) <;> (first | exact ⟨⟨rfl, rfl⟩, rfl⟩ | exact ⟨rfl, rfl⟩ | with_reducible rfl)) ?_
    exact J.m (Q.refl _) 15 (by decide) rfl
  case oC16 =>
    intro L v W J hL hd
    have h8 : v 35 = .bool false := J.mv 8 (by decide) (hd 8 (by decide)) rfl
    have h14 : v 41 = u0 := J.mv 14 (by decide) (hd 14 (by decide)) rfl
    have h15 : v 42 = u1 := J.mv 15 (by decide) (hd 15 (by decide)) rfl
    refine opw_callG 8 35 false rfl rfl rfl (by decide) rfl h8 rfl (by decide) (by simp only [frm, List.foldl_cons, List.foldl_nil, List.setIfInBounds_toArray, List.set_cons_zero, List.set_cons_succ]; (go_simp) <;> (first | exact ⟨⟨rfl, rfl⟩, rfl⟩ | exact ⟨rfl, rfl⟩ | with_reducible rfl)) ?_
    refine (HEQ.out W J.q).mono ?_
    rintro e W1 ⟨rfl, q1⟩
    exact ⟨_, rfl, J.m q1 16 (by decide) rfl⟩
  case oC17 =>
    intro L v W J hL hd
    have h8 : v 35 = .bool false := J.mv 8 (by decide) (hd 8 (by decide)) rfl
    have h13 : v 40 = .bool c := J.mv 13 (by decide) (hd 13 (by decide)) rfl
    have h16 : v 43 = .bool c := J.mv 16 (by decide) (hd 16 (by decide)) rfl
    refine opw_valG 8 35 false rfl rfl rfl (by decide) rfl h8 rfl (by decide) (by simp only [frm, List.foldl_cons, List.foldl_nil, List.setIfInBounds_toArray, List.set_cons_zero, List.set_cons_succ]; (go_simp) <;> (first | exact ⟨⟨rfl, rfl⟩, rfl⟩ | exact ⟨rfl, rfl⟩ | with_reducible rfl)) ?_
    exact J.m (Q.refl _) 17 (by decide) rfl
  case oC18 =>
    intro L v W J hL hd
    have h1 : v 28 = .bool true := J.mv 1 (by decide) (hd 1 (by decide)) rfl
    have h8 : v 35 = .bool false := J.mv 8 (by decide) (hd 8 (by decide)) rfl
    have h17 : v 44 = .bool true := J.mv 17 (by decide) (hd 17 (by decide)) rfl
    refine opw_valG 1 28 true rfl rfl rfl (by decide) rfl h1 rfl (by decide) (by simp only [frm, List.foldl_cons, List.foldl_nil, List.setIfInBounds_toArray, List.set_cons_zero, List.set_cons_succ]; (go_simp) <;> (first | exact ⟨⟨rfl, rfl⟩, rfl⟩ | exact ⟨rfl, rfl⟩ | with_reducible rfl)) ?_
    exact J.m (Q.refl _) 18 (by decide) rfl
  case oC19 =>
    intro L v W J hL hd
    have h1 : v 28 = .bool true := J.mv 1 (by decide) (hd 1 (by decide)) rfl
    have h18 : v 45 = .bool true := J.mv 18 (by decide) (hd 18 (by decide)) rfl
    refine opw_val rfl rfl rfl (by decide) (by simp only [frm, List.foldl_cons, List.foldl_nil, List.setIfInBounds_toArray, List.set_cons_zero, List.set_cons_succ]; (go_simp) <;> (first | exact ⟨⟨rfl, rfl⟩, rfl⟩ | exact ⟨rfl, rfl⟩ | with_reducible rfl)) ?_
    exact J.m (Q.refl _) 19 (by decide) rfl
  case oC20 =>
    intro L v W J hL hd
    have h19 : v 46 = .bool true := J.mv 19 (by decide) (hd 19 (by decide)) rfl
    refine opw_val rfl rfl rfl (by decide) (by simp only [frm, List.foldl_cons, List.foldl_nil, List.setIfInBounds_toArray, List.set_cons_zero, List.set_cons_succ]; (go_simp) <;> (first | exact ⟨⟨rfl, rfl⟩, rfl⟩ | exact ⟨rfl, rfl⟩ | with_reducible rfl)) ?_
    exact J.m (Q.refl _) 20 (by decide) rfl
  intro L v W hall J
  have h20 : v 4 = .bool true := J.mv 20 (by decide) (hall 20 (by decide)) rfl
  have HQ9 := hid J.q
  simp only [frm, List.foldl_cons, List.foldl_nil, List.setIfInBounds_toArray, List.set_cons_zero, List.set_cons_succ]
  simp only [h20]
  clear hall J h20
  go_wp2_with fail
  go_ret
  exact ⟨rfl, HQ4.out.trans HQ9.out⟩
end Go.Proofs.YtcgddnliiondoaaGreatDoor
