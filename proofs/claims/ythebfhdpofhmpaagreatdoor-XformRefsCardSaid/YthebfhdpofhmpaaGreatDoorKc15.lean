/- xform.copied, told, walked: what they answer is what they we. -/
import Derived.Test.YthebfhdpofhmpaaGreatDoorKc14
import Derived.Test.YthebfhdpofhmpaaGreatDoorKc00
import Derived.WalkSpells
import Derived.Lib.SliceRun
import Derived.Test.YthebfhdpofhmpaaGreatDoorKc06
import Derived.Test.YthebfhdpofhmpaaGreatDoorKc08
set_option linter.unusedVariables false
set_option linter.unusedSimpArgs false
set_option maxRecDepth 100000
set_option maxHeartbeats 8000000
namespace Go.Proofs.YthebfhdpofhmpaaGreatDoor
open Go.RowKit
open IV
def vCop (x : Rv) (b1 : Nat) (t : Nat) : Value := if t = 3 then .pointer (some ⟨b1, 1, none⟩) else if t = 4 then .string x.sh else if t = 5 then .string x.sh else if t = 6 then .pointer (some ⟨b1, 22, none⟩) else if t = 7 then .string x.nm else if t = 8 then .string x.nm else if t = 9 then .pointer (some ⟨b1, 1, none⟩) else .pointer (some ⟨b1, 22, none⟩)
def iCop (t : Nat) : Nat := if t = 10 then 8 else t - 3
theorem Bk.same {W : World} {t : TypeId} {q : Nat} {cs : Array Value} (h : Bk W t q cs) (j : Nat) (d : Value) (hd : cs[j]? = some d) : Bk (W.setCell ⟨q, j, none⟩ d) t q cs := by
  have h1 := h.put j d
  rwa [show cs.setIfInBounds j d = cs from by
    apply Array.ext
    · simp
    · intro i h1 h2
      by_cases e : i = j
      · subst e
        rw [Array.getElem_setIfInBounds_self]
        rw [Array.getElem?_eq_getElem h2] at hd
        exact (Option.some.inj hd).symm
      · rw [Array.getElem_setIfInBounds_ne h2 (Ne.symm e)]] at h1
def tr7 (x : Rv) : List Value := [.int .i64 x.tk, .int .i64 x.tm, .string x.tt, .bool x.tb, .int .i64 x.te, .slice x.a1 x.l1 x.c1, .slice x.a2 x.l2 x.c2]
theorem Bk.range {W : World} {t : TypeId} {q : Nat} {cs : Array Value} (h : Bk W t q cs) (o : Nat) (l : List Value) (hl : ∀ j u, l[j]? = some u → cs[o + j]? = some u) : W.rangeAt q o l := fun j u hu => h.c (o + j) u (hl j u hu)
theorem x_tr7 (x : Rv) : ∀ j u, (tr7 x)[j]? = some u → x.L.toArray[10 + j]? = some u := by
  intro j u hu
  have hj : j < 7 := (List.getElem?_eq_some_iff.1 hu).1
  rcases j with _ | _ | _ | _ | _ | _ | _ | j
  all_goals first
    | exact hu
    | omega
theorem Bk.sameL {W : World} {t : TypeId} {q : Nat} {cs : Array Value} : ∀ (l : List Value) (o : Nat) (W : World), Bk W t q cs → (∀ j u, l[j]? = some u → cs[o + j]? = some u) → Bk (W.setCells q o l) t q cs
  | [], _, _, h, _ => h
  | v :: l, o, W, h, hl => Bk.sameL (W := W) l (o + 1) _ (h.same o v (hl 0 v rfl)) (fun j u hu => by rw [show o + 1 + j = o + (j + 1) by omega]; exact hl (j + 1) u hu)
theorem Bk.othL {W : World} {t : TypeId} {q p : Nat} {cs : Array Value} (hp : q ≠ p) : ∀ (l : List Value) (o : Nat) (W : World), Bk W t q cs → Bk (W.setCells p o l) t q cs
  | [], _, _, h => h
  | v :: l, o, W, h => Bk.othL (W := W) hp l (o + 1) _ (h.oth hp o v)
theorem Bk.there {W : World} {t : TypeId} {q : Nat} {cs : Array Value} (h : Bk W t q cs) (o n : Nat) (hl : o + n ≤ cs.size) : W.there q o n := fun j hj =>
  ⟨by rw [h.c (o + j) _ (Array.getElem?_eq_getElem (by omega))]; rfl, h.f _⟩
theorem info35e : (Tryz.prog.info? 35).map (·.size) = some 7 := by kernel_rfl
set_option maxHeartbeats 4000000 in
theorem xcopied_any (x : Rv) (w : World) (hsh : x.sh.size ≤ 1000) (hnm : x.nm.size ≤ 1000) (hvt : x.vt.size ≤ 1000)
    (hS : ∀ V, Q w V → Calls Tryz.prog 26 #[.agg (tr7 x).toArray, .string x.sh, .string ⟨#[]⟩] V fun e V' => e = .returned (.agg (tr7 x).toArray) ∧ Q V V')
    (hR : ∀ V, Q w V → Calls Tryz.prog 27 #[.slice x.ra x.rl x.rc] V fun e V' => e = .returned (.slice x.ra x.rl x.rc) ∧ Q V V') :
    Calls Tryz.prog 21 #[x.v] w fun e V' => e = .returned x.v ∧ Q w V' := by
  rw [Rv.v_eq]
  have HS := hid hS
  have HR := hid hR
  have HC1 := hid (fun V => clone_any x.sh V (by omega))
  have HC2 := hid (fun V => clone_any x.nm V (by omega))
  have HC3 := hid (fun V => clone_any x.vt V (by omega))
  have HT := hid (t2_new w 40 40 x.L.toArray zero23)
  unfold zero23 at HT
  clear hS hR hsh hnm hvt
  go_enter Tryz.func21, Tryz.ntmps21
  go_upto_region 1 with fail
  generalize (w.alloc (.cells x.L.toArray 40)).alloc _ = w1 at HT ⊢
  generalize w.heap.size + 1 = b2 at HT ⊢
  obtain ⟨b1, hb1⟩ : ∃ b1, w.heap.size = b1 := ⟨_, rfl⟩
  have HL : Hid (w.heap.size ≤ b1) := hid (Nat.le_of_eq hb1)
  have HT9 : Hid (T2 w w1 40 40 x.L.toArray zero23 b1 b2) := hid (by have := HT.out; rw [hb1] at this; exact this)
  clear HT
  rw [hb1]
  refine wp_region_invw (by kernel_rfl) [3, 4, 5, 6, 7, 8, 9, 10] (SI w (fun W => Bk W 40 b1 x.L.toArray ∧ Bk W 40 b2 zero23) (fun W => True) (fun W => True) 11 iCop [3, 4, 5, 6, 7, 8, 9, 10] (vCop x b1)) (by kernel_rfl) (steps_list ⟨?o0, ?o1, ?o2, ?o3, ?o4, ?o5, ?o6, ?o7, ?o8, ?o9, trivial⟩)
    ⟨fun W W' q => ⟨fun h => ⟨h.1.on q, h.2.on q⟩, id, id⟩, by decide, HT9.out.q.drew, ⟨HT9.out.a.on (Q.refl _).drew, HT9.out.r.on (Q.refl _).drew⟩, fun _ => trivial, fun _ => trivial, fun _ _ h => absurd h Bool.false_ne_true⟩ ?rest
  case o0 =>
    intro L v W J hL hd
    refine opw_val rfl rfl rfl (by decide) (by simp only [frm, List.foldl_cons, List.foldl_nil, List.setIfInBounds_toArray, List.set_cons_zero, List.set_cons_succ]; (go_simp) <;> (first | exact ⟨⟨rfl, rfl⟩, rfl⟩ | exact ⟨rfl, rfl⟩ | with_reducible rfl)) ?_
    exact J.m (Q.refl _) 0 3 (by decide) (by decide)
  case o1 =>
    intro L v W J hL hd
    have h0 : v 3 = .pointer (some ⟨b1, 1, none⟩) := J.mv 3 (by decide) (hd 0 (by decide))
    have c0 := J.p.1.c 1 (.string x.sh) rfl
    refine opw_val rfl rfl rfl (by decide) (by simp only [frm, List.foldl_cons, List.foldl_nil, List.setIfInBounds_toArray, List.set_cons_zero, List.set_cons_succ]; (go_simp) <;> (first | exact ⟨⟨rfl, rfl⟩, rfl⟩ | exact ⟨rfl, rfl⟩ | with_reducible rfl)) ?_
    exact J.m (Q.refl _) 1 4 (by decide) (by decide)
  case o2 =>
    intro L v W J hL hd
    have h0 : v 4 = .string x.sh := J.mv 4 (by decide) (hd 1 (by decide))
    refine opw_call rfl rfl rfl (by decide) (by simp only [frm, List.foldl_cons, List.foldl_nil, List.setIfInBounds_toArray, List.set_cons_zero, List.set_cons_succ]; (go_simp) <;> (first | exact ⟨⟨rfl, rfl⟩, rfl⟩ | exact ⟨rfl, rfl⟩ | with_reducible rfl)) ?_
    refine (HC1.out _).mono ?_
    rintro e W1 ⟨rfl, q1⟩
    exact ⟨_, rfl, J.m q1 2 5 (by decide) (by decide)⟩
  case o3 =>
    intro L v W J hL hd
    refine opw_val rfl rfl rfl (by decide) (by simp only [frm, List.foldl_cons, List.foldl_nil, List.setIfInBounds_toArray, List.set_cons_zero, List.set_cons_succ]; (go_simp) <;> (first | exact ⟨⟨rfl, rfl⟩, rfl⟩ | exact ⟨rfl, rfl⟩ | with_reducible rfl)) ?_
    exact J.m (Q.refl _) 3 6 (by decide) (by decide)
  case o4 =>
    intro L v W J hL hd
    have h0 : v 6 = .pointer (some ⟨b1, 22, none⟩) := J.mv 6 (by decide) (hd 3 (by decide))
    have c0 := J.p.1.c 22 (.string x.nm) rfl
    refine opw_val rfl rfl rfl (by decide) (by simp only [frm, List.foldl_cons, List.foldl_nil, List.setIfInBounds_toArray, List.set_cons_zero, List.set_cons_succ]; (go_simp) <;> (first | exact ⟨⟨rfl, rfl⟩, rfl⟩ | exact ⟨rfl, rfl⟩ | with_reducible rfl)) ?_
    exact J.m (Q.refl _) 4 7 (by decide) (by decide)
  case o5 =>
    intro L v W J hL hd
    have h0 : v 7 = .string x.nm := J.mv 7 (by decide) (hd 4 (by decide))
    refine opw_call rfl rfl rfl (by decide) (by simp only [frm, List.foldl_cons, List.foldl_nil, List.setIfInBounds_toArray, List.set_cons_zero, List.set_cons_succ]; (go_simp) <;> (first | exact ⟨⟨rfl, rfl⟩, rfl⟩ | exact ⟨rfl, rfl⟩ | with_reducible rfl)) ?_
    refine (HC2.out _).mono ?_
    rintro e W1 ⟨rfl, q1⟩
    exact ⟨_, rfl, J.m q1 5 8 (by decide) (by decide)⟩
  case o6 =>
    intro L v W J hL hd
    refine opw_val rfl rfl rfl (by decide) (by simp only [frm, List.foldl_cons, List.foldl_nil, List.setIfInBounds_toArray, List.set_cons_zero, List.set_cons_succ]; (go_simp) <;> (first | exact ⟨⟨rfl, rfl⟩, rfl⟩ | exact ⟨rfl, rfl⟩ | with_reducible rfl)) ?_
    exact J.m (Q.refl _) 6 9 (by decide) (by decide)
  case o7 =>
    intro L v W J hL hd
    have h0 : v 9 = .pointer (some ⟨b1, 1, none⟩) := J.mv 9 (by decide) (hd 6 (by decide))
    have h1 : v 5 = .string x.sh := J.mv 5 (by decide) (hd 2 (by decide))
    have c0 := J.p.1.c 1 (.string x.sh) rfl
    have f0 := J.p.1.f 1
    refine opw_non rfl rfl rfl (by simp only [frm, List.foldl_cons, List.foldl_nil, List.setIfInBounds_toArray, List.set_cons_zero, List.set_cons_succ]; (go_simp) <;> (first | exact ⟨⟨rfl, rfl⟩, rfl⟩ | exact ⟨rfl, rfl⟩ | with_reducible rfl)) ?_
    exact J.same 7 (by decide) (by decide) (J.q.setCell HL.out _) ⟨J.p.1.same 1 _ rfl, J.p.2.oth (Ne.symm HT9.out.n1) _ _⟩ id id
  case o8 =>
    intro L v W J hL hd
    refine opw_val rfl rfl rfl (by decide) (by simp only [frm, List.foldl_cons, List.foldl_nil, List.setIfInBounds_toArray, List.set_cons_zero, List.set_cons_succ]; (go_simp) <;> (first | exact ⟨⟨rfl, rfl⟩, rfl⟩ | exact ⟨rfl, rfl⟩ | with_reducible rfl)) ?_
    exact J.m (Q.refl _) 8 10 (by decide) (by decide)
  case o9 =>
    intro L v W J hL hd
    have h0 : v 10 = .pointer (some ⟨b1, 22, none⟩) := J.mv 10 (by decide) (hd 8 (by decide))
    have h1 : v 8 = .string x.nm := J.mv 8 (by decide) (hd 5 (by decide))
    have c0 := J.p.1.c 22 (.string x.nm) rfl
    have f0 := J.p.1.f 22
    refine opw_non rfl rfl rfl (by simp only [frm, List.foldl_cons, List.foldl_nil, List.setIfInBounds_toArray, List.set_cons_zero, List.set_cons_succ]; (go_simp) <;> (first | exact ⟨⟨rfl, rfl⟩, rfl⟩ | exact ⟨rfl, rfl⟩ | with_reducible rfl)) ?_
    exact J.same 9 (by decide) (by decide) (J.q.setCell HL.out _) ⟨J.p.1.same 22 _ rfl, J.p.2.oth (Ne.symm HT9.out.n1) _ _⟩ id id
  intro L v w3 hall J
  have HT3 : Hid (T2 w w3 40 40 x.L.toArray zero23 b1 b2) := hid ⟨J.p.1, J.p.2, HT9.out.n1, by omega, HT9.out.l6, J.q⟩
  simp only [frm, List.foldl_cons, List.foldl_nil, List.setIfInBounds_toArray, List.set_cons_zero, List.set_cons_succ]
  clear hall J HT9
  have c7 := HT3.out.a.c 7 (.string x.vt) rfl
  have f7 := HT3.out.a.f 7
  go_upto_region 3 with (go_at_call 25; refine (HC3.out _).mono ?_; rintro e9 w4 ⟨rfl, q9⟩; have HT4 := hid (HT3.out.on q9); clear q9; have d7 := HT4.out.a.c 7 (.string x.vt) rfl; have g7 := HT4.out.a.f 7)
  have HT5 : Hid (T2 w (w4.setCell ⟨b1, 7, none⟩ (.string x.vt)) 40 40 x.L.toArray zero23 b1 b2) := hid ⟨HT4.out.a.same 7 _ rfl, HT4.out.r.oth (Ne.symm HT4.out.n1) _ _, HT4.out.n1, HT4.out.l, HT4.out.l6, HT4.out.q.setCell HT4.out.l _⟩
  clear HT3 HT4 c7 f7 d7 g7
  generalize w4.setCell ⟨b1, 7, none⟩ (.string x.vt) = w5 at HT5 ⊢
  have c1 := HT5.out.a.c 1 (.string x.sh) rfl
  go_upto_region 4 with (first
    | (with_reducible refine wpList_load_mid (by with_unfolding_all rfl) 35 _ (by with_unfolding_all rfl) b1 10 (by with_unfolding_all rfl) (tr7 x) _ (HT5.out.a.range 10 (tr7 x) (x_tr7 x)) Tryz.underlying35 (by with_unfolding_all rfl) (by with_unfolding_all exact info35e) ?_)
    | (go_at_call 26; refine (HS.out _ HT5.out.q).mono ?_; rintro e9 w6 ⟨rfl, q9⟩; have HT6 := hid (HT5.out.on q9); clear q9)
    | (with_reducible refine wpList_store_mid (by with_unfolding_all rfl) 35 _ _ (by with_unfolding_all rfl) b1 10 (tr7 x).toArray (by with_unfolding_all rfl) (by with_unfolding_all rfl) (by with_unfolding_all exact HT6.out.a.there 10 7 (by show 17 ≤ 23; decide)) (by with_unfolding_all exact info35e) (by with_unfolding_all rfl) ?_))
  have HT7 : Hid (T2 w (w6.setCells b1 10 (tr7 x)) 40 40 x.L.toArray zero23 b1 b2) := hid ⟨Bk.sameL (W := w6) (tr7 x) 10 w6 HT6.out.a (x_tr7 x), Bk.othL (W := w6) (Ne.symm HT6.out.n1) (tr7 x) 10 w6 HT6.out.r, HT6.out.n1, HT6.out.l, HT6.out.l6, Q.cells HT6.out.l _ _ HT6.out.q⟩
  clear HT5 HT6 c1
  generalize w6.setCells b1 10 _ = w7 at HT7 ⊢
  have c20 := HT7.out.a.c 20 (.slice x.ra x.rl x.rc) rfl
  go_upto_region 5 with (go_at_call 27; refine (HR.out _ HT7.out.q).mono ?_; rintro e9 w8 ⟨rfl, q9⟩; have HT8 := hid (HT7.out.on q9); clear q9; have d20 := HT8.out.a.c 20 (.slice x.ra x.rl x.rc) rfl; have g20 := HT8.out.a.f 20)
  have HT10 : Hid (T2 w (w8.setCell ⟨b1, 20, none⟩ (.slice x.ra x.rl x.rc)) 40 40 x.L.toArray zero23 b1 b2) := hid ⟨HT8.out.a.same 20 _ rfl, HT8.out.r.oth (Ne.symm HT8.out.n1) _ _, HT8.out.n1, HT8.out.l, HT8.out.l6, HT8.out.q.setCell HT8.out.l _⟩
  clear HT7 HT8 c20 d20 g20
  generalize w8.setCell ⟨b1, 20, none⟩ _ = w10 at HT10 ⊢
  go_wp2_with (first
    | (with_reducible refine wpList_load_row (by with_unfolding_all rfl) 40 _ (by with_unfolding_all rfl) b1 (by with_unfolding_all rfl) 40 x.L.toArray (0, 0) _ HT10.out.a.h Tryz.underlying40 (by with_unfolding_all rfl) (by with_unfolding_all exact info40) ?_)
    | (with_reducible refine wpList_store_row (by with_unfolding_all rfl) 40 _ _ (by with_unfolding_all rfl) b2 x.L.toArray (by with_unfolding_all rfl) (by with_unfolding_all rfl) 40 _ HT10.out.r.h (by with_unfolding_all exact info40) (by with_unfolding_all rfl) x.one ?_))
  refine bodyPost_ret (v := .agg x.L.toArray) (results_cell_row Tryz.results21 _ _ b2 40 x.L.toArray (0, 0) _ (by rfl) (HT10.out.r.row _).h Tryz.underlying40 rfl info40) rfl ?_
  exact ⟨rfl, HT10.out.q.row HT10.out.l6 _⟩
set_option maxHeartbeats 4000000 in
theorem mayNode_z (w : World) : Calls Tryz.prog 93 #[.agg z7a] w fun e V' => e = .returned (.bool false) ∧ Q w V' := by
  unfold z7a
  go_enter Tryz.func93, Tryz.ntmps93
  go_upto_region 1 with fail
  go_region
  all_goals
    go_wp2_with fail
    go_ret
    exact ⟨rfl, (((Q.refl _).alloc _).alloc _).drew⟩
theorem info35f : (Tryz.prog.info? 35).map (·.size) = some 7 := by kernel_rfl
set_option maxHeartbeats 1000000 in
theorem mayAll_z (w : World) : Calls Tryz.prog 66 #[.agg z7a] w fun e V' => e = .returned (.bool false) ∧ Q w V' := by
  have HC := hid (fun V => mayNode_z V)
  have HT := hid (bk_new w 35 z7a)
  have HQ : Hid (Q w (w.alloc (.cells z7a 35))) := hid ((Q.refl _).alloc _)
  unfold z7a at HC HT HQ ⊢
  go_enter Tryz.func66, Tryz.ntmps66
  go_upto_region 1 with fail
  generalize w.alloc _ = w1 at HT HQ ⊢
  generalize w.heap.size = b1 at HT ⊢
  go_wp2_with (first
    | (with_reducible refine wpList_load_row (by with_unfolding_all rfl) 35 _ (by with_unfolding_all rfl) b1 (by with_unfolding_all rfl) 35 _ (0, 0) _ HT.out.h Tryz.underlying35 (by with_unfolding_all rfl) (by with_unfolding_all exact info35f) ?_)
    | (go_at_call 93; refine (HC.out _).mono ?_; rintro e w2 ⟨rfl, q1⟩; have Q1 := hid (HQ.out.trans q1); clear q1))
  go_ret
  exact ⟨rfl, Q1.out⟩
set_option maxHeartbeats 1000000 in
theorem pmay_z (w : World) : Calls Tryz.prog 42 #[.agg z7a] w fun e V' => e = .returned (.bool false) ∧ Q w V' := by
  have HC := hid (fun V => fits_z V)
  have HD := hid (fun V => mayAll_z V)
  have HT := hid (bk_new w 35 z7a)
  have HQ : Hid (Q w (w.alloc (.cells z7a 35))) := hid ((Q.refl _).alloc _)
  unfold z7a at HC HD HT HQ ⊢
  go_enter Tryz.func42, Tryz.ntmps42
  go_upto_region 1 with fail
  generalize w.alloc _ = w1 at HT HQ ⊢
  generalize w.heap.size = b1 at HT ⊢
  go_wp2_with (first
    | (with_reducible refine wpList_load_row (by with_unfolding_all rfl) 35 _ (by with_unfolding_all rfl) b1 (by with_unfolding_all rfl) 35 _ (0, 0) _ HT.out.h Tryz.underlying35 (by with_unfolding_all rfl) (by with_unfolding_all exact info35f) ?_)
    | (go_at_call 65; refine (HC.out _).mono ?_; rintro e w2 ⟨rfl, q1⟩; have Q1 := hid (HQ.out.trans q1); have HT1 := hid (HT.out.on q1); clear q1; have d0 := HT1.out.c 0 _ rfl; have d1 := HT1.out.c 1 _ rfl; have d2 := HT1.out.c 2 _ rfl; have d3 := HT1.out.c 3 _ rfl; have d4 := HT1.out.c 4 _ rfl; have d5 := HT1.out.c 5 _ rfl; have d6 := HT1.out.c 6 _ rfl)
    | (go_at_call 66; refine (HD.out _).mono ?_; rintro e w3 ⟨rfl, q1⟩; have Q2 := hid (Q1.out.trans q1); clear q1))
  go_ret
  exact ⟨rfl, Q2.out⟩
set_option maxHeartbeats 1000000 in
theorem fitsap_z (b : Nat) (w : World) (h : Bk w 35 b z7a) : Calls Tryz.prog 60 #[.slice (some ⟨b, 0, none⟩) 1 1] w fun e V' => e = .returned (.bool true) ∧ Q w V' := by
  have HC := hid (fun V => pcount_z V)
  have HT := hid h
  clear h
  unfold z7a at HC HT
  go_enter Tryz.func60, Tryz.ntmps60
  go_wp2_with (first
    | (with_reducible refine wpList_load_row (by with_unfolding_all rfl) 35 _ (by with_unfolding_all rfl) b (by with_unfolding_all rfl) 35 _ (0, 0) _ HT.out.h Tryz.underlying35 (by with_unfolding_all rfl) (by with_unfolding_all exact info35f) ?_)
    | (go_at_call 86; refine (HC.out _).mono ?_; rintro e w2 ⟨rfl, q1⟩; have Q1 := hid q1; clear q1))
  go_ret
  exact ⟨rfl, Q1.out⟩
theorem Q.qp {a w w' : World} {P : Nat → Prop} (h : Q a w) (q : Qp P w w') (hp : ∀ i, P i → a.heap.size ≤ i) : Q a w' :=
  ⟨q.os.trans h.os, q.tape.trans h.tape, q.output.trans h.output, Nat.le_trans h.size q.size, fun i hi => (q.block i (Nat.lt_of_lt_of_le hi h.size) (fun e => by have := hp i e; omega)).trans (Below.block h i hi)⟩
theorem Qp.ofQ {w w' : World} (q : Q w w') : Qp (fun _ => False) w w' := ⟨q.os, q.tape, q.output, q.size, fun i hi _ => Below.block q i hi⟩
theorem Bk.qp {W W' : World} {t : TypeId} {b : Nat} {cs : Array Value} {P : Nat → Prop} (h : Bk W t b cs) (q : Qp P W W') (hp : ¬ P b) : Bk W' t b cs := ⟨(q.block b h.l hp).trans h.h⟩
structure Cz (w W : World) (b2 b3 b4 b5 : Nat) (L : List Sc) : Prop where
  r : Bk W 35 b2 z7a
  l : Bk W 35 b3 z7a
  m : Bk W 106 b4 #[.bool true, .map none]
  q : Q w W
  l2 : w.heap.size ≤ b2
  l3 : w.heap.size ≤ b3
  n : b2 ≠ b3
  n4 : b4 ≠ b3
  kp : ∃ X ov, Wk W b5 X ov L ∧ ∀ i, X i → w.heap.size ≤ i ∧ i ≠ b2 ∧ i ≠ b3 ∧ i ≠ b4
theorem Cz.on {w W W' : World} {b2 b3 b4 b5 : Nat} {L : List Sc} (h : Cz w W b2 b3 b4 b5 L) (q : Q W W') : Cz w W' b2 b3 b4 b5 L := by
  obtain ⟨X, ov, hk, hx⟩ := h.kp
  exact ⟨h.r.on q, h.l.on q, h.m.on q, h.q.trans q, h.l2, h.l3, h.n, h.n4, X, ov, hk.qp (Qp.ofQ q) (fun _ e => e.elim), hx⟩
theorem Cz.set {w W : World} {b2 b3 b4 b5 : Nat} {L : List Sc} (h : Cz w W b2 b3 b4 b5 L) (j : Nat) (d : Value) (hd : z7a[j]? = some d) : Cz w (W.setCell ⟨b3, j, none⟩ d) b2 b3 b4 b5 L := by
  obtain ⟨X, ov, hk, hx⟩ := h.kp
  exact ⟨h.r.oth h.n _ _, h.l.same _ _ hd, h.m.oth h.n4 _ _, h.q.setCell h.l3 _, h.l2, h.l3, h.n, h.n4, X, ov, hk.qp (P := fun i => i = b3) ((Qp.refl _ _).set _ _ (.inl rfl)) (fun i e x => (hx i x).2.2.1 e), hx⟩
theorem Cz.enter {w W : World} {b2 b3 b4 b5 : Nat} (h : Cz w W b2 b3 b4 b5 []) : Calls Tryz.prog 61 #[.pointer (some ⟨b5, 0, none⟩), .slice (some ⟨b3, 0, none⟩) 1 1] W fun e W' => (∃ u, e = .returned u) ∧ Cz w W' b2 b3 b4 b5 [(b3, 0, 1, 1)] := by
  obtain ⟨X, ov, hk, hx⟩ := h.kp
  refine (enter_any b5 X ov [] b3 0 1 1 W hk (by decide) (by decide) (by decide)).mono ?_
  rintro e W' ⟨hu, ov', h1, h2, h3⟩
  have s0 := h.q.size
  refine ⟨hu, h.r.qp h2 (fun e => (hx _ e).2.1 rfl), h.l.qp h2 (fun e => (hx _ e).2.2.1 rfl), h.m.qp h2 (fun e => (hx _ e).2.2.2 rfl), h.q.qp h2 (fun i e => (hx i e).1), h.l2, h.l3, h.n, h.n4, _, ov', h1, ?_⟩
  rintro i (e | e)
  · exact hx i e
  · rcases h3 i e with e | e
    · exact hx i e
    · have := h.r.l
      have := h.l.l
      have := h.m.l
      exact ⟨by omega, by omega, by omega, by omega⟩
theorem Cz.next1 {w W : World} {b2 b3 b4 b5 : Nat} (h : Cz w W b2 b3 b4 b5 [(b3, 0, 1, 1)]) : Calls Tryz.prog 62 #[.pointer (some ⟨b5, 0, none⟩)] W fun e W' => e = .returned (.pointer (some ⟨b3, 0, none⟩)) ∧ Cz w W' b2 b3 b4 b5 [] := by
  obtain ⟨X, ov, hk, hx⟩ := h.kp
  refine (next_one b5 X ov [] b3 0 1 W hk (by decide) (by decide)).mono ?_
  rintro e W' ⟨he, ⟨ov', h1⟩, h2⟩
  exact ⟨he, h.r.qp h2 (fun e => (hx _ e).2.1 rfl), h.l.qp h2 (fun e => (hx _ e).2.2.1 rfl), h.m.qp h2 (fun e => (hx _ e).2.2.2 rfl), h.q.qp h2 (fun i e => (hx i e).1), h.l2, h.l3, h.n, h.n4, X, ov', h1, hx⟩
theorem Cz.next0 {w W : World} {b2 b3 b4 b5 : Nat} (h : Cz w W b2 b3 b4 b5 []) : Calls Tryz.prog 62 #[.pointer (some ⟨b5, 0, none⟩)] W fun e W' => e = .returned (.pointer none) ∧ Cz w W' b2 b3 b4 b5 [] := by
  obtain ⟨X, ov, hk, hx⟩ := h.kp
  exact (next_nil b5 X ov W hk).mono fun e W' h1 => ⟨h1.1, by rw [h1.2]; exact h⟩
theorem cz_start {w w2 : World} {b1 b2 b3 : Nat} (h : T3 w w2 35 35 35 z7a z7a z7a b1 b2 b3) : Cz w ((w2.alloc (.cells #[.bool true, .map none] 106)).alloc (.cells #[.slice none 0 0] 109)) b2 b3 w2.heap.size (w2.heap.size + 1) [] := by
  have q : Q w2 ((w2.alloc (.cells #[.bool true, .map none] 106)).alloc (.cells #[.slice none 0 0] 109)) := ((Q.refl _).alloc _).alloc _
  have hb : Bk ((w2.alloc (.cells #[.bool true, .map none] 106)).alloc (.cells #[.slice none 0 0] 109)) 109 (w2.heap.size + 1) #[.slice none 0 0] := by
    have := bk_new (w2.alloc (.cells #[.bool true, .map none] 106)) 109 #[.slice none 0 0]
    rwa [show (w2.alloc (.cells #[.bool true, .map none] 106)).heap.size = w2.heap.size + 1 by simp] at this
  have l2 := h.b.l
  have l3 := h.r.l
  have s0 := h.q.size
  refine ⟨h.b.on q, h.r.on q, (bk_new w2 106 #[.bool true, .map none]).on ((Q.refl _).alloc _), h.q.trans q, h.lb, h.l6, h.n2, by omega, fun i => i = w2.heap.size + 1, .slice none 0 0, ⟨hb.c 0 _ rfl, hb.f 0, own_nil _, rfl, fun j e => by cases e⟩, ?_⟩
  rintro i rfl
  exact ⟨by omega, by omega, by omega, by omega⟩
set_option maxHeartbeats 4000000 in
theorem copied_z (w : World) : Calls Tryz.prog 41 #[.agg z7a] w fun e V' => e = .returned (.agg z7a) ∧ Q w V' := by
  have HF := hid (fun b V h => fitsap_z b V h)
  have HT := hid (t3_new w 35 35 35 z7a z7a z7a)
  unfold z7a at HT ⊢
  go_enter Tryz.func41, Tryz.ntmps41
  go_upto_region 2 with fail
  generalize ((w.alloc _).alloc _).alloc _ = w1 at HT ⊢
  generalize w.heap.size + 1 + 1 = b3 at HT ⊢
  generalize w.heap.size + 1 = b2 at HT ⊢
  obtain ⟨b1, hb1⟩ : ∃ b1, w.heap.size = b1 := ⟨_, rfl⟩
  have HT9 : Hid (T3 w w1 35 35 35 z7a z7a z7a b1 b2 b3) := hid (by have := HT.out; rw [hb1] at this; exact this)
  clear HT
  rw [hb1]
  go_upto_region 4 with (go_at_call 60; refine (HF.out _ _ HT9.out.r).mono ?_; rintro e9 w2 ⟨rfl, q2⟩; have HT2 := hid (HT9.out.on q2); clear q2)
  have HZ := hid (cz_start HT2.out)
  clear HT2 HT9 hb1 HF
  generalize (w2.alloc _).alloc _ = w3 at HZ ⊢
  generalize w2.heap.size + 1 = b5 at HZ ⊢
  generalize w2.heap.size = b4 at HZ ⊢
  go_wp2_with (first
    | (go_at_call 61; refine (HZ.out.enter).mono ?_; rintro e9 w4 ⟨⟨u9, rfl⟩, hz9⟩; have HZ4 := hid hz9; clear hz9)
    | (go_at_call 62; refine (HZ4.out.next1).mono ?_; rintro e9 w5 ⟨rfl, hz9⟩; have HZ5 := hid hz9; clear hz9))
  go_loopw [6, 7, 8] (fun v _ _ W => Hid (Cz w W b2 b3 b4 b5 []) ∧ (v = .pointer (some ⟨b3, 0, none⟩) ∨ v = .pointer none)) (fun v _ _ _ => match v with | .pointer (some _) => 1 | _ => 0)
  case atStart => exact ⟨HZ5, .inl rfl⟩
  case round =>
    obtain ⟨HC, rfl | rfl⟩ := hrel
    · clear HZ HZ4 HZ5
      have HCl := hid (fun V => clone_any ⟨#[]⟩ V (by decide))
      have c2 := HC.out.l.c 2 _ rfl
      have f2 := HC.out.l.f 2
      go_upto_region 9 with (go_at_call 25; refine (HCl.out _).mono ?_; rintro e9 w6 ⟨rfl, q9⟩; have HD := hid (HC.out.on q9); clear q9; have d2 := HD.out.l.c 2 _ rfl; have g2 := HD.out.l.f 2)
      have HE := hid (HD.out.set 2 (.string ⟨#[]⟩) rfl)
      clear HC HD c2 f2 d2 g2 HCl
      generalize w6.setCell _ _ = w7 at HE ⊢
      have HR := hid (fun V => copiedRefs_nil 0 V)
      have c5 := HE.out.l.c 5 _ rfl
      go_upto_region 10 with (go_at_call 63; refine (HR.out _).mono ?_; rintro e9 w8 ⟨rfl, q9⟩; have HF := hid (HE.out.on q9); clear q9; have d5 := HF.out.l.c 5 _ rfl; have g5 := HF.out.l.f 5)
      have HG := hid (HF.out.set 5 (.slice none 0 0) rfl)
      clear HE HF c5 d5 g5 HR
      generalize w8.setCell _ _ = w9 at HG ⊢
      have c6 := HG.out.l.c 6 _ rfl
      have HO := hid (fun V (h : Bk V 106 b4 #[.bool true, .map none]) => of_nil b4 0 0 V (h.c 0 _ rfl))
      go_upto_region 12 with (go_at_call 64; refine (HO.out _ HG.out.m).mono ?_; rintro e9 w10 ⟨rfl, q9⟩; have HH := hid (HG.out.on q9); clear q9; have d6 := HH.out.l.c 6 _ rfl; have g6 := HH.out.l.f 6)
      have HI := hid (HH.out.set 6 (.slice none 0 0) rfl)
      clear HG HH c6 d6 g6 HO
      generalize w10.setCell _ _ = w11 at HI ⊢
      have HN := hid (fun V => enter_nil b5 0 none V)
      go_wp2_with (first
        | (go_at_call 61; refine (HN.out _).mono ?_; rintro e9 w12 ⟨⟨u99, rfl⟩, rfl⟩; have HK := hid HI.out)
        | (go_at_call 62; refine (HK.out.next0).mono ?_; rintro e9 w13 ⟨rfl, hz9⟩; have HK5 := hid hz9; clear hz9))
      go_roundw
      case rel => exact ⟨HK5, .inr rfl⟩
      case measure => simp
    · clear HZ HZ4 HZ5
      have ct : HC.out.l.c 0 _ rfl = HC.out.l.c 0 _ rfl := rfl
      go_wp2_with (first
        | (with_reducible refine wpList_load_row (by with_unfolding_all rfl) 35 _ (by with_unfolding_all rfl) b3 (by with_unfolding_all rfl) 35 z7a (0, 0) _ HC.out.l.h Tryz.underlying35 (by with_unfolding_all rfl) (by with_unfolding_all exact info35f) ?_)
        | (with_reducible refine wpList_store_row (by with_unfolding_all rfl) 35 _ _ (by with_unfolding_all rfl) b2 z7a (by with_unfolding_all rfl) (by with_unfolding_all rfl) 35 _ HC.out.r.h (by with_unfolding_all exact info35f) (by with_unfolding_all rfl) (by with_unfolding_all kernel_rfl) ?_))
      refine bodyPost_ret (v := .agg _) (results_cell_row Tryz.results41 _ _ b2 35 _ (0, 0) _ (by rfl) (HC.out.r.row _).h Tryz.underlying35 rfl info35f) rfl ?_
      exact ⟨rfl, HC.out.q.row HC.out.l2 _⟩
set_option maxHeartbeats 1000000 in
theorem sheet_z (home : ByteArray) (w : World) : Calls Tryz.prog 26 #[.agg z7a, .string home, .string ⟨#[]⟩] w fun e V' => e = .returned (.agg z7a) ∧ Q w V' := by
  have HC := hid (fun V => copied_z V)
  have HM := hid (fun V => pmay_z V)
  have HT := hid (t2_new w 35 35 z7a z7a)
  unfold z7a at HC HM HT ⊢
  go_enter Tryz.func26, Tryz.ntmps26
  go_upto_region 1 with fail
  generalize (w.alloc _).alloc _ = w1 at HT ⊢
  generalize w.heap.size + 1 = b2 at HT ⊢
  obtain ⟨b1, hb1⟩ : ∃ b1, w.heap.size = b1 := ⟨_, rfl⟩
  have HT9 : Hid (T2 w w1 35 35 z7a z7a b1 b2) := hid (by have := HT.out; rw [hb1] at this; exact this)
  unfold z7a at HT9
  clear HT
  rw [hb1]
  go_upto_region 2 with (first
    | (with_reducible refine wpList_load_row (by with_unfolding_all rfl) 35 _ (by with_unfolding_all rfl) b1 (by with_unfolding_all rfl) 35 _ (0, 0) _ HT9.out.a.h Tryz.underlying35 (by with_unfolding_all rfl) (by with_unfolding_all exact info35f) ?_)
    | (go_at_call 41; refine (HC.out _).mono ?_; rintro e w2 ⟨rfl, q1⟩; have HT1 := hid (HT9.out.on q1); clear q1))
  have HB := hid (bk_new w2 35 #[.int .i64 0, .int .i64 0, .string ⟨#[]⟩, .bool false, .int .i64 0, .slice none 0 0, .slice none 0 0])
  have HT3 := hid (HT1.out.on ((Q.refl w2).alloc (.cells #[.int .i64 0, .int .i64 0, .string ⟨#[]⟩, .bool false, .int .i64 0, .slice none 0 0, .slice none 0 0] 35)))
  generalize w2.alloc _ = w3 at HB HT3 ⊢
  generalize w2.heap.size = b3 at HB ⊢
  go_wp2_with (first
    | (with_reducible refine wpList_load_row (by with_unfolding_all rfl) 35 _ (by with_unfolding_all rfl) b1 (by with_unfolding_all rfl) 35 _ (0, 0) _ HT3.out.a.h Tryz.underlying35 (by with_unfolding_all rfl) (by with_unfolding_all exact info35f) ?_)
    | (go_at_call 42; refine (HM.out _).mono ?_; rintro e w4 ⟨rfl, q1⟩; have HT4 := hid (HT3.out.on q1); have HB4 := hid (HB.out.on q1); clear q1)
    | (with_reducible refine wpList_load_row (by with_unfolding_all rfl) 35 _ (by with_unfolding_all rfl) b3 (by with_unfolding_all rfl) 35 _ (0, 0) _ HB4.out.h Tryz.underlying35 (by with_unfolding_all rfl) (by with_unfolding_all exact info35f) ?_)
    | (with_reducible refine wpList_store_row (by with_unfolding_all rfl) 35 _ _ (by with_unfolding_all rfl) b2 z7a (by with_unfolding_all rfl) (by with_unfolding_all rfl) 35 _ HT4.out.r.h (by with_unfolding_all exact info35f) (by with_unfolding_all rfl) (by with_unfolding_all kernel_rfl) ?_))
  refine bodyPost_ret (v := .agg _) (results_cell_row Tryz.results26 _ _ b2 35 _ (0, 0) _ (by rfl) (HT4.out.r.row _).h Tryz.underlying35 rfl info35f) rfl ?_
  exact ⟨rfl, HT4.out.q.row HT4.out.l6 _⟩
theorem sclone_nil (w : World) : Calls Tryz.prog 27 #[.slice none 0 0] w fun e V' => e = .returned (.slice none 0 0) ∧ Q w V' := by
  have qT : ∀ (w : World) (a : Option Addr) (n c n' c' : Nat), (binOp .eql 38 (.slice a n c) (.slice none n' c')).run Tryz.prog w = .ok (.bool a.isNone) w := fun w a n c n' c' => Lib.run_eql_slice_nil w _ _ a n c n' c' Tryz.underlying38
  go_enter Tryz.func27, Tryz.ntmps27
  go_wp2
  go_ret
  exact ⟨rfl, Q.refl _⟩
theorem so_copied (k : Int) (sh : ByteArray) (r c lk la lt : Int) (w : World) (hs : sh.size ≤ 1000) : Calls Tryz.prog 21 #[(so k sh r c lk la lt).v] w fun e V' => e = .returned (so k sh r c lk la lt).v ∧ Q w V' :=
  xcopied_any (so k sh r c lk la lt) w hs (Nat.zero_le 1000) (Nat.zero_le 1000) (fun V q => sheet_z sh V) (fun V q => sclone_nil V)
set_option maxHeartbeats 4000000 in
theorem told_any (x : Rv) (w : World) (hC : ∀ V, Q w V → Calls Tryz.prog 21 #[x.v] V fun e V' => e = .returned x.v ∧ Q V V') :
    Calls Tryz.prog 18 #[.agg (aL x).toArray] w fun e V' => e = .returned x.v ∧ Q w V' := by
  rw [Rv.v_eq] at hC ⊢
  have HC := hid hC
  have HT := hid (t2_new w 57 40 (aL x).toArray zero23)
  unfold zero23 at HT
  clear hC
  go_enter Tryz.func18, Tryz.ntmps18
  go_upto_region 1 with fail
  generalize (w.alloc _).alloc _ = w1 at HT ⊢
  generalize w.heap.size + 1 = b2 at HT ⊢
  obtain ⟨b1, hb1⟩ : ∃ b1, w.heap.size = b1 := ⟨_, rfl⟩
  have HT9 : Hid (T2 w w1 57 40 (aL x).toArray zero23 b1 b2) := hid (by have := HT.out; rw [hb1] at this; exact this)
  clear HT
  rw [hb1]
  go_wp2_with (first
    | (with_reducible refine wpList_load_mid (by with_unfolding_all rfl) 40 _ (by with_unfolding_all rfl) b1 0 (by with_unfolding_all rfl) x.L _ (HT9.out.a.range 0 x.L (fun j u hu => by rw [Nat.zero_add]; exact aL_get hu)) Tryz.underlying40 (by with_unfolding_all rfl) (by with_unfolding_all exact info40) ?_)
    | (go_at_call 21; refine (HC.out _ HT9.out.q).mono ?_; rintro e w2 ⟨rfl, q1⟩; have HT1 := hid (HT9.out.on q1); clear q1)
    | (with_reducible refine wpList_store_row (by with_unfolding_all rfl) 40 _ _ (by with_unfolding_all rfl) b2 x.L.toArray (by with_unfolding_all rfl) (by with_unfolding_all rfl) 40 _ HT1.out.r.h (by with_unfolding_all exact info40) (by with_unfolding_all rfl) x.one ?_))
  refine bodyPost_ret (v := .agg _) (results_cell_row Tryz.results18 _ _ b2 40 _ (0, 0) _ (by rfl) (HT1.out.r.row _).h Tryz.underlying40 rfl info40) rfl ?_
  exact ⟨rfl, HT1.out.q.row HT1.out.l6 _⟩
structure Ch (ch : List (Nat × Nat)) (L : Nat → Bool) : Prop where
  h : ∀ p ∈ ch, L p.1 = true → L p.2 = true
theorem Ch.m {ch : List (Nat × Nat)} {L : Nat → Bool} (h : Ch ch L) (i : Nat) (js : List Nat) (h1 : ∀ p ∈ ch, p.1 = i → p.2 ∈ js) (h2 : ∀ j ∈ js, L j = true) : Ch ch (ul L i) := ⟨fun p hp e => by
  by_cases e2 : p.2 = i
  · rw [e2]; exact if_pos rfl
  · rw [ul_ne9 e2]
    by_cases e1 : p.1 = i
    · exact h2 _ (h1 p hp e1)
    · rw [ul_ne9 e1] at e
      exact h.h p hp e⟩
theorem Ch.no {ch : List (Nat × Nat)} {L : Nat → Bool} (h : Ch ch L) {i j : Nat} (hp : (i, j) ∈ ch) (hj : L j = false) : L i = false := by
  cases e : L i with
  | false => rfl
  | true => exact absurd ((h.h _ hp e).symm.trans hj) (by decide)
def ln3 (x : Rv) : List Value := [.int .i64 x.lk, .int .i64 x.la, .int .i64 x.lt]
theorem x_ln3 (x : Rv) : ∀ j u, (ln3 x)[j]? = some u → x.L.toArray[17 + j]? = some u := by
  intro j u hu
  have hj : j < 3 := (List.getElem?_eq_some_iff.1 hu).1
  rcases j with _ | _ | _ | j
  all_goals first
    | exact hu
    | omega
theorem info28e : (Tryz.prog.info? 28).map (·.size) = some 3 := by kernel_rfl
def Rv.mv (x : Rv) (rows : Bool) (i : Int) : Rv := if rows then { x with row := i } else { x with col := i }
def Rv.at (x : Rv) (rows : Bool) : Int := if rows then x.row else x.col
def vShf (y : Rv) (b3 b4 off : Nat) (i i2 : Int) (t : Nat) : Value := if t = 42 then .pointer (some ⟨b4, 17, none⟩) else if t = 43 then .agg (ln3 y).toArray else if t = 46 then .int .i64 i else if t = 47 then .int .i64 i2 else .pointer (some ⟨b3, off, none⟩)
theorem l_ix (y : Rv) (i : Int) (V : World) : Calls Tryz.prog 56 #[.agg (ln3 y).toArray, .int .i64 i] V fun e V' => e = .returned (.int .i64 (L.ix y.lk y.la y.lt i)) ∧ Q V V' := L.index_any y.lk y.la y.lt i V
set_option maxHeartbeats 16000000 in
theorem shifted_same (x y : Rv) (p rows b : Bool) (w : World) (hk : x.k = 1) (hf : x.f = false) (hy : y.k = if rows then 2 else 3) (hs : x.sh = y.sh)
    (hm : ∀ V, Q w V → Calls Tryz.prog 22 #[(x.mv rows (L.ix y.lk y.la y.lt (x.at rows))).v] V fun e V' => e = .returned (.bool b) ∧ Q V V') :
    Calls Tryz.prog 37 #[x.v, y.v, .bool p] w fun e V' => e = .returned (.tuple #[.agg (if b then (x.mv rows (L.ix y.lk y.la y.lt (x.at rows))).L.toArray else zero23), .bool b]) ∧ Q w V' := by
  rw [Rv.v_eq, Rv.v_eq]
  rw [Rv.v_eq] at hm
  have HM := hid hm
  have HX := hid (fun V => l_ix y (x.at rows) V)
  have HT := hid (t3_new w 40 40 40 x.L.toArray y.L.toArray zero23)
  unfold zero23 at HT
  have es : (x.sh.toList == y.sh.toList) = true := by rw [hs]; simp
  have k1 : (x.k == 1) = true := by rw [hk]; rfl
  clear hm hs
  generalize hi2 : L.ix y.lk y.la y.lt (x.at rows) = i2 at HM HX ⊢
  generalize hi : x.at rows = i at HX
  obtain ⟨off, HO⟩ : ∃ off, Hid (off = if rows then 2 else 3) := ⟨_, hid rfl⟩
  have HOff : Hid (x.L.toArray[off]? = some (.int .i64 i) ∧ x.L.toArray.setIfInBounds off (.int .i64 i2) = (x.mv rows i2).L.toArray) := hid (by
    rw [HO.out, ← hi]
    cases rows <;> exact ⟨rfl, rfl⟩)
  clear hi hi2
  generalize x.mv rows i2 = x2 at HM HOff ⊢
  cases rows
  · simp only [if_true, if_false, Bool.false_eq_true] at hy HO
    have HO2 := HO.out
    subst HO2
    have ky2 : (y.k == 2) = decide (y.k = 2) := rfl
    have ky3 : (y.k == 3) = decide (y.k = 3) := rfl
    rw [hy] at ky2 ky3
    simp only [Int.reduceEq, decide_true, decide_false] at ky2 ky3
    go_enter Tryz.func37, Tryz.ntmps37
    go_upto_region 1 with fail
    generalize ((w.alloc (.cells x.L.toArray 40)).alloc (.cells y.L.toArray 40)).alloc _ = w3 at HT ⊢
    generalize w.heap.size + 1 + 1 = b6 at HT ⊢
    generalize w.heap.size + 1 = b4 at HT ⊢
    obtain ⟨b3, hb3⟩ : ∃ b3, w.heap.size = b3 := ⟨_, rfl⟩
    have HT9 : Hid (T3 w w3 40 40 40 x.L.toArray y.L.toArray zero23 b3 b4 b6) := hid (by have := HT.out; rw [hb3] at this; exact this)
    clear HT
    have HT := HT9
    clear HT9
    rw [hb3]
    have k4 := HT.out.b.c 0 (.int .i64 y.k) rfl
    have k3 := HT.out.a.c 0 (.int .i64 x.k) rfl
    have e3 := HT.out.a.c 1 (.string x.sh) rfl
    have e4 := HT.out.b.c 1 (.string y.sh) rfl
    have f3 := HT.out.a.c 4 (.bool x.f) rfl
    rw [hf] at f3
    rw [hy] at k4
    go_upto_region 10 with fail
    clear k4 k3 e3 e4 f3
    refine wp_region_invw (by kernel_rfl) [41, 42, 43, 44, 45, 46, 47, 48] (fun L v W => SI w (fun W => Bk W 40 b4 y.L.toArray ∧ Bk W 40 b6 zero23) (fun W => Bk W 40 b3 x.L.toArray) (fun W => Bk W 40 b3 x2.L.toArray) 8 (fun t => t - 41) [41, 42, 43, 44, 45, 46, 47, 48] (vShf y b3 b4 3 i i2) L v W ∧ Ch [(8, 6), (6, 5)] L) (by kernel_rfl) (steps_list ⟨?o0, ?o1, ?o2, ?o3, ?o4, ?o5, ?o6, ?o7, ?o8, trivial⟩)
      ⟨⟨fun W W' q => ⟨fun h => ⟨h.1.on q, h.2.on q⟩, fun h => h.on q, fun h => h.on q⟩, by decide, HT.out.q.drew, ⟨HT.out.b.on (Q.refl _).drew, HT.out.r.on (Q.refl _).drew⟩, fun _ => HT.out.a.on (Q.refl _).drew, fun h => absurd h Bool.false_ne_true, fun _ _ h => absurd h Bool.false_ne_true⟩, ⟨fun _ _ h => absurd h Bool.false_ne_true⟩⟩ ?rest
    case o0 =>
      intro L v W J hL hd
      refine opw_val rfl rfl rfl (by decide) (by simp only [frm, List.foldl_cons, List.foldl_nil, List.setIfInBounds_toArray, List.set_cons_zero, List.set_cons_succ]; (go_simp) <;> (first | exact ⟨⟨rfl, rfl⟩, rfl⟩ | exact ⟨rfl, rfl⟩ | with_reducible rfl)) ?_
      exact ⟨J.1.m (Q.refl _) 0 41 (by decide) (by decide), J.2.m 0 [] (by decide) (fun j hj => hd j (by revert hj; revert j; decide))⟩
    case o1 =>
      intro L v W J hL hd
      refine opw_val rfl rfl rfl (by decide) (by simp only [frm, List.foldl_cons, List.foldl_nil, List.setIfInBounds_toArray, List.set_cons_zero, List.set_cons_succ]; (go_simp) <;> (first | exact ⟨⟨rfl, rfl⟩, rfl⟩ | exact ⟨rfl, rfl⟩ | with_reducible rfl)) ?_
      exact ⟨J.1.m (Q.refl _) 1 42 (by decide) (by decide), J.2.m 1 [] (by decide) (fun j hj => hd j (by revert hj; revert j; decide))⟩
    case o2 =>
      intro L v W J hL hd
      have h42 : v 42 = .pointer (some ⟨b4, 17, none⟩) := J.1.mv 42 (by decide) (hd 1 (by decide))
      exact opw_lmid 28 (.tmp 42) b4 17 (ln3 y) _ rfl rfl rfl rfl (by decide) ((frm_eval (by decide) (by rfl)).trans h42) (J.1.p.1.range 17 (ln3 y) (x_ln3 y)) Tryz.underlying28 rfl info28e ⟨J.1.m (Q.refl _) 2 43 (by decide) (by decide), J.2.m 2 [] (by decide) (fun j hj => hd j (by revert hj; revert j; decide))⟩
    case o3 =>
      intro L v W J hL hd
      refine opw_val rfl rfl rfl (by decide) (by simp only [frm, List.foldl_cons, List.foldl_nil, List.setIfInBounds_toArray, List.set_cons_zero, List.set_cons_succ]; (go_simp) <;> (first | exact ⟨⟨rfl, rfl⟩, rfl⟩ | exact ⟨rfl, rfl⟩ | with_reducible rfl)) ?_
      exact ⟨J.1.m (Q.refl _) 3 44 (by decide) (by decide), J.2.m 3 [] (by decide) (fun j hj => hd j (by revert hj; revert j; decide))⟩
    case o4 =>
      intro L v W J hL hd
      have h44 : v 44 = .pointer (some ⟨b3, _, none⟩) := J.1.mv 44 (by decide) (hd 3 (by decide))
      refine opw_val rfl rfl rfl (by decide) (by simp only [frm, List.foldl_cons, List.foldl_nil, List.setIfInBounds_toArray, List.set_cons_zero, List.set_cons_succ]; (go_simp) <;> (first | exact ⟨⟨rfl, rfl⟩, rfl⟩ | exact ⟨rfl, rfl⟩ | with_reducible rfl)) ?_
      exact ⟨J.1.m (Q.refl _) 4 45 (by decide) (by decide), J.2.m 4 [] (by decide) (fun j hj => hd j (by revert hj; revert j; decide))⟩
    case o5 =>
      intro L v W J hL hd
      have h45 : v 45 = .pointer (some ⟨b3, _, none⟩) := J.1.mv 45 (by decide) (hd 4 (by decide))
      have c0 := (J.1.a (J.2.no (by decide) (J.2.no (i := 6) (by decide) hL))).c _ (.int .i64 i) HOff.out.1
      refine opw_val rfl rfl rfl (by decide) (by simp only [frm, List.foldl_cons, List.foldl_nil, List.setIfInBounds_toArray, List.set_cons_zero, List.set_cons_succ]; (go_simp) <;> (first | exact ⟨⟨rfl, rfl⟩, rfl⟩ | exact ⟨rfl, rfl⟩ | with_reducible rfl)) ?_
      exact ⟨J.1.m (Q.refl _) 5 46 (by decide) (by decide), J.2.m 5 [] (by decide) (fun j hj => hd j (by revert hj; revert j; decide))⟩
    case o6 =>
      intro L v W J hL hd
      have h43 : v 43 = .agg (ln3 y).toArray := J.1.mv 43 (by decide) (hd 2 (by decide))
      have h46 : v 46 = .int .i64 i := J.1.mv 46 (by decide) (hd 5 (by decide))
      refine opw_call rfl rfl rfl (by decide) (by simp only [frm, List.foldl_cons, List.foldl_nil, List.setIfInBounds_toArray, List.set_cons_zero, List.set_cons_succ]; (go_simp) <;> (first | exact ⟨⟨rfl, rfl⟩, rfl⟩ | exact ⟨rfl, rfl⟩ | with_reducible rfl)) ?_
      refine (HX.out _).mono ?_
      rintro e W1 ⟨rfl, q1⟩
      exact ⟨_, rfl, ⟨J.1.m (q1) 6 47 (by decide) (by decide), J.2.m 6 [5] (by decide) (fun j hj => hd j (by revert hj; revert j; decide))⟩⟩
    case o7 =>
      intro L v W J hL hd
      have h41 : v 41 = .pointer (some ⟨b3, _, none⟩) := J.1.mv 41 (by decide) (hd 0 (by decide))
      refine opw_val rfl rfl rfl (by decide) (by simp only [frm, List.foldl_cons, List.foldl_nil, List.setIfInBounds_toArray, List.set_cons_zero, List.set_cons_succ]; (go_simp) <;> (first | exact ⟨⟨rfl, rfl⟩, rfl⟩ | exact ⟨rfl, rfl⟩ | with_reducible rfl)) ?_
      exact ⟨J.1.m (Q.refl _) 7 48 (by decide) (by decide), J.2.m 7 [] (by decide) (fun j hj => hd j (by revert hj; revert j; decide))⟩
    case o8 =>
      intro L v W J hL hd
      have h48 : v 48 = .pointer (some ⟨b3, _, none⟩) := J.1.mv 48 (by decide) (hd 7 (by decide))
      have h47 : v 47 = .int .i64 i2 := J.1.mv 47 (by decide) (hd 6 (by decide))
      have hA := J.1.a hL
      have c0 := hA.c _ (.int .i64 i) HOff.out.1
      have f0 := hA.f 3
      refine opw_non rfl rfl rfl (by simp only [frm, List.foldl_cons, List.foldl_nil, List.setIfInBounds_toArray, List.set_cons_zero, List.set_cons_succ]; (go_simp) <;> (first | exact ⟨⟨rfl, rfl⟩, rfl⟩ | exact ⟨rfl, rfl⟩ | with_reducible rfl)) ?_
      exact ⟨J.1.put (J.1.q.setCell HT.out.l _) ⟨J.1.p.1.oth (Ne.symm HT.out.n3) _ _, J.1.p.2.oth (Ne.symm HT.out.n1) _ _⟩ (HOff.out.2 ▸ hA.put _ _), J.2.m 8 [6] (by decide) (fun j hj => hd j (by revert hj; revert j; decide))⟩
    intro L v w4 hall J
    have HT4 : Hid (T3 w w4 40 40 40 x2.L.toArray y.L.toArray zero23 b3 b4 b6) := hid ⟨J.1.b (hall 8 (by decide)), J.1.p.1, J.1.p.2, HT.out.n1, HT.out.n2, HT.out.n3, HT.out.l, HT.out.lb, HT.out.l6, J.1.q⟩
    simp only [frm, List.foldl_cons, List.foldl_nil, List.setIfInBounds_toArray, List.set_cons_zero, List.set_cons_succ]
    clear hall J HT HX HO HOff
    cases b
    all_goals
      go_wp2_with (first
        | (with_reducible refine wpList_load_row (by with_unfolding_all rfl) 40 _ (by with_unfolding_all rfl) b3 (by with_unfolding_all rfl) 40 x2.L.toArray (0, 0) _ HT4.out.a.h Tryz.underlying40 (by with_unfolding_all rfl) (by with_unfolding_all exact info40) ?_)
        | (go_at_call 22; refine (HM.out _ HT4.out.q).mono ?_; rintro e9 w5 ⟨rfl, q9⟩; have HT5 := hid (HT4.out.on q9); clear q9)
        | (with_reducible refine wpList_load_row (by with_unfolding_all rfl) 40 _ (by with_unfolding_all rfl) b3 (by with_unfolding_all rfl) 40 x2.L.toArray (0, 0) _ HT5.out.a.h Tryz.underlying40 (by with_unfolding_all rfl) (by with_unfolding_all exact info40) ?_)
        | (with_reducible refine wpl_buildt 40 _ (by with_unfolding_all rfl) (by with_unfolding_all rfl) zero23 (by with_unfolding_all kernel_rfl) ?_)
        | (with_reducible refine wpList_store_row (by with_unfolding_all rfl) 40 _ _ (by with_unfolding_all rfl) b6 zero23 (by with_unfolding_all rfl) (by with_unfolding_all rfl) 40 _ HT5.out.r.h (by with_unfolding_all exact info40) (by with_unfolding_all rfl) (by with_unfolding_all kernel_rfl) ?_)
        | (with_reducible refine wpList_store_row (by with_unfolding_all rfl) 40 _ _ (by with_unfolding_all rfl) b6 x2.L.toArray (by with_unfolding_all rfl) (by with_unfolding_all rfl) 40 _ HT5.out.r.h (by with_unfolding_all exact info40) (by with_unfolding_all rfl) x2.one ?_))
      refine bodyPost_ret (v := .tuple #[.agg _, .bool _]) (results_cell2 Tryz.results37 _ _ b6 40 _ (0, 0) _ (by rfl) (HT5.out.r.row _).h Tryz.underlying40 rfl info40) rfl ?_
      exact ⟨rfl, HT5.out.q.row HT5.out.l6 _⟩
  · simp only [if_true, if_false, Bool.false_eq_true] at hy HO
    have HO2 := HO.out
    subst HO2
    have ky2 : (y.k == 2) = decide (y.k = 2) := rfl
    have ky3 : (y.k == 3) = decide (y.k = 3) := rfl
    rw [hy] at ky2 ky3
    simp only [Int.reduceEq, decide_true, decide_false] at ky2 ky3
    go_enter Tryz.func37, Tryz.ntmps37
    go_upto_region 1 with fail
    generalize ((w.alloc (.cells x.L.toArray 40)).alloc (.cells y.L.toArray 40)).alloc _ = w3 at HT ⊢
    generalize w.heap.size + 1 + 1 = b6 at HT ⊢
    generalize w.heap.size + 1 = b4 at HT ⊢
    obtain ⟨b3, hb3⟩ : ∃ b3, w.heap.size = b3 := ⟨_, rfl⟩
    have HT9 : Hid (T3 w w3 40 40 40 x.L.toArray y.L.toArray zero23 b3 b4 b6) := hid (by have := HT.out; rw [hb3] at this; exact this)
    clear HT
    have HT := HT9
    clear HT9
    rw [hb3]
    have k4 := HT.out.b.c 0 (.int .i64 y.k) rfl
    have k3 := HT.out.a.c 0 (.int .i64 x.k) rfl
    have e3 := HT.out.a.c 1 (.string x.sh) rfl
    have e4 := HT.out.b.c 1 (.string y.sh) rfl
    have f3 := HT.out.a.c 4 (.bool x.f) rfl
    rw [hf] at f3
    rw [hy] at k4
    go_upto_region 10 with fail
    clear k4 k3 e3 e4 f3
    refine wp_region_invw (by kernel_rfl) [41, 42, 43, 44, 45, 46, 47, 48] (fun L v W => SI w (fun W => Bk W 40 b4 y.L.toArray ∧ Bk W 40 b6 zero23) (fun W => Bk W 40 b3 x.L.toArray) (fun W => Bk W 40 b3 x2.L.toArray) 8 (fun t => t - 41) [41, 42, 43, 44, 45, 46, 47, 48] (vShf y b3 b4 2 i i2) L v W ∧ Ch [(8, 6), (6, 5)] L) (by kernel_rfl) (steps_list ⟨?u0, ?u1, ?u2, ?u3, ?u4, ?u5, ?u6, ?u7, ?u8, trivial⟩)
      ⟨⟨fun W W' q => ⟨fun h => ⟨h.1.on q, h.2.on q⟩, fun h => h.on q, fun h => h.on q⟩, by decide, HT.out.q.drew, ⟨HT.out.b.on (Q.refl _).drew, HT.out.r.on (Q.refl _).drew⟩, fun _ => HT.out.a.on (Q.refl _).drew, fun h => absurd h Bool.false_ne_true, fun _ _ h => absurd h Bool.false_ne_true⟩, ⟨fun _ _ h => absurd h Bool.false_ne_true⟩⟩ ?restu
    case u0 =>
      intro L v W J hL hd
      refine opw_val rfl rfl rfl (by decide) (by simp only [frm, List.foldl_cons, List.foldl_nil, List.setIfInBounds_toArray, List.set_cons_zero, List.set_cons_succ]; (go_simp) <;> (first | exact ⟨⟨rfl, rfl⟩, rfl⟩ | exact ⟨rfl, rfl⟩ | with_reducible rfl)) ?_
      exact ⟨J.1.m (Q.refl _) 0 41 (by decide) (by decide), J.2.m 0 [] (by decide) (fun j hj => hd j (by revert hj; revert j; decide))⟩
    case u1 =>
      intro L v W J hL hd
      refine opw_val rfl rfl rfl (by decide) (by simp only [frm, List.foldl_cons, List.foldl_nil, List.setIfInBounds_toArray, List.set_cons_zero, List.set_cons_succ]; (go_simp) <;> (first | exact ⟨⟨rfl, rfl⟩, rfl⟩ | exact ⟨rfl, rfl⟩ | with_reducible rfl)) ?_
      exact ⟨J.1.m (Q.refl _) 1 42 (by decide) (by decide), J.2.m 1 [] (by decide) (fun j hj => hd j (by revert hj; revert j; decide))⟩
    case u2 =>
      intro L v W J hL hd
      have h42 : v 42 = .pointer (some ⟨b4, 17, none⟩) := J.1.mv 42 (by decide) (hd 1 (by decide))
      exact opw_lmid 28 (.tmp 42) b4 17 (ln3 y) _ rfl rfl rfl rfl (by decide) ((frm_eval (by decide) (by rfl)).trans h42) (J.1.p.1.range 17 (ln3 y) (x_ln3 y)) Tryz.underlying28 rfl info28e ⟨J.1.m (Q.refl _) 2 43 (by decide) (by decide), J.2.m 2 [] (by decide) (fun j hj => hd j (by revert hj; revert j; decide))⟩
    case u3 =>
      intro L v W J hL hd
      refine opw_val rfl rfl rfl (by decide) (by simp only [frm, List.foldl_cons, List.foldl_nil, List.setIfInBounds_toArray, List.set_cons_zero, List.set_cons_succ]; (go_simp) <;> (first | exact ⟨⟨rfl, rfl⟩, rfl⟩ | exact ⟨rfl, rfl⟩ | with_reducible rfl)) ?_
      exact ⟨J.1.m (Q.refl _) 3 44 (by decide) (by decide), J.2.m 3 [] (by decide) (fun j hj => hd j (by revert hj; revert j; decide))⟩
    case u4 =>
      intro L v W J hL hd
      have h44 : v 44 = .pointer (some ⟨b3, _, none⟩) := J.1.mv 44 (by decide) (hd 3 (by decide))
      refine opw_val rfl rfl rfl (by decide) (by simp only [frm, List.foldl_cons, List.foldl_nil, List.setIfInBounds_toArray, List.set_cons_zero, List.set_cons_succ]; (go_simp) <;> (first | exact ⟨⟨rfl, rfl⟩, rfl⟩ | exact ⟨rfl, rfl⟩ | with_reducible rfl)) ?_
      exact ⟨J.1.m (Q.refl _) 4 45 (by decide) (by decide), J.2.m 4 [] (by decide) (fun j hj => hd j (by revert hj; revert j; decide))⟩
    case u5 =>
      intro L v W J hL hd
      have h45 : v 45 = .pointer (some ⟨b3, _, none⟩) := J.1.mv 45 (by decide) (hd 4 (by decide))
      have c0 := (J.1.a (J.2.no (by decide) (J.2.no (i := 6) (by decide) hL))).c _ (.int .i64 i) HOff.out.1
      refine opw_val rfl rfl rfl (by decide) (by simp only [frm, List.foldl_cons, List.foldl_nil, List.setIfInBounds_toArray, List.set_cons_zero, List.set_cons_succ]; (go_simp) <;> (first | exact ⟨⟨rfl, rfl⟩, rfl⟩ | exact ⟨rfl, rfl⟩ | with_reducible rfl)) ?_
      exact ⟨J.1.m (Q.refl _) 5 46 (by decide) (by decide), J.2.m 5 [] (by decide) (fun j hj => hd j (by revert hj; revert j; decide))⟩
    case u6 =>
      intro L v W J hL hd
      have h43 : v 43 = .agg (ln3 y).toArray := J.1.mv 43 (by decide) (hd 2 (by decide))
      have h46 : v 46 = .int .i64 i := J.1.mv 46 (by decide) (hd 5 (by decide))
      refine opw_call rfl rfl rfl (by decide) (by simp only [frm, List.foldl_cons, List.foldl_nil, List.setIfInBounds_toArray, List.set_cons_zero, List.set_cons_succ]; (go_simp) <;> (first | exact ⟨⟨rfl, rfl⟩, rfl⟩ | exact ⟨rfl, rfl⟩ | with_reducible rfl)) ?_
      refine (HX.out _).mono ?_
      rintro e W1 ⟨rfl, q1⟩
      exact ⟨_, rfl, ⟨J.1.m (q1) 6 47 (by decide) (by decide), J.2.m 6 [5] (by decide) (fun j hj => hd j (by revert hj; revert j; decide))⟩⟩
    case u7 =>
      intro L v W J hL hd
      have h41 : v 41 = .pointer (some ⟨b3, _, none⟩) := J.1.mv 41 (by decide) (hd 0 (by decide))
      refine opw_val rfl rfl rfl (by decide) (by simp only [frm, List.foldl_cons, List.foldl_nil, List.setIfInBounds_toArray, List.set_cons_zero, List.set_cons_succ]; (go_simp) <;> (first | exact ⟨⟨rfl, rfl⟩, rfl⟩ | exact ⟨rfl, rfl⟩ | with_reducible rfl)) ?_
      exact ⟨J.1.m (Q.refl _) 7 48 (by decide) (by decide), J.2.m 7 [] (by decide) (fun j hj => hd j (by revert hj; revert j; decide))⟩
    case u8 =>
      intro L v W J hL hd
      have h48 : v 48 = .pointer (some ⟨b3, _, none⟩) := J.1.mv 48 (by decide) (hd 7 (by decide))
      have h47 : v 47 = .int .i64 i2 := J.1.mv 47 (by decide) (hd 6 (by decide))
      have hA := J.1.a hL
      have c0 := hA.c _ (.int .i64 i) HOff.out.1
      have f0 := hA.f 2
      refine opw_non rfl rfl rfl (by simp only [frm, List.foldl_cons, List.foldl_nil, List.setIfInBounds_toArray, List.set_cons_zero, List.set_cons_succ]; (go_simp) <;> (first | exact ⟨⟨rfl, rfl⟩, rfl⟩ | exact ⟨rfl, rfl⟩ | with_reducible rfl)) ?_
      exact ⟨J.1.put (J.1.q.setCell HT.out.l _) ⟨J.1.p.1.oth (Ne.symm HT.out.n3) _ _, J.1.p.2.oth (Ne.symm HT.out.n1) _ _⟩ (HOff.out.2 ▸ hA.put _ _), J.2.m 8 [6] (by decide) (fun j hj => hd j (by revert hj; revert j; decide))⟩
    intro L v w4 hall J
    have HT4 : Hid (T3 w w4 40 40 40 x2.L.toArray y.L.toArray zero23 b3 b4 b6) := hid ⟨J.1.b (hall 8 (by decide)), J.1.p.1, J.1.p.2, HT.out.n1, HT.out.n2, HT.out.n3, HT.out.l, HT.out.lb, HT.out.l6, J.1.q⟩
    simp only [frm, List.foldl_cons, List.foldl_nil, List.setIfInBounds_toArray, List.set_cons_zero, List.set_cons_succ]
    clear hall J HT HX HO HOff
    cases b
    all_goals
      go_wp2_with (first
        | (with_reducible refine wpList_load_row (by with_unfolding_all rfl) 40 _ (by with_unfolding_all rfl) b3 (by with_unfolding_all rfl) 40 x2.L.toArray (0, 0) _ HT4.out.a.h Tryz.underlying40 (by with_unfolding_all rfl) (by with_unfolding_all exact info40) ?_)
        | (go_at_call 22; refine (HM.out _ HT4.out.q).mono ?_; rintro e9 w5 ⟨rfl, q9⟩; have HT5 := hid (HT4.out.on q9); clear q9)
        | (with_reducible refine wpList_load_row (by with_unfolding_all rfl) 40 _ (by with_unfolding_all rfl) b3 (by with_unfolding_all rfl) 40 x2.L.toArray (0, 0) _ HT5.out.a.h Tryz.underlying40 (by with_unfolding_all rfl) (by with_unfolding_all exact info40) ?_)
        | (with_reducible refine wpl_buildt 40 _ (by with_unfolding_all rfl) (by with_unfolding_all rfl) zero23 (by with_unfolding_all kernel_rfl) ?_)
        | (with_reducible refine wpList_store_row (by with_unfolding_all rfl) 40 _ _ (by with_unfolding_all rfl) b6 zero23 (by with_unfolding_all rfl) (by with_unfolding_all rfl) 40 _ HT5.out.r.h (by with_unfolding_all exact info40) (by with_unfolding_all rfl) (by with_unfolding_all kernel_rfl) ?_)
        | (with_reducible refine wpList_store_row (by with_unfolding_all rfl) 40 _ _ (by with_unfolding_all rfl) b6 x2.L.toArray (by with_unfolding_all rfl) (by with_unfolding_all rfl) 40 _ HT5.out.r.h (by with_unfolding_all exact info40) (by with_unfolding_all rfl) x2.one ?_))
      refine bodyPost_ret (v := .tuple #[.agg _, .bool _]) (results_cell2 Tryz.results37 _ _ b6 40 _ (0, 0) _ (by rfl) (HT5.out.r.row _).h Tryz.underlying40 rfl info40) rfl ?_
      exact ⟨rfl, HT5.out.q.row HT5.out.l6 _⟩
end Go.Proofs.YthebfhdpofhmpaaGreatDoor
namespace Go.Proofs.YthebfhdpofhmpaaGreatDoor
open Go.RowKit
set_option maxHeartbeats 4000000 in
theorem shifted_far (x y : Rv) (p : Bool) (w : World) (hf : x.f = false) (hs : x.sh ≠ y.sh)
    (hm : ∀ V, Q w V → Calls Tryz.prog 22 #[x.v] V fun e V' => e = .returned (.bool true) ∧ Q V V') :
    Calls Tryz.prog 37 #[x.v, y.v, .bool p] w fun e V' => e = .returned (.tuple #[x.v, .bool true]) ∧ Q w V' := by
  rw [Rv.v_eq, Rv.v_eq]
  rw [Rv.v_eq] at hm
  have HM := hid hm
  have HT := hid (t3_new w 40 40 40 x.L.toArray y.L.toArray zero23)
  unfold zero23 at HT
  have es : (x.sh.toList == y.sh.toList) = false := by rw [Lib.toList_data, Lib.toList_data, beq_eq_false_iff_ne]; exact fun e => hs (ByteArray.ext (Array.toList_inj.1 e))
  clear hm hs
  go_enter Tryz.func37, Tryz.ntmps37
  go_upto_region 1 with fail
  generalize ((w.alloc (.cells x.L.toArray 40)).alloc (.cells y.L.toArray 40)).alloc _ = w3 at HT ⊢
  generalize w.heap.size + 1 + 1 = b6 at HT ⊢
  generalize w.heap.size + 1 = b4 at HT ⊢
  obtain ⟨b3, hb3⟩ : ∃ b3, w.heap.size = b3 := ⟨_, rfl⟩
  have HT9 : Hid (T3 w w3 40 40 40 x.L.toArray y.L.toArray zero23 b3 b4 b6) := hid (by have := HT.out; rw [hb3] at this; exact this)
  clear HT
  have HT := HT9
  clear HT9
  rw [hb3]
  have k4 := HT.out.b.c 0 (.int .i64 y.k) rfl
  have e3 := HT.out.a.c 1 (.string x.sh) rfl
  have e4 := HT.out.b.c 1 (.string y.sh) rfl
  have f3 := HT.out.a.c 4 (.bool x.f) rfl
  rw [hf] at f3
  go_wp2_with (first
    | (with_reducible refine wpList_load_row (by with_unfolding_all rfl) 40 _ (by with_unfolding_all rfl) b3 (by with_unfolding_all rfl) 40 x.L.toArray (0, 0) _ HT.out.a.h Tryz.underlying40 (by with_unfolding_all rfl) (by with_unfolding_all exact info40) ?_)
    | (go_at_call 22; refine (HM.out _ HT.out.q).mono ?_; rintro e9 w5 ⟨rfl, q9⟩; have HT5 := hid (HT.out.on q9); clear q9)
    | (with_reducible refine wpList_load_row (by with_unfolding_all rfl) 40 _ (by with_unfolding_all rfl) b3 (by with_unfolding_all rfl) 40 x.L.toArray (0, 0) _ HT5.out.a.h Tryz.underlying40 (by with_unfolding_all rfl) (by with_unfolding_all exact info40) ?_)
    | (with_reducible refine wpList_store_row (by with_unfolding_all rfl) 40 _ _ (by with_unfolding_all rfl) b6 x.L.toArray (by with_unfolding_all rfl) (by with_unfolding_all rfl) 40 _ HT5.out.r.h (by with_unfolding_all exact info40) (by with_unfolding_all rfl) x.one ?_))
  refine bodyPost_ret (v := .tuple #[.agg _, .bool _]) (results_cell2 Tryz.results37 _ _ b6 40 _ (0, 0) _ (by rfl) (HT5.out.r.row _).h Tryz.underlying40 rfl info40) rfl ?_
  exact ⟨rfl, HT5.out.q.row HT5.out.l6 _⟩
theorem zero_one : zero23.all (·.oneCell') = true := by kernel_rfl
set_option maxHeartbeats 4000000 in
theorem bereft_same (x : Rv) (w : World) :
    Calls Tryz.prog 38 #[x.v, .string x.sh] w fun e V' => e = .returned (.tuple #[.agg zero23, .bool false]) ∧ Q w V' := by
  rw [Rv.v_eq]
  have HT := hid (t2_new w 40 40 x.L.toArray zero23)
  unfold zero23 at HT
  have es : (x.sh.toList == x.sh.toList) = true := by simp
  go_enter Tryz.func38, Tryz.ntmps38
  go_upto_region 1 with fail
  generalize (w.alloc (.cells x.L.toArray 40)).alloc _ = w1 at HT ⊢
  generalize w.heap.size + 1 = b2 at HT ⊢
  obtain ⟨b1, hb1⟩ : ∃ b1, w.heap.size = b1 := ⟨_, rfl⟩
  have HT9 : Hid (T2 w w1 40 40 x.L.toArray zero23 b1 b2) := hid (by have := HT.out; rw [hb1] at this; exact this)
  clear HT
  rw [hb1]
  have e3 := HT9.out.a.c 1 (.string x.sh) rfl
  go_wp2_with (first
    | (with_reducible refine wpl_buildt 40 _ (by with_unfolding_all rfl) (by with_unfolding_all rfl) zero23 (by with_unfolding_all kernel_rfl) ?_)
    | (with_reducible refine wpList_store_row (by with_unfolding_all rfl) 40 _ _ (by with_unfolding_all rfl) b2 zero23 (by with_unfolding_all rfl) (by with_unfolding_all rfl) 40 _ HT9.out.r.h (by with_unfolding_all exact info40) (by with_unfolding_all rfl) zero_one ?_))
  refine bodyPost_ret (v := .tuple #[.agg _, .bool _]) (results_cell2 Tryz.results38 _ _ b2 40 _ (0, 0) _ (by rfl) (HT9.out.r.row _).h Tryz.underlying40 rfl info40) rfl ?_
  exact ⟨rfl, HT9.out.q.row HT9.out.l6 _⟩
set_option maxHeartbeats 4000000 in
theorem behind_line (x y z : Rv) (p b : Bool) (w : World) (hy : y.k = 2 ∨ y.k = 3)
    (hS : ∀ V, Q w V → Calls Tryz.prog 37 #[x.v, y.v, .bool p] V fun e V' => e = .returned (.tuple #[z.v, .bool b]) ∧ Q V V') :
    Calls Tryz.prog 24 #[x.v, y.v, .bool p] w fun e V' => e = .returned (.tuple #[z.v, .bool b]) ∧ Q w V' := by
  rw [Rv.v_eq, Rv.v_eq, Rv.v_eq]
  rw [Rv.v_eq, Rv.v_eq, Rv.v_eq] at hS
  have HS := hid hS
  have HT := hid (t3_new w 40 40 40 x.L.toArray y.L.toArray zero23)
  unfold zero23 at HT
  clear hS
  rcases hy with hy | hy
  all_goals
    go_enter Tryz.func24, Tryz.ntmps24
    go_upto_region 1 with fail
    generalize ((w.alloc (.cells x.L.toArray 40)).alloc (.cells y.L.toArray 40)).alloc _ = w3 at HT ⊢
    generalize w.heap.size + 1 + 1 = b6 at HT ⊢
    generalize w.heap.size + 1 = b4 at HT ⊢
    obtain ⟨b3, hb3⟩ : ∃ b3, w.heap.size = b3 := ⟨_, rfl⟩
    have HT9 : Hid (T3 w w3 40 40 40 x.L.toArray y.L.toArray zero23 b3 b4 b6) := hid (by have := HT.out; rw [hb3] at this; exact this)
    clear HT
    have HT := HT9
    clear HT9
    rw [hb3]
    have k4 := HT.out.b.c 0 (.int .i64 y.k) rfl
    rw [hy] at k4
    go_wp2_with (first
      | (with_reducible refine wpList_load_row (by with_unfolding_all rfl) 40 _ (by with_unfolding_all rfl) b3 (by with_unfolding_all rfl) 40 x.L.toArray (0, 0) _ HT.out.a.h Tryz.underlying40 (by with_unfolding_all rfl) (by with_unfolding_all exact info40) ?_)
      | (with_reducible refine wpList_load_row (by with_unfolding_all rfl) 40 _ (by with_unfolding_all rfl) b4 (by with_unfolding_all rfl) 40 y.L.toArray (0, 0) _ HT.out.b.h Tryz.underlying40 (by with_unfolding_all rfl) (by with_unfolding_all exact info40) ?_)
      | (go_at_call 37; refine (HS.out _ HT.out.q).mono ?_; rintro e9 w5 ⟨rfl, q9⟩; have HT5 := hid (HT.out.on q9); clear q9)
      | (with_reducible refine wpList_store_row (by with_unfolding_all rfl) 40 _ _ (by with_unfolding_all rfl) b6 z.L.toArray (by with_unfolding_all rfl) (by with_unfolding_all rfl) 40 _ HT5.out.r.h (by with_unfolding_all exact info40) (by with_unfolding_all rfl) z.one ?_))
    refine bodyPost_ret (v := .tuple #[.agg _, .bool _]) (results_cell2 Tryz.results24 _ _ b6 40 _ (0, 0) _ (by rfl) (HT5.out.r.row _).h Tryz.underlying40 rfl info40) rfl ?_
    exact ⟨rfl, HT5.out.q.row HT5.out.l6 _⟩
set_option maxHeartbeats 4000000 in
theorem behind_rem (x y : Rv) (p : Bool) (w : World) (hy : y.k = 7) (hs : x.sh = y.sh) :
    Calls Tryz.prog 24 #[x.v, y.v, .bool p] w fun e V' => e = .returned (.tuple #[.agg zero23, .bool false]) ∧ Q w V' := by
  have HB := hid (fun V => bereft_same x V)
  rw [hs] at HB
  rw [Rv.v_eq] at HB
  rw [Rv.v_eq, Rv.v_eq]
  have HT := hid (t3_new w 40 40 40 x.L.toArray y.L.toArray zero23)
  unfold zero23 at HT
  clear hs
  go_enter Tryz.func24, Tryz.ntmps24
  go_upto_region 1 with fail
  generalize ((w.alloc (.cells x.L.toArray 40)).alloc (.cells y.L.toArray 40)).alloc _ = w3 at HT ⊢
  generalize w.heap.size + 1 + 1 = b6 at HT ⊢
  generalize w.heap.size + 1 = b4 at HT ⊢
  obtain ⟨b3, hb3⟩ : ∃ b3, w.heap.size = b3 := ⟨_, rfl⟩
  have HT9 : Hid (T3 w w3 40 40 40 x.L.toArray y.L.toArray zero23 b3 b4 b6) := hid (by have := HT.out; rw [hb3] at this; exact this)
  clear HT
  have HT := HT9
  clear HT9
  rw [hb3]
  have k4 := HT.out.b.c 0 (.int .i64 y.k) rfl
  have e4 := HT.out.b.c 1 (.string y.sh) rfl
  rw [hy] at k4
  go_wp2_with (first
    | (with_reducible refine wpList_load_row (by with_unfolding_all rfl) 40 _ (by with_unfolding_all rfl) b3 (by with_unfolding_all rfl) 40 x.L.toArray (0, 0) _ HT.out.a.h Tryz.underlying40 (by with_unfolding_all rfl) (by with_unfolding_all exact info40) ?_)
    | (go_at_call 38; refine (HB.out _).mono ?_; rintro e9 w5 ⟨rfl, q9⟩; have HT5 := hid (HT.out.on q9); clear q9)
    | (with_reducible refine wpList_store_row (by with_unfolding_all rfl) 40 _ _ (by with_unfolding_all rfl) b6 zero23 (by with_unfolding_all rfl) (by with_unfolding_all rfl) 40 _ HT5.out.r.h (by with_unfolding_all exact info40) (by with_unfolding_all rfl) zero_one ?_))
  refine bodyPost_ret (v := .tuple #[.agg _, .bool _]) (results_cell2 Tryz.results24 _ _ b6 40 _ (0, 0) _ (by rfl) (HT5.out.r.row _).h Tryz.underlying40 rfl info40) rfl ?_
  exact ⟨rfl, HT5.out.q.row HT5.out.l6 _⟩
end Go.Proofs.YthebfhdpofhmpaaGreatDoor
namespace Go.Proofs.YthebfhdpofhmpaaGreatDoor
open Go.RowKit
open IV
def aB (x : Rv) (b : Bool) : List Value := x.L ++ [.bool b]
theorem aB_one (x : Rv) (b : Bool) : (aB x b).toArray.all (·.oneCell') = true := by
  cases x
  unfold aB Rv.L
  cases b <;> kernel_rfl
theorem aB_get {x : Rv} {b : Bool} {j : Nat} {u : Value} (h : x.L[j]? = some u) : (aB x b).toArray[j]? = some u := by
  have hj := (List.getElem?_eq_some_iff.1 h).1
  rw [List.getElem?_toArray]
  unfold aB
  rw [List.getElem?_append_left hj]
  exact h
theorem built_b (x : Rv) (b : Bool) : Tryz.prog.built 57 [(0, .agg x.L.toArray), (1, .bool b)] = some (aB x b).toArray := by
  cases x
  unfold aB Rv.L
  cases b <;> kernel_rfl
set_option maxHeartbeats 4000000 in
theorem abehind_any (x y z : Rv) (p b : Bool) (w : World) (hB : ∀ V, Q w V → Calls Tryz.prog 24 #[x.v, y.v, .bool p] V fun e V' => e = .returned (.tuple #[z.v, .bool b]) ∧ Q V V') :
    Calls Tryz.prog 20 #[.agg (aL x).toArray, .agg (aL y).toArray, .bool p] w fun e V' => e = .returned (.tuple #[.agg (aB z b).toArray, .bool b]) ∧ Q w V' := by
  rw [Rv.v_eq, Rv.v_eq, Rv.v_eq] at hB
  have HB := hid hB
  have HT := hid (t3_new w 57 57 57 (aL x).toArray (aL y).toArray zero24)
  unfold zero24 at HT
  clear hB
  go_enter Tryz.func20, Tryz.ntmps20
  go_upto_region 1 with fail
  generalize ((w.alloc _).alloc _).alloc _ = w3 at HT ⊢
  generalize w.heap.size + 1 + 1 = b6 at HT ⊢
  generalize w.heap.size + 1 = b4 at HT ⊢
  obtain ⟨b3, hb3⟩ : ∃ b3, w.heap.size = b3 := ⟨_, rfl⟩
  have HT9 : Hid (T3 w w3 57 57 57 (aL x).toArray (aL y).toArray zero24 b3 b4 b6) := hid (by have := HT.out; rw [hb3] at this; exact this)
  clear HT
  rw [hb3]
  have c3 := HT9.out.a.c 23 (.bool true) rfl
  have c4 := HT9.out.b.c 23 (.bool true) rfl
  go_upto_region 4 with (first
    | (with_reducible refine wpList_load_mid (by with_unfolding_all rfl) 40 _ (by with_unfolding_all rfl) b3 0 (by with_unfolding_all rfl) x.L _ (HT9.out.a.range 0 x.L (fun j u hu => by rw [Nat.zero_add]; exact aL_get hu)) Tryz.underlying40 (by with_unfolding_all rfl) (by with_unfolding_all exact info40) ?_)
    | (with_reducible refine wpList_load_mid (by with_unfolding_all rfl) 40 _ (by with_unfolding_all rfl) b4 0 (by with_unfolding_all rfl) y.L _ (HT9.out.b.range 0 y.L (fun j u hu => by rw [Nat.zero_add]; exact aL_get hu)) Tryz.underlying40 (by with_unfolding_all rfl) (by with_unfolding_all exact info40) ?_)
    | (go_at_call 24; refine (HB.out _ HT9.out.q).mono ?_; rintro e w4 ⟨rfl, q1⟩; have HT1 := hid (HT9.out.on q1); clear q1)
    | (with_reducible refine wpl_lay w4 _ _ (by with_unfolding_all rfl) (by with_unfolding_all rfl) z (by with_unfolding_all rfl) (by with_unfolding_all rfl) (by with_unfolding_all rfl) ?_))
  have HC := hid (bk_new w4 40 z.L.toArray)
  have HT2 := hid (HT1.out.on ((Q.refl w4).alloc (.cells z.L.toArray 40)))
  clear HT1 HT9 c3 c4 hb3
  generalize w4.alloc (.cells z.L.toArray 40) = w5 at HC HT2 ⊢
  generalize w4.heap.size = b8 at HC ⊢
  go_wp2_with (first
    | (with_reducible refine wpList_load_row (by with_unfolding_all rfl) 40 _ (by with_unfolding_all rfl) b8 (by with_unfolding_all rfl) 40 _ (0, 0) _ HC.out.h Tryz.underlying40 (by with_unfolding_all rfl) (by with_unfolding_all exact info40) ?_)
    | (with_reducible refine wpl_buildt 57 _ (by with_unfolding_all rfl) (by with_unfolding_all rfl) (aB z b).toArray (by with_unfolding_all exact built_b z b) ?_)
    | (with_reducible refine wpList_store_row (by with_unfolding_all rfl) 57 _ _ (by with_unfolding_all rfl) b6 (aB z b).toArray (by with_unfolding_all rfl) (by with_unfolding_all rfl) 57 _ HT2.out.r.h (by with_unfolding_all exact info57) (by with_unfolding_all rfl) (aB_one z b) ?_))
  refine bodyPost_ret (v := .tuple #[.agg _, .bool _]) (results_cell2 Tryz.results20 _ _ b6 57 _ (0, 0) _ (by rfl) (HT2.out.r.row _).h Tryz.underlying57 rfl info57) rfl ?_
  exact ⟨rfl, HT2.out.q.row HT2.out.l6 _⟩
theorem run_al {ev : Operand → Value} {o : Oper} {w : World} (t : TypeId) (z : Array Value) (ho : o.op = .alloc t) (hz : (Tryz.prog.info? t).map (·.zero) = some (some (.agg z))) :
    (execOp ev o).run Tryz.prog w = .ok (.value (.pointer (some ⟨w.heap.size, 0, none⟩))) (w.alloc (.cells z t)) := by
  cases hi : Tryz.prog.info? t with
  | none => rw [hi] at hz; cases hz
  | some i =>
    rw [hi] at hz
    simp only [Option.map_some, Option.some.injEq] at hz
    unfold execOp
    simp only [ho]
    simp [go_sem, zeroValue, typeInfo, hi, hz]
theorem SI.o {w : World} {P A B : World → Prop} {s : Nat} {ix : Nat → Nat} {ds : List Nat} {val : Nat → Value} {L : Nat → Bool} {v : Nat → Value} {W W' : World} (J : SI w P A B s ix ds val L v W) (q : Q W W') (i t : Nat) (hi : s ≠ i) (hj : ∀ t' ∈ ds, ix t' ≠ i) (ht : t ∉ ds) {u : Value} :
    SI w P A B s ix ds val (ul L i) (up v t u) W' := by
  obtain ⟨h1, h2, h3⟩ := J.st W W' q
  refine ⟨J.st, J.ns, J.q.trans q, h1 J.p, fun h => h2 (J.a ?_), fun h => h3 (J.b ?_), fun t' ht' h => ?_⟩
  · rwa [ul_ne9 hi] at h
  · rwa [ul_ne9 hi] at h
  · have hne : t' ≠ t := fun e => ht (e ▸ ht')
    rw [ul_ne9 (hj t' ht')] at h
    rw [up_ne9 hne]
    exact J.mv t' ht' h
structure El (w : World) (ty : TypeId) (C0 C1 : Array Value) (a s t : Nat) (L : Nat → Bool) (v : Nat → Value) (W : World) : Prop where
  h : L a = true → ∃ b, v t = .pointer (some ⟨b, 0, none⟩) ∧ w.heap.size ≤ b ∧ (L s = false → Bk W ty b C0) ∧ (L s = true → Bk W ty b C1)
theorem El.m {w : World} {ty : TypeId} {C0 C1 : Array Value} {a s t : Nat} {L : Nat → Bool} {v : Nat → Value} {W W' : World} (h : El w ty C0 C1 a s t L v W) (q : Q W W') (i t' : Nat) (ha : a ≠ i) (hs : s ≠ i) (ht : t ≠ t') {u : Value} : El w ty C0 C1 a s t (ul L i) (up v t' u) W' := ⟨fun e => by
  rw [ul_ne9 ha] at e
  obtain ⟨b, h1, h2, h3, h4⟩ := h.h e
  refine ⟨b, by rw [up_ne9 ht]; exact h1, h2, fun e2 => ?_, fun e2 => ?_⟩
  · rw [ul_ne9 hs] at e2
    exact (h3 e2).on q
  · rw [ul_ne9 hs] at e2
    exact (h4 e2).on q⟩
theorem El.al {w : World} {ty : TypeId} {C0 C1 : Array Value} {a s t : Nat} {L : Nat → Bool} {v : Nat → Value} {W : World} (q : Q w W) (hs : s ≠ a) (hL : L s = false) : El w ty C0 C1 a s t (ul L a) (up v t (.pointer (some ⟨W.heap.size, 0, none⟩))) (W.alloc (.cells C0 ty)) := ⟨fun _ =>
  ⟨W.heap.size, up_same9, q.size, fun _ => bk_new W ty C0, fun e => by rw [ul_ne9 hs, hL] at e; cases e⟩⟩
theorem El.fill {w : World} {ty : TypeId} {C0 C1 : Array Value} {a s t : Nat} {L : Nat → Bool} {v : Nat → Value} {W : World} {b : Nat} (h1 : v t = .pointer (some ⟨b, 0, none⟩)) (h2 : w.heap.size ≤ b) (h3 : Bk W ty b C0) : El w ty C0 C1 a s t (ul L s) v (W.setRow b C1) := ⟨fun _ =>
  ⟨b, h1, h2, fun e => absurd ((show ul L s s = true from if_pos rfl).symm.trans e) (by decide), fun _ => h3.row C1⟩⟩
def vOp (x y z : Rv) (p b : Bool) (t : Nat) : Value := if t = 11 then .agg x.L.toArray else if t = 12 then .agg (aL x).toArray else if t = 13 then .agg y.L.toArray else if t = 14 then .agg (aL y).toArray else if t = 15 then .bool p else if t = 16 then .tuple #[.agg (aB z b).toArray, .bool b] else if t = 10 then .tuple #[.agg (aB z b).toArray, .bool b] else if t = 17 then .agg (aB z b).toArray else .bool b
def iOp (t : Nat) : Nat := if t = 10 then 6 else if t = 17 then 7 else if t = 18 then 8 else if t = 9 then 11 else t - 11
set_option maxHeartbeats 16000000 in
theorem op_any (x y z : Rv) (p b : Bool) (w : World)
    (hx : ∀ V, Q w V → Calls Tryz.prog 22 #[x.v] V fun e V' => e = .returned (.bool true) ∧ Q V V')
    (hy : ∀ V, Q w V → Calls Tryz.prog 22 #[y.v] V fun e V' => e = .returned (.bool true) ∧ Q V V')
    (hB : ∀ V, Q w V → Calls Tryz.prog 24 #[x.v, y.v, .bool p] V fun e V' => e = .returned (.tuple #[z.v, .bool b]) ∧ Q V V')
    (hC : ∀ V, Q w V → Calls Tryz.prog 21 #[z.v] V fun e V' => e = .returned z.v ∧ Q V V') :
    Calls Tryz.prog 11 #[x.v, y.v, .bool p] w fun e V' => e = .returned (.tuple #[z.v, .bool b]) ∧ Q w V' := by
  have HA := hid (fun V (q : Q w V) => ask_any x V (fun V' q' => hx V' (q.trans q')))
  have HA2 := hid (fun V (q : Q w V) => ask_any y V (fun V' q' => hy V' (q.trans q')))
  have HB := hid (fun V (q : Q w V) => abehind_any x y z p b V (fun V' q' => hB V' (q.trans q')))
  have HC := hid hC
  rw [Rv.v_eq] at HA HA2 HC ⊢
  rw [Rv.v_eq, Rv.v_eq]
  clear hx hy hB hC
  have HT := hid (t3_new w 40 40 40 x.L.toArray y.L.toArray zero23)
  unfold zero23 at HT
  go_enter Tryz.func11, Tryz.ntmps11
  go_upto_region 1 with fail
  generalize ((w.alloc _).alloc _).alloc _ = w3 at HT ⊢
  generalize w.heap.size + 1 + 1 = b6 at HT ⊢
  generalize w.heap.size + 1 = b4 at HT ⊢
  obtain ⟨b3, hb3⟩ : ∃ b3, w.heap.size = b3 := ⟨_, rfl⟩
  have HT9 : Hid (T3 w w3 40 40 40 x.L.toArray y.L.toArray zero23 b3 b4 b6) := hid (by have := HT.out; rw [hb3] at this; exact this)
  clear HT
  have HT := HT9
  clear HT9
  rw [hb3]
  refine wp_region_invw (by kernel_rfl) [11, 12, 13, 14, 15, 16, 10, 17, 18, 8, 9] (fun L v W => SI w3 (fun _ => True) (fun _ => True) (fun _ => True) 99 iOp [11, 12, 13, 14, 15, 16, 10, 17, 18, 9] (vOp x y z p b) L v W ∧ El w3 57 zero24 (aB z b).toArray 9 10 8 L v W ∧ Ch [(10, 9)] L) (by kernel_rfl) (steps_list ⟨?o0, ?o1, ?o2, ?o3, ?o4, ?o5, ?o6, ?o7, ?o8, ?o9, ?o10, ?o11, trivial⟩)
    ⟨⟨fun W W' q => ⟨id, id, id⟩, by decide, (Q.refl _).drew, trivial, fun _ => trivial, fun _ => trivial, fun _ _ h => absurd h Bool.false_ne_true⟩, ⟨fun h => absurd h Bool.false_ne_true⟩, ⟨fun _ _ h => absurd h Bool.false_ne_true⟩⟩ ?rest
  case o0 =>
    intro L v W J hL hd
    exact opw_lrow 40 _ b3 40 x.L.toArray _ rfl rfl rfl rfl (by decide) ((frm_out (by decide)).trans rfl) (HT.out.a.on J.1.q) rfl Tryz.underlying40 info40 ⟨J.1.m (Q.refl _) 0 11 (by decide) (by decide), J.2.1.m (Q.refl _) 0 11 (by decide) (by decide) (by decide), J.2.2.m 0 [] (by decide) (fun j hj => hd j (by revert hj; revert j; decide))⟩
  case o1 =>
    intro L v W J hL hd
    have h11 : v 11 = .agg x.L.toArray := J.1.mv 11 (by decide) (hd 0 (by decide))
    refine opw_call rfl rfl rfl (by decide) (by simp only [frm, List.foldl_cons, List.foldl_nil, List.setIfInBounds_toArray, List.set_cons_zero, List.set_cons_succ]; (go_simp) <;> (first | exact ⟨⟨rfl, rfl⟩, rfl⟩ | exact ⟨rfl, rfl⟩ | with_reducible rfl)) ?_
    refine (HA.out W (HT.out.q.trans J.1.q)).mono ?_
    rintro e W1 ⟨rfl, q1⟩
    exact ⟨_, rfl, ⟨J.1.m (q1) 1 12 (by decide) (by decide), J.2.1.m (q1) 1 12 (by decide) (by decide) (by decide), J.2.2.m 1 [] (by decide) (fun j hj => hd j (by revert hj; revert j; decide))⟩⟩
  case o2 =>
    intro L v W J hL hd
    exact opw_lrow 40 _ b4 40 y.L.toArray _ rfl rfl rfl rfl (by decide) ((frm_out (by decide)).trans rfl) (HT.out.b.on J.1.q) rfl Tryz.underlying40 info40 ⟨J.1.m (Q.refl _) 2 13 (by decide) (by decide), J.2.1.m (Q.refl _) 2 13 (by decide) (by decide) (by decide), J.2.2.m 2 [] (by decide) (fun j hj => hd j (by revert hj; revert j; decide))⟩
  case o3 =>
    intro L v W J hL hd
    have h13 : v 13 = .agg y.L.toArray := J.1.mv 13 (by decide) (hd 2 (by decide))
    refine opw_call rfl rfl rfl (by decide) (by simp only [frm, List.foldl_cons, List.foldl_nil, List.setIfInBounds_toArray, List.set_cons_zero, List.set_cons_succ]; (go_simp) <;> (first | exact ⟨⟨rfl, rfl⟩, rfl⟩ | exact ⟨rfl, rfl⟩ | with_reducible rfl)) ?_
    refine (HA2.out W (HT.out.q.trans J.1.q)).mono ?_
    rintro e W1 ⟨rfl, q1⟩
    exact ⟨_, rfl, ⟨J.1.m (q1) 3 14 (by decide) (by decide), J.2.1.m (q1) 3 14 (by decide) (by decide) (by decide), J.2.2.m 3 [] (by decide) (fun j hj => hd j (by revert hj; revert j; decide))⟩⟩
  case o4 =>
    intro L v W J hL hd
    refine opw_val rfl rfl rfl (by decide) (by simp only [frm, List.foldl_cons, List.foldl_nil, List.setIfInBounds_toArray, List.set_cons_zero, List.set_cons_succ]; (go_simp) <;> (first | exact ⟨⟨rfl, rfl⟩, rfl⟩ | exact ⟨rfl, rfl⟩ | with_reducible rfl)) ?_
    exact ⟨J.1.m (Q.refl _) 4 15 (by decide) (by decide), J.2.1.m (Q.refl _) 4 15 (by decide) (by decide) (by decide), J.2.2.m 4 [] (by decide) (fun j hj => hd j (by revert hj; revert j; decide))⟩
  case o5 =>
    intro L v W J hL hd
    have h12 : v 12 = .agg (aL x).toArray := J.1.mv 12 (by decide) (hd 1 (by decide))
    have h14 : v 14 = .agg (aL y).toArray := J.1.mv 14 (by decide) (hd 3 (by decide))
    have h15 : v 15 = .bool p := J.1.mv 15 (by decide) (hd 4 (by decide))
    refine opw_call rfl rfl rfl (by decide) (by simp only [frm, List.foldl_cons, List.foldl_nil, List.setIfInBounds_toArray, List.set_cons_zero, List.set_cons_succ]; (go_simp) <;> (first | exact ⟨⟨rfl, rfl⟩, rfl⟩ | exact ⟨rfl, rfl⟩ | with_reducible rfl)) ?_
    refine (HB.out W (HT.out.q.trans J.1.q)).mono ?_
    rintro e W1 ⟨rfl, q1⟩
    exact ⟨_, rfl, ⟨J.1.m (q1) 5 16 (by decide) (by decide), J.2.1.m (q1) 5 16 (by decide) (by decide) (by decide), J.2.2.m 5 [] (by decide) (fun j hj => hd j (by revert hj; revert j; decide))⟩⟩
  case o6 =>
    intro L v W J hL hd
    have h16 : v 16 = .tuple #[.agg (aB z b).toArray, .bool b] := J.1.mv 16 (by decide) (hd 5 (by decide))
    refine opw_val rfl rfl rfl (by decide) (by simp only [frm, List.foldl_cons, List.foldl_nil, List.setIfInBounds_toArray, List.set_cons_zero, List.set_cons_succ]; (go_simp) <;> (first | exact ⟨⟨rfl, rfl⟩, rfl⟩ | exact ⟨rfl, rfl⟩ | with_reducible rfl)) ?_
    exact ⟨J.1.m (Q.refl _) 6 10 (by decide) (by decide), J.2.1.m (Q.refl _) 6 10 (by decide) (by decide) (by decide), J.2.2.m 6 [] (by decide) (fun j hj => hd j (by revert hj; revert j; decide))⟩
  case o7 =>
    intro L v W J hL hd
    have h10 : v 10 = .tuple #[.agg (aB z b).toArray, .bool b] := J.1.mv 10 (by decide) (hd 6 (by decide))
    refine opw_val rfl rfl rfl (by decide) (by simp only [frm, List.foldl_cons, List.foldl_nil, List.setIfInBounds_toArray, List.set_cons_zero, List.set_cons_succ]; (go_simp) <;> (first | exact ⟨⟨rfl, rfl⟩, rfl⟩ | exact ⟨rfl, rfl⟩ | with_reducible rfl)) ?_
    exact ⟨J.1.m (Q.refl _) 7 17 (by decide) (by decide), J.2.1.m (Q.refl _) 7 17 (by decide) (by decide) (by decide), J.2.2.m 7 [] (by decide) (fun j hj => hd j (by revert hj; revert j; decide))⟩
  case o8 =>
    intro L v W J hL hd
    have h10 : v 10 = .tuple #[.agg (aB z b).toArray, .bool b] := J.1.mv 10 (by decide) (hd 6 (by decide))
    refine opw_val rfl rfl rfl (by decide) (by simp only [frm, List.foldl_cons, List.foldl_nil, List.setIfInBounds_toArray, List.set_cons_zero, List.set_cons_succ]; (go_simp) <;> (first | exact ⟨⟨rfl, rfl⟩, rfl⟩ | exact ⟨rfl, rfl⟩ | with_reducible rfl)) ?_
    exact ⟨J.1.m (Q.refl _) 8 18 (by decide) (by decide), J.2.1.m (Q.refl _) 8 18 (by decide) (by decide) (by decide), J.2.2.m 8 [] (by decide) (fun j hj => hd j (by revert hj; revert j; decide))⟩
  case o9 =>
    intro L v W J hL hd
    refine opw_val rfl rfl rfl (by decide) (run_al 57 zero24 rfl info57z) ?_
    exact ⟨J.1.o ((Q.refl _).alloc _) 9 8 (by decide) (by decide) (by decide), El.al J.1.q (by decide) (J.2.2.no (i := 10) (by decide) hL), J.2.2.m 9 [] (by decide) (fun j hj => hd j (by revert hj; revert j; decide))⟩
  case o10 =>
    intro L v W J hL hd
    have h17 : v 17 = .agg (aB z b).toArray := J.1.mv 17 (by decide) (hd 7 (by decide))
    obtain ⟨b8, h8, l8, B8, _⟩ := J.2.1.h (hd 9 (by decide))
    exact opw_srow 57 _ _ b8 57 zero24 (aB z b).toArray rfl rfl rfl rfl ((frm_eval (by decide) (by rfl)).trans h8) ((frm_eval (by decide) (by rfl)).trans h17) (B8 hL) info57 rfl (aB_one z b) ⟨J.1.same 10 (by decide) (by decide) (J.1.q.row l8 _) trivial id id, El.fill h8 l8 (B8 hL), J.2.2.m 10 [9] (by decide) (fun j hj => hd j (by revert hj; revert j; decide))⟩
  case o11 =>
    intro L v W J hL hd
    have h18 : v 18 = .bool b := J.1.mv 18 (by decide) (hd 8 (by decide))
    refine opw_val rfl rfl rfl (by decide) (by simp only [frm, List.foldl_cons, List.foldl_nil, List.setIfInBounds_toArray, List.set_cons_zero, List.set_cons_succ]; (go_simp) <;> (first | exact ⟨⟨rfl, rfl⟩, rfl⟩ | exact ⟨rfl, rfl⟩ | with_reducible rfl)) ?_
    exact ⟨J.1.m (Q.refl _) 11 9 (by decide) (by decide), J.2.1.m (Q.refl _) 11 9 (by decide) (by decide) (by decide), J.2.2.m 11 [] (by decide) (fun j hj => hd j (by revert hj; revert j; decide))⟩
  intro L v w4 hall J
  obtain ⟨b8, h8, l8, _, B8⟩ := J.2.1.h (hall 9 (by decide))
  have B8 := hid (B8 (hall 10 (by decide)))
  have HT4 := hid (HT.out.on J.1.q)
  have h9 : v 9 = .bool b := J.1.mv 9 (by decide) (hall 11 (by decide))
  simp only [frm, List.foldl_cons, List.foldl_nil, List.setIfInBounds_toArray, List.set_cons_zero, List.set_cons_succ]
  simp only [h8, h9]
  clear hall J HT HA HA2 HB h8 h9
  go_wp2_with (first
    | (with_reducible refine wpList_load_mid (by with_unfolding_all rfl) 40 _ (by with_unfolding_all rfl) b8 0 (by with_unfolding_all rfl) z.L _ (B8.out.range 0 z.L (fun j u hu => by rw [Nat.zero_add]; exact aB_get hu)) Tryz.underlying40 (by with_unfolding_all rfl) (by with_unfolding_all exact info40) ?_)
    | (go_at_call 21; refine (HC.out _ HT4.out.q).mono ?_; rintro e w5 ⟨rfl, q1⟩; have HT5 := hid (HT4.out.on q1); clear q1)
    | (with_reducible refine wpList_store_row (by with_unfolding_all rfl) 40 _ _ (by with_unfolding_all rfl) b6 z.L.toArray (by with_unfolding_all rfl) (by with_unfolding_all rfl) 40 _ HT5.out.r.h (by with_unfolding_all exact info40) (by with_unfolding_all rfl) z.one ?_))
  refine bodyPost_ret (v := .tuple #[.agg _, .bool _]) (results_cell2 Tryz.results11 _ _ b6 40 _ (0, 0) _ (by rfl) (HT5.out.r.row _).h Tryz.underlying40 rfl info40) rfl ?_
  exact ⟨rfl, HT5.out.q.row HT5.out.l6 _⟩
def Rv.wt (x q : Rv) : Rv := { x with tk := q.tk, tm := q.tm, tt := q.tt, tb := q.tb, te := q.te, a1 := q.a1, l1 := q.l1, c1 := q.c1, a2 := q.a2, l2 := q.l2, c2 := q.c2 }
def Tr (w0 W : World) (X : Ex) (q : Rv) : Prop := ∃ lo hi, w0.heap.size ≤ lo ∧ hi ≤ W.heap.size ∧ Ow W X (.agg (tr7 q).toArray) lo hi
theorem Tr.blk {w0 W W' : World} {X : Ex} {q : Rv} (h : Tr w0 W X q) (hs : W.heap.size ≤ W'.heap.size) (hb : ∀ i, w0.heap.size ≤ i → i < W.heap.size → W'.heap[i]? = W.heap[i]?) : Tr w0 W' X q := by
  obtain ⟨lo, hi, h1, h2, h3⟩ := h
  exact ⟨lo, hi, h1, Nat.le_trans h2 hs, Ow.on X _ lo hi (fun i hi1 hi2 => Bs.of (hb i (by omega) (by omega))) h3⟩
theorem Tr.on {w0 W W' : World} {X : Ex} {q : Rv} (h : Tr w0 W X q) (x : Q W W') : Tr w0 W' X q := h.blk x.size (fun i _ hi => Below.block x i hi)
theorem Tr.row {w0 W : World} {X : Ex} {q : Rv} (h : Tr w0 W X q) {b : Nat} (hb : b < w0.heap.size) (cs : Array Value) : Tr w0 (W.setRow b cs) X q := h.blk (by simp) (fun i hi _ => setRow_other _ _ _ _ (by omega))
theorem Tr.set {w0 W : World} {X : Ex} {q : Rv} (h : Tr w0 W X q) {b : Nat} (hb : b < w0.heap.size) (j : Nat) (v : Value) : Tr w0 (W.setCell ⟨b, j, none⟩ v) X q := h.blk (by simp [World.setCell]) (fun i hi _ => heap_setCell_other _ _ _ _ (by simp; omega))
theorem Tr.sets {w0 : World} {X : Ex} {q : Rv} {b : Nat} (hb : b < w0.heap.size) : ∀ (l : List Value) (o : Nat) (W : World), Tr w0 W X q → Tr w0 (W.setCells b o l) X q
  | [], _, _, h => h
  | v :: l, o, W, h => Tr.sets hb l (o + 1) _ (h.set hb o v)
theorem Tr.mono {w0 w1 W : World} {X : Ex} {q : Rv} (h : Tr w1 W X q) (x : w0.heap.size ≤ w1.heap.size) : Tr w0 W X q := by
  obtain ⟨lo, hi, h1, h2, h3⟩ := h
  exact ⟨lo, hi, Nat.le_trans x h1, h2, h3⟩
theorem Tr.rd {w0 W : World} {X : Ex} {q : Rv} (h : Tr w0 W X q) : Rd W X (.agg (tr7 q).toArray) := by
  obtain ⟨lo, hi, h1, h2, h3⟩ := h
  exact Rdg.rd X _ (Ow.rdg (g := fun _ => True) X _ lo hi (fun _ _ _ => trivial) h3)
def setA (cs : Array Value) : Nat → List Value → Array Value
  | _, [] => cs
  | o, v :: r => setA (cs.setIfInBounds o v) (o + 1) r
theorem Bk.puts {t : TypeId} {b : Nat} : ∀ (l : List Value) (o : Nat) (W : World) (cs : Array Value), Bk W t b cs → Bk (W.setCells b o l) t b (setA cs o l)
  | [], _, _, _, h => h
  | v :: l, o, W, cs, h => Bk.puts l (o + 1) _ _ (h.put o v)
theorem wt_setA (x q : Rv) : setA x.L.toArray 10 (tr7 q) = (x.wt q).L.toArray := by
  cases x
  cases q
  kernel_rfl
set_option maxHeartbeats 16000000 in
theorem shifted_form (x y : Rv) (p b : Bool) (X' : Ex) (w : World) (hk : x.k = 1) (hf : x.f = true) (hy : y.k = 2) (hs : x.sh = y.sh)
    (hl : ∀ V, Q w V → Calls Tryz.prog 55 #[.agg (tr7 x).toArray, .string x.sh, .string y.sh, .bool true, .agg (ln3 y).toArray] V fun e V' => ∃ q : Rv, e = .returned (.agg (tr7 q).toArray) ∧ Q V V' ∧ Tr V V' X' q)
    (hm : ∀ q V, Q w V → Rd V X' (.agg (tr7 q).toArray) → Calls Tryz.prog 22 #[((x.wt q).mv true (L.ix y.lk y.la y.lt x.row)).v] V fun e V' => e = .returned (.bool b) ∧ Q V V') :
    Calls Tryz.prog 37 #[x.v, y.v, .bool p] w fun e V' => ∃ q : Rv, e = .returned (.tuple #[.agg (if b then ((x.wt q).mv true (L.ix y.lk y.la y.lt x.row)).L.toArray else zero23), .bool b]) ∧ Q w V' ∧ Tr w V' X' q := by
  rw [Rv.v_eq, Rv.v_eq]
  have HL := hid hl
  have HM := hid hm
  have HX := hid (fun V => l_ix y x.row V)
  have HT := hid (t3_new w 40 40 40 x.L.toArray y.L.toArray zero23)
  unfold zero23 at HT
  have es : (x.sh.toList == y.sh.toList) = true := by rw [hs]; simp
  have k1 : (x.k == 1) = true := by rw [hk]; rfl
  clear hm hl hs
  generalize hi2 : L.ix y.lk y.la y.lt x.row = i2 at HM HX ⊢
  generalize hi : x.row = i at HX
  have HOff : Hid (∀ q : Rv, (x.wt q).L.toArray[2]? = some (.int .i64 i) ∧ (x.wt q).L.toArray.setIfInBounds 2 (.int .i64 i2) = ((x.wt q).mv true i2).L.toArray) := hid (fun q => by rw [← hi]; exact ⟨rfl, rfl⟩)
  clear hi hi2
  have ky2 : (y.k == 2) = decide (y.k = 2) := rfl
  have ky3 : (y.k == 3) = decide (y.k = 3) := rfl
  rw [hy] at ky2 ky3
  simp only [Int.reduceEq, decide_true, decide_false] at ky2 ky3
  go_enter Tryz.func37, Tryz.ntmps37
  go_upto_region 1 with fail
  generalize ((w.alloc (.cells x.L.toArray 40)).alloc (.cells y.L.toArray 40)).alloc _ = w3 at HT ⊢
  generalize w.heap.size + 1 + 1 = b6 at HT ⊢
  generalize w.heap.size + 1 = b4 at HT ⊢
  obtain ⟨b3, hb3⟩ : ∃ b3, w.heap.size = b3 := ⟨_, rfl⟩
  have HT9 : Hid (T3 w w3 40 40 40 x.L.toArray y.L.toArray zero23 b3 b4 b6) := hid (by have := HT.out; rw [hb3] at this; exact this)
  clear HT
  have HT := HT9
  clear HT9
  rw [hb3]
  have k4 := HT.out.b.c 0 (.int .i64 y.k) rfl
  have k3 := HT.out.a.c 0 (.int .i64 x.k) rfl
  have e3 := HT.out.a.c 1 (.string x.sh) rfl
  have e4 := HT.out.b.c 1 (.string y.sh) rfl
  have f3 := HT.out.a.c 4 (.bool x.f) rfl
  rw [hf] at f3
  rw [hy] at k4
  go_upto_region 3 with fail
  go_upto_region 4 with (first
    | (with_reducible refine wpList_load_mid (by with_unfolding_all rfl) 35 _ (by with_unfolding_all rfl) b3 10 (by with_unfolding_all rfl) (tr7 x) _ (HT.out.a.range 10 (tr7 x) (x_tr7 x)) Tryz.underlying35 (by with_unfolding_all rfl) (by with_unfolding_all exact info35e) ?_)
    | (with_reducible refine wpList_load_mid (by with_unfolding_all rfl) 28 _ (by with_unfolding_all rfl) b4 17 (by with_unfolding_all rfl) (ln3 y) _ (HT.out.b.range 17 (ln3 y) (x_ln3 y)) Tryz.underlying28 (by with_unfolding_all rfl) (by with_unfolding_all exact info28e) ?_)
    | (go_at_call 55; refine (HL.out _ HT.out.q).mono ?_; rintro e9 w4 ⟨q, rfl, q9, t9⟩; have HT4 := hid (HT.out.on q9); have HTr := hid t9; clear q9 t9)
    | (with_reducible refine wpList_store_mid (by with_unfolding_all rfl) 35 _ _ (by with_unfolding_all rfl) b3 10 (tr7 q).toArray (by with_unfolding_all rfl) (by with_unfolding_all rfl) (by with_unfolding_all exact HT4.out.a.there 10 7 (by show 17 ≤ 23; decide)) (by with_unfolding_all exact info35e) (by with_unfolding_all rfl) ?_))
  have hl3 : b3 < w3.heap.size := HT.out.a.l
  have HT5 : Hid (T3 w (w4.setCells b3 10 (tr7 q)) 40 40 40 (x.wt q).L.toArray y.L.toArray zero23 b3 b4 b6) := hid ⟨(by have h9 := Bk.puts (tr7 q) 10 w4 _ HT4.out.a; rw [wt_setA] at h9; exact h9), Bk.othL (W := w4) (Ne.symm HT4.out.n3) (tr7 q) 10 w4 HT4.out.b, Bk.othL (W := w4) (Ne.symm HT4.out.n1) (tr7 q) 10 w4 HT4.out.r, HT4.out.n1, HT4.out.n2, HT4.out.n3, HT4.out.l, HT4.out.lb, HT4.out.l6, Q.cells HT4.out.l _ _ HT4.out.q⟩
  have HTr5 := hid (Tr.sets hl3 (tr7 q) 10 w4 HTr.out)
  have HB6 : Hid (b6 < w3.heap.size) := hid HT.out.r.l
  have HB3 := hid hl3
  have HW3 : Hid (w.heap.size ≤ w3.heap.size) := hid HT.out.q.size
  clear HT4 HTr k4 k3 e3 e4 f3 hl3 HL HT
  generalize w4.setCells b3 10 _ = w5 at HT5 HTr5 ⊢
  have k4 := HT5.out.b.c 0 (.int .i64 y.k) rfl
  have k3 := HT5.out.a.c 0 (.int .i64 x.k) rfl
  have e3 := HT5.out.a.c 1 (.string x.sh) rfl
  have e4 := HT5.out.b.c 1 (.string y.sh) rfl
  rw [hy] at k4
  have HOff := hid (HOff.out q)
  have HMq := hid (HM.out q)
  clear HM
  go_upto_region 10 with fail
  clear k4 k3 e3 e4
  refine wp_region_invw (by kernel_rfl) [41, 42, 43, 44, 45, 46, 47, 48] (fun L v W => (SI w (fun W => Bk W 40 b4 y.L.toArray ∧ Bk W 40 b6 zero23 ∧ Tr w3 W X' q) (fun W => Bk W 40 b3 (x.wt q).L.toArray) (fun W => Bk W 40 b3 ((x.wt q).mv true i2).L.toArray) 8 (fun t => t - 41) [41, 42, 43, 44, 45, 46, 47, 48] (vShf y b3 b4 2 i i2) L v W) ∧ Ch [(8, 6), (6, 5)] L) (by kernel_rfl) (steps_list ⟨?o0, ?o1, ?o2, ?o3, ?o4, ?o5, ?o6, ?o7, ?o8, trivial⟩)
    ⟨⟨fun W W' q => ⟨fun h => ⟨h.1.on q, h.2.1.on q, h.2.2.on q⟩, fun h => h.on q, fun h => h.on q⟩, by decide, HT5.out.q.drew, ⟨HT5.out.b.on (Q.refl _).drew, HT5.out.r.on (Q.refl _).drew, HTr5.out.on (Q.refl _).drew⟩, fun _ => HT5.out.a.on (Q.refl _).drew, fun h => absurd h Bool.false_ne_true, fun _ _ h => absurd h Bool.false_ne_true⟩, ⟨fun _ _ h => absurd h Bool.false_ne_true⟩⟩ ?rest
  case o0 =>
    intro L v W J hL hd
    refine opw_val rfl rfl rfl (by decide) (by simp only [frm, List.foldl_cons, List.foldl_nil, List.setIfInBounds_toArray, List.set_cons_zero, List.set_cons_succ]; (go_simp) <;> (first | exact ⟨⟨rfl, rfl⟩, rfl⟩ | exact ⟨rfl, rfl⟩ | with_reducible rfl)) ?_
    exact ⟨J.1.m (Q.refl _) 0 41 (by decide) (by decide), J.2.m 0 [] (by decide) (fun j hj => hd j (by revert hj; revert j; decide))⟩
  case o1 =>
    intro L v W J hL hd
    refine opw_val rfl rfl rfl (by decide) (by simp only [frm, List.foldl_cons, List.foldl_nil, List.setIfInBounds_toArray, List.set_cons_zero, List.set_cons_succ]; (go_simp) <;> (first | exact ⟨⟨rfl, rfl⟩, rfl⟩ | exact ⟨rfl, rfl⟩ | with_reducible rfl)) ?_
    exact ⟨J.1.m (Q.refl _) 1 42 (by decide) (by decide), J.2.m 1 [] (by decide) (fun j hj => hd j (by revert hj; revert j; decide))⟩
  case o2 =>
    intro L v W J hL hd
    have h42 : v 42 = .pointer (some ⟨b4, 17, none⟩) := J.1.mv 42 (by decide) (hd 1 (by decide))
    exact opw_lmid 28 (.tmp 42) b4 17 (ln3 y) _ rfl rfl rfl rfl (by decide) ((frm_eval (by decide) (by rfl)).trans h42) (J.1.p.1.range 17 (ln3 y) (x_ln3 y)) Tryz.underlying28 rfl info28e ⟨J.1.m (Q.refl _) 2 43 (by decide) (by decide), J.2.m 2 [] (by decide) (fun j hj => hd j (by revert hj; revert j; decide))⟩
  case o3 =>
    intro L v W J hL hd
    refine opw_val rfl rfl rfl (by decide) (by simp only [frm, List.foldl_cons, List.foldl_nil, List.setIfInBounds_toArray, List.set_cons_zero, List.set_cons_succ]; (go_simp) <;> (first | exact ⟨⟨rfl, rfl⟩, rfl⟩ | exact ⟨rfl, rfl⟩ | with_reducible rfl)) ?_
    exact ⟨J.1.m (Q.refl _) 3 44 (by decide) (by decide), J.2.m 3 [] (by decide) (fun j hj => hd j (by revert hj; revert j; decide))⟩
  case o4 =>
    intro L v W J hL hd
    have h44 : v 44 = .pointer (some ⟨b3, _, none⟩) := J.1.mv 44 (by decide) (hd 3 (by decide))
    refine opw_val rfl rfl rfl (by decide) (by simp only [frm, List.foldl_cons, List.foldl_nil, List.setIfInBounds_toArray, List.set_cons_zero, List.set_cons_succ]; (go_simp) <;> (first | exact ⟨⟨rfl, rfl⟩, rfl⟩ | exact ⟨rfl, rfl⟩ | with_reducible rfl)) ?_
    exact ⟨J.1.m (Q.refl _) 4 45 (by decide) (by decide), J.2.m 4 [] (by decide) (fun j hj => hd j (by revert hj; revert j; decide))⟩
  case o5 =>
    intro L v W J hL hd
    have h45 : v 45 = .pointer (some ⟨b3, _, none⟩) := J.1.mv 45 (by decide) (hd 4 (by decide))
    have c0 := (J.1.a (J.2.no (by decide) (J.2.no (i := 6) (by decide) hL))).c _ (.int .i64 i) HOff.out.1
    refine opw_val rfl rfl rfl (by decide) (by simp only [frm, List.foldl_cons, List.foldl_nil, List.setIfInBounds_toArray, List.set_cons_zero, List.set_cons_succ]; (go_simp) <;> (first | exact ⟨⟨rfl, rfl⟩, rfl⟩ | exact ⟨rfl, rfl⟩ | with_reducible rfl)) ?_
    exact ⟨J.1.m (Q.refl _) 5 46 (by decide) (by decide), J.2.m 5 [] (by decide) (fun j hj => hd j (by revert hj; revert j; decide))⟩
  case o6 =>
    intro L v W J hL hd
    have h43 : v 43 = .agg (ln3 y).toArray := J.1.mv 43 (by decide) (hd 2 (by decide))
    have h46 : v 46 = .int .i64 i := J.1.mv 46 (by decide) (hd 5 (by decide))
    refine opw_call rfl rfl rfl (by decide) (by simp only [frm, List.foldl_cons, List.foldl_nil, List.setIfInBounds_toArray, List.set_cons_zero, List.set_cons_succ]; (go_simp) <;> (first | exact ⟨⟨rfl, rfl⟩, rfl⟩ | exact ⟨rfl, rfl⟩ | with_reducible rfl)) ?_
    refine (HX.out _).mono ?_
    rintro e W1 ⟨rfl, q1⟩
    exact ⟨_, rfl, ⟨J.1.m (q1) 6 47 (by decide) (by decide), J.2.m 6 [5] (by decide) (fun j hj => hd j (by revert hj; revert j; decide))⟩⟩
  case o7 =>
    intro L v W J hL hd
    have h41 : v 41 = .pointer (some ⟨b3, _, none⟩) := J.1.mv 41 (by decide) (hd 0 (by decide))
    refine opw_val rfl rfl rfl (by decide) (by simp only [frm, List.foldl_cons, List.foldl_nil, List.setIfInBounds_toArray, List.set_cons_zero, List.set_cons_succ]; (go_simp) <;> (first | exact ⟨⟨rfl, rfl⟩, rfl⟩ | exact ⟨rfl, rfl⟩ | with_reducible rfl)) ?_
    exact ⟨J.1.m (Q.refl _) 7 48 (by decide) (by decide), J.2.m 7 [] (by decide) (fun j hj => hd j (by revert hj; revert j; decide))⟩
  case o8 =>
    intro L v W J hL hd
    have h48 : v 48 = .pointer (some ⟨b3, _, none⟩) := J.1.mv 48 (by decide) (hd 7 (by decide))
    have h47 : v 47 = .int .i64 i2 := J.1.mv 47 (by decide) (hd 6 (by decide))
    have hA := J.1.a hL
    have c0 := hA.c _ (.int .i64 i) HOff.out.1
    have f0 := hA.f 2
    refine opw_non rfl rfl rfl (by simp only [frm, List.foldl_cons, List.foldl_nil, List.setIfInBounds_toArray, List.set_cons_zero, List.set_cons_succ]; (go_simp) <;> (first | exact ⟨⟨rfl, rfl⟩, rfl⟩ | exact ⟨rfl, rfl⟩ | with_reducible rfl)) ?_
    exact ⟨J.1.put (J.1.q.setCell HT5.out.l _) ⟨J.1.p.1.oth (Ne.symm HT5.out.n3) _ _, J.1.p.2.1.oth (Ne.symm HT5.out.n1) _ _, J.1.p.2.2.set HB3.out _ _⟩ (HOff.out.2 ▸ hA.put _ _), J.2.m 8 [6] (by decide) (fun j hj => hd j (by revert hj; revert j; decide))⟩
  intro L v w6 hall J
  have HT6 : Hid (T3 w w6 40 40 40 ((x.wt q).mv true i2).L.toArray y.L.toArray zero23 b3 b4 b6) := hid ⟨J.1.b (hall 8 (by decide)), J.1.p.1, J.1.p.2.1, HT5.out.n1, HT5.out.n2, HT5.out.n3, HT5.out.l, HT5.out.lb, HT5.out.l6, J.1.q⟩
  have HTr6 := hid J.1.p.2.2
  simp only [frm, List.foldl_cons, List.foldl_nil, List.setIfInBounds_toArray, List.set_cons_zero, List.set_cons_succ]
  clear hall J HT5 HX HOff HTr5
  obtain ⟨x2, hx2⟩ : ∃ x2, (x.wt q).mv true i2 = x2 := ⟨_, rfl⟩
  have HX2 := hid hx2
  rw [hx2] at HMq HT6
  clear hx2
  cases b
  all_goals
    go_wp2_with (first
      | (with_reducible refine wpList_load_row (by with_unfolding_all rfl) 40 _ (by with_unfolding_all rfl) b3 (by with_unfolding_all rfl) 40 x2.L.toArray (0, 0) _ HT6.out.a.h Tryz.underlying40 (by with_unfolding_all rfl) (by with_unfolding_all exact info40) ?_)
      | (go_at_call 22; refine (HMq.out _ HT6.out.q HTr6.out.rd).mono ?_; rintro e9 w7 ⟨rfl, q9⟩; have HT7 := hid (HT6.out.on q9); have HTr7 := hid (HTr6.out.on q9); clear q9)
      | (with_reducible refine wpList_load_row (by with_unfolding_all rfl) 40 _ (by with_unfolding_all rfl) b3 (by with_unfolding_all rfl) 40 x2.L.toArray (0, 0) _ HT7.out.a.h Tryz.underlying40 (by with_unfolding_all rfl) (by with_unfolding_all exact info40) ?_)
      | (with_reducible refine wpl_buildt 40 _ (by with_unfolding_all rfl) (by with_unfolding_all rfl) zero23 (by with_unfolding_all kernel_rfl) ?_)
      | (with_reducible refine wpList_store_row (by with_unfolding_all rfl) 40 _ _ (by with_unfolding_all rfl) b6 zero23 (by with_unfolding_all rfl) (by with_unfolding_all rfl) 40 _ HT7.out.r.h (by with_unfolding_all exact info40) (by with_unfolding_all rfl) (by with_unfolding_all kernel_rfl) ?_)
      | (with_reducible refine wpList_store_row (by with_unfolding_all rfl) 40 _ _ (by with_unfolding_all rfl) b6 x2.L.toArray (by with_unfolding_all rfl) (by with_unfolding_all rfl) 40 _ HT7.out.r.h (by with_unfolding_all exact info40) (by with_unfolding_all rfl) x2.one ?_))
    refine bodyPost_ret (v := .tuple #[.agg _, .bool _]) (results_cell2 Tryz.results37 _ _ b6 40 _ (0, 0) _ (by rfl) (HT7.out.r.row _).h Tryz.underlying40 rfl info40) rfl ?_
  · exact ⟨rfl, HT7.out.q.row HT7.out.l6 _, q, (HTr7.out.row HB6.out _).mono HW3.out⟩
  · exact ⟨q, by rw [HX2.out], HT7.out.q.row HT7.out.l6 _, (HTr7.out.row HB6.out _).mono HW3.out⟩
end Go.Proofs.YthebfhdpofhmpaaGreatDoor
