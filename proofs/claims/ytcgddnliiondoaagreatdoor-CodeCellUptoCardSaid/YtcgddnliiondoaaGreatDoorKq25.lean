/- counterpaneref5.may, MayExpr and Count, for every tree of so. -/
import Derived.Test.YtcgddnliiondoaaGreatDoorKq23
import Derived.Test.YtcgddnliiondoaaGreatDoorKq22
import Derived.Test.YtcgddnliiondoaaGreatDoorKq16
import Derived.Test.YtcgddnliiondoaaGreatDoorKq17
import Derived.Test.YtcgddnliiondoaaGreatDoorKq24
import Derived.Test.YtcgddnliiondoaaGreatDoorKq07
import Derived.Test.YtcgddnliiondoaaGreatDoorKq18
import Derived.Test.YtcgddnliiondoaaGreatDoorKq02
import Derived.RangeFuncNested
import Derived.RangeFuncBound
import Derived.RangeFuncCalls
import Derived.RangeFuncLeaves
import Derived.RangeFuncBox
import Derived.Shelf.Abstract
import Derived.Shelf.RegionOpen
import Derived.OwnWalkIn
import Derived.TacticsInMore
import Derived.LoopNIn
import Derived.LoopIn
import Derived.Maps.AppendAt
import Derived.Sort.OwnSorted
import Derived.Shelf.SlSortCmp.WholeK
import Derived.Shelf.SlSortCmp.NoneTotal
import Derived.Shelf.SortM.Plain
import Derived.Shelf.SortM.SortNone
import Derived.Shelf.SlicesG.CompactI
import Derived.Test.YtcgddnliiondoaaGreatDoorProg
import Derived.BigRegion
import Derived.Deep.CutBlock
import Derived.Test.YtcgddnliiondoaaGreatDoorKq03
import Derived.Deep.AppendLies
import Derived.Test.YtcgddnliiondoaaGreatDoorKq19
import Derived.Test.YtcgddnliiondoaaGreatDoorKq14
import Derived.Test.YtcgddnliiondoaaGreatDoorKq00
import Derived.Test.YtcgddnliiondoaaGreatDoorKq05
import Derived.ProofKit
import Derived.OpenShut
import Derived.ChangeOld
import Derived.DataReads
import Derived.Deep.DeepHandedRow
set_option linter.unusedVariables false
set_option linter.unusedSimpArgs false
set_option maxRecDepth 100000
set_option maxHeartbeats 8000000
namespace Go.Proofs.YtcgddnliiondoaaGreatDoor
open Go.RowKit
theorem mre_of {W : World} (x : Rf) (hs : x.1.length ≤ 2000000) : MRe W x := by
  intro V q
  exact rmay_any ⟨x.1.toArray⟩ x.2.1 x.2.2.1 x.2.2.2.1 x.2.2.2.2 V (by show x.1.toArray.size ≤ 4000000000; simp; omega)
theorem bare_leaf (ok : Bool) (n : Int) (t : List UInt8) (b : Bool) (e : Int) (l1 : Nat) (ks : List Ex) (d : Nat) : ((ok && bareB n t b e l1 ks.length) && rm.rmL ks d) = (ok && bareB n t b e l1 ks.length) := by
  cases h : bareB n t b e l1 ks.length
  · rw [Bool.and_false, Bool.false_and]
  · have : ks = [] := List.eq_nil_of_length_eq_zero (of_decide_eq_true h).2.2.2.2.2
    subst this
    rw [rm.rmL, Bool.and_true]
theorem rmay_all : ∀ (s : Nat) (x : Ex) (v : Value) (W : World) (d : Nat), SizeOf.sizeOf x ≤ s → Sm x → Rd W x v → Calls Tryz.prog 58 #[v, .int .i64 (d : Int)] W fun e W' => e = .returned (.bool (rm x d)) ∧ Q W W' := by
  intro s
  induction s with
  | zero =>
    intro x v W d hs
    cases x with
    | mk k n t b e rs ks => simp at hs
  | succ s ih =>
    intro x v W d hsz hs hr
    obtain ⟨k, n, t, b, e, rs, ks, rv', kv, ao, cap, rfl, hp⟩ := hr.prt
    obtain ⟨ar, cr, hrv, hl⟩ := hp.rl
    have hsl : Sl rf 5 W (.slice ar rs.length cr) rs := hrv ▸ hp.rl
    have hkl := hp.kl
    subst hkl hrv
    have hx := hp.ex
    have hcap : ks.length ≤ 9223372036854775807 := by have h1 := hp.le; have h2 := hp.mx; unfold maxLen at h2; omega
    have HKid : Hid (∀ i (hi : i < ks.length) V, Q W V → ∃ b' off c0 c1 c2 c3 c4 c5 c6, ao = some ⟨b', off, none⟩ ∧ Kid V ks[i] b' (off + i * 7) c0 c1 c2 c3 c4 c5 c6) := hid (fun i hi V q => by
      obtain ⟨b', off, ha, hl⟩ := (hp.on q).kd (by intro h; rw [h] at hi; simp at hi)
      obtain ⟨c0, c1, c2, c3, c4, c5, c6, hk⟩ := hl.kid i hi
      exact ⟨b', off, c0, c1, c2, c3, c4, c5, c6, ha, hk⟩)
    have hkids : ∀ y ∈ ks, Sm y := sm_kids k n t.data.toList b e rs ks (hx ▸ hs)
    have IH : Hid (∀ i (hi : i < ks.length) v V, Rd V ks[i] v → Calls Tryz.prog 58 #[v, .int .i64 ((d : Int) + 1)] V fun e W' => e = .returned (.bool (rm ks[i] (d + 1))) ∧ Q V W') := hid (fun i hi v V hr => by
      have h1 := kid_size (k := k) (n := n) (t := t.data.toList) (b := b) (e := e) (rs := rs) i hi
      rw [← hx] at h1
      have := ih ks[i] v V (d + 1) (by omega) (hkids _ (List.getElem_mem hi)) hr
      rw [show ((d + 1 : Nat) : Int) = (d : Int) + 1 by omega] at this
      exact this)
    clear ih hr
    subst hx
    rw [Sm] at hs
    obtain ⟨s1, s2, _⟩ := hs
    have st : t.size ≤ 1000000 := by rw [← len_data]; exact s1
    have hm : Hid (∀ y ∈ rs, MRe W y) := hid (fun y hy => mre_of y (s2 y hy))
    rw [rm, mayN]
    by_cases h1 : k = 1
    · subst h1
      rw [if_pos rfl, bare_leaf]
      exact rn_1 n t b e ar rs.length cr ao ks.length cap W d
    by_cases h2 : k = 2
    · subst h2
      rw [if_neg (by decide), if_pos rfl, bare_leaf]
      exact rn_2 n t b e ar rs.length cr ao ks.length cap W d (by omega)
    by_cases h3 : k = 3
    · subst h3
      rw [if_neg (by decide), if_neg (by decide), if_pos rfl, bare_leaf]
      exact rn_3 n t b e ar rs.length cr ao ks.length cap W d
    by_cases h4 : k = 4
    · subst h4
      rw [if_neg (by decide), if_neg (by decide), if_neg (by decide), if_pos rfl, bare_leaf]
      exact rn_4 n t b e ar rs.length cr ao ks.length cap W d
    by_cases h5 : k = 5
    · subst h5
      rw [if_neg (by decide), if_neg (by decide), if_neg (by decide), if_neg (by decide), if_pos rfl, bare_leaf]
      exact rn_5 n t b e ar rs.length cr ao ks.length cap W d rs hsl hm
    by_cases h6 : k = 6
    · subst h6
      rw [if_neg (by decide), if_neg (by decide), if_neg (by decide), if_neg (by decide), if_neg (by decide), if_pos rfl, bare_leaf]
      exact rn_6 n t b e ar rs.length cr ao ks.length cap W d rs hsl hm
    by_cases h7 : k = 7
    · subst h7
      rw [if_neg (by decide), if_neg (by decide), if_neg (by decide), if_neg (by decide), if_neg (by decide), if_neg (by decide), if_pos rfl]
      exact rn_7 n t b e ar rs.length cr ao ks.length cap W d ks rfl hcap HKid IH
    by_cases h8 : k = 8
    · subst h8
      rw [if_neg (by decide), if_neg (by decide), if_neg (by decide), if_neg (by decide), if_neg (by decide), if_neg (by decide), if_neg (by decide), if_pos rfl]
      exact rn_8 n t b e ar rs.length cr ao ks.length cap W d ks rfl hcap HKid IH
    by_cases h9 : k = 9
    · subst h9
      rw [if_neg (by decide), if_neg (by decide), if_neg (by decide), if_neg (by decide), if_neg (by decide), if_neg (by decide), if_neg (by decide), if_neg (by decide), if_pos rfl]
      exact rn_9 n t b e ar rs.length cr ao ks.length cap W d (by omega) ks rfl hcap HKid IH
    rw [if_neg h1, if_neg h2, if_neg h3, if_neg h4, if_neg h5, if_neg h6, if_neg h7, if_neg h8, if_neg h9, Bool.false_and, Bool.and_false]
    exact rn_k k n t b e ar rs.length cr ao ks.length cap W d (by omega)
set_option maxHeartbeats 4000000 in
theorem rcount_any (x : Ex) (v : Value) (W : World) (hr : Rd W x v) : Calls Tryz.prog 57 #[v] W fun e W' => e = .returned (.int .i64 (min (nodes x) 201 : Nat)) ∧ Q W W' := by
  have HC := hid (fun W' (q : Q W W') => count_any (SizeOf.sizeOf x) x v W' 0 0 0 (Nat.le_refl _) rfl (by omega) (Rd.on q _ _ hr))
  have hn := cnt_nodes x 0 (by omega)
  rw [Nat.zero_add] at hn
  rw [← hn]
  obtain ⟨k, n, t, b, e, a1, l1, c1, a2, l2, c2, rfl⟩ := hr.shape
  obtain ⟨c, hc⟩ : ∃ c, cnt x 0 = c := ⟨_, rfl⟩
  rw [hc] at HC ⊢
  clear hn hc hr
  by_cases h : 200 < c
  · have h' : (200 : Int) < (c : Int) := by omega
    have HR : Hid (min c 201 = 201) := by show _ = _; omega
    go_enter Tryz.func57, Tryz.ntmps57
    go_wp2_with (go_at_call 89; refine (HC.out _ ((Q.refl _).alloc _)).mono ?_; rintro e9 w1 ⟨rfl, q1⟩; have Q1 : Hid (Q W w1) := hid (((Q.refl _).alloc _).trans q1); clear q1)
    go_ret
    exact ⟨by rw [HR.out]; rfl, Q1.out⟩
  · have h' : ¬ (200 : Int) < (c : Int) := by omega
    have HR : Hid (min c 201 = c) := by show _ = _; omega
    go_enter Tryz.func57, Tryz.ntmps57
    go_wp2_with (go_at_call 89; refine (HC.out _ ((Q.refl _).alloc _)).mono ?_; rintro e9 w1 ⟨rfl, q1⟩; have Q1 : Hid (Q W w1) := hid (((Q.refl _).alloc _).trans q1); clear q1)
    go_ret
    exact ⟨by rw [HR.out]; rfl, Q1.out⟩
set_option maxHeartbeats 4000000 in
theorem rmayexpr_any (x : Ex) (v : Value) (W : World) (hs : Sm x) (hr : Rd W x v) : Calls Tryz.prog 30 #[v] W fun e W' => e = .returned (.bool (fitB x && mall mayN x)) ∧ Q W W' := by
  have HC := hid (fun W' (q : Q W W') => rcount_any x v W' (Rd.on q _ _ hr))
  have HA := hid (fun W' (q : Q W W') => rmay_all (SizeOf.sizeOf x) x v W' 1 (Nat.le_refl _) hs (Rd.on q _ _ hr))
  have he : (fitB x && mall mayN x) = (decide (min (nodes x) 201 ≤ 200) && rm x 1) := by
    rw [rm_shl x 1 50 rfl]
    unfold fitB
    have : decide (nodes x ≤ 200) = decide (min (nodes x) 201 ≤ 200) := by
      by_cases h : nodes x ≤ 200
      · rw [decide_eq_true h, decide_eq_true (by omega)]
      · rw [decide_eq_false h, decide_eq_false (by omega)]
    rw [this, Bool.and_assoc]
  rw [he]
  obtain ⟨k, n, t, b, e, a1, l1, c1, a2, l2, c2, rfl⟩ := hr.shape
  have HX := hid (Bx.start W (.int .i64 k) (.int .i64 n) (.string t) (.bool b) (.int .i64 e) (.slice a1 l1 c1) (.slice a2 l2 c2) 40)
  obtain ⟨c, hc⟩ : ∃ c, min (nodes x) 201 = c := ⟨_, rfl⟩
  obtain ⟨r, hrr⟩ : ∃ r, rm x 1 = r := ⟨_, rfl⟩
  rw [hc] at HC ⊢
  rw [hrr] at HA ⊢
  clear hr hs he hc hrr
  by_cases h : c ≤ 200
  · have h' : (c : Int) ≤ 200 := by omega
    rw [decide_eq_true h, Bool.true_and]
    go_enter Tryz.func30, Tryz.ntmps30
    go_wp2_with (first | (go_at_call 57; refine (HC.out _ ((Q.refl _).alloc _)).mono ?_; rintro e9 w1 ⟨rfl, q1⟩; have Q1 : Hid (Q W w1) := hid (((Q.refl _).alloc _).trans q1); have X1 := hid (HX.out.on q1); clear q1; obtain ⟨_, _, g0, g1, g2, g3, g4, g5, g6⟩ := X1.out) | (go_at_call 58; refine (HA.out _ Q1.out).mono ?_; rintro e9 w2 ⟨rfl, q2⟩; have Q2 : Hid (Q W w2) := hid (Q1.out.trans q2); clear q2))
    go_ret
    exact ⟨rfl, Q2.out⟩
  · have h' : ¬ (c : Int) ≤ 200 := by omega
    rw [decide_eq_false h, Bool.false_and]
    go_enter Tryz.func30, Tryz.ntmps30
    go_wp2_with (go_at_call 57; refine (HC.out _ ((Q.refl _).alloc _)).mono ?_; rintro e9 w1 ⟨rfl, q1⟩; have Q1 : Hid (Q W w1) := hid (((Q.refl _).alloc _).trans q1); clear q1)
    go_ret
    exact ⟨rfl, Q1.out⟩
set_option maxHeartbeats 4000000 in
theorem rmayc_form (vk vn : Int) (vt : ByteArray) (vb : Bool) (ve : Int) (k m : Int) (t : ByteArray) (bb : Bool) (er : Int) (a1 : Option Addr) (l1 c1 : Nat) (a2 : Option Addr) (l2 c2 : Nat) (X : Ex) (w : World) (hs : Sm X) (hr : Rd w X (.agg #[.int .i64 k, .int .i64 m, .string t, .bool bb, .int .i64 er, .slice a1 l1 c1, .slice a2 l2 c2])) : Calls Tryz.prog 16 #[.agg #[.bool true, .int .i64 vk, .int .i64 vn, .string vt, .bool vb, .int .i64 ve, .int .i64 k, .int .i64 m, .string t, .bool bb, .int .i64 er, .slice a1 l1 c1, .slice a2 l2 c2]] w fun e W' => e = .returned (.bool ((fitB X && mall mayN X) && decide (vk = 0 ∧ vn = 0 ∧ vt.data.toList = [] ∧ vb = false ∧ ve = 0))) ∧ Q w W' := by
  have HM := hid (fun W' (q : Q w W') => rmayexpr_any X _ W' hs (Rd.on q _ _ hr))
  have HV := hid (fun W' => req_any vk vn vt vb ve 0 0 ⟨#[]⟩ false 0 W')
  unfold vx at HV
  rw [show (⟨#[]⟩ : ByteArray).data.toList = [] from rfl] at HV
  generalize decide (vk = 0 ∧ vn = 0 ∧ vt.data.toList = [] ∧ vb = false ∧ ve = 0) = r2 at HV ⊢
  clear hr hs
  cases h1 : (fitB X && mall mayN X)
  · rw [h1] at HM
    go_enter Tryz.func16, Tryz.ntmps16
    go_wp2_with (go_at_call 30; refine (HM.out _ ((Q.refl _).alloc _)).mono ?_; rintro e9 w1 ⟨rfl, q1⟩; have Q1 : Hid (Q w w1) := hid (((Q.refl _).alloc _).trans q1); clear q1)
    go_ret
    exact ⟨by simp, Q1.out⟩
  · rw [h1] at HM
    go_enter Tryz.func16, Tryz.ntmps16
    go_wp2_with (first | (go_at_call 30; refine (HM.out _ ((Q.refl _).alloc _)).mono ?_; rintro e9 w1 ⟨rfl, q1⟩; have Q1 : Hid (Q w w1) := hid (((Q.refl _).alloc _).trans q1); have Z1 := hid ((cb_new w [.bool true, .int .i64 vk, .int .i64 vn, .string vt, .bool vb, .int .i64 ve, .int .i64 k, .int .i64 m, .string t, .bool bb, .int .i64 er, .slice a1 l1 c1, .slice a2 l2 c2] 42).on q1); clear q1; have d0 := Z1.out.c 0 _ rfl; have d1 := Z1.out.c 1 _ rfl; have d2 := Z1.out.c 2 _ rfl; have d3 := Z1.out.c 3 _ rfl; have d4 := Z1.out.c 4 _ rfl; have d5 := Z1.out.c 5 _ rfl; have d6 := Z1.out.c 6 _ rfl; have d7 := Z1.out.c 7 _ rfl; have d8 := Z1.out.c 8 _ rfl; have d9 := Z1.out.c 9 _ rfl; have d10 := Z1.out.c 10 _ rfl; have d11 := Z1.out.c 11 _ rfl; have d12 := Z1.out.c 12 _ rfl) | (go_at_call 31; refine (HV.out _).mono ?_; rintro e9 w2 ⟨rfl, q2⟩; have Q2 := hid (Q1.out.trans q2); clear q2))
    go_ret
    exact ⟨by simp, Q2.out⟩
set_option maxHeartbeats 4000000 in
theorem rmayc_val (vk vn : Int) (vt : ByteArray) (vb : Bool) (ve : Int) (k m : Int) (t : ByteArray) (bb : Bool) (er : Int) (a1 : Option Addr) (l1 c1 : Nat) (a2 : Option Addr) (l2 c2 : Nat) (X : Ex) (w : World) (hv : vt.size ≤ 1000000) (hr : Rd w X (.agg #[.int .i64 k, .int .i64 m, .string t, .bool bb, .int .i64 er, .slice a1 l1 c1, .slice a2 l2 c2])) : Calls Tryz.prog 16 #[.agg #[.bool false, .int .i64 vk, .int .i64 vn, .string vt, .bool vb, .int .i64 ve, .int .i64 k, .int .i64 m, .string t, .bool bb, .int .i64 er, .slice a1 l1 c1, .slice a2 l2 c2]] w fun e W' => e = .returned (.bool (V.mayB vk vn vt.data.toList vb ve && isZ X)) ∧ Q w W' := by
  have HM := hid (fun W' (q : Q w W') => V.rmay_any vk vn vt vb ve W' (by omega))
  unfold V.vv at HM
  rw [Lib.toList_data] at HM
  have HV := hid (fun W' (q : Q w W') => eqexpr_any _ X zeroE _ _ W' (Nat.le_refl _) (Rd.on q _ _ hr) (rd_zero W'))
  clear hr hv
  cases h1 : V.mayB vk vn vt.data.toList vb ve
  · rw [h1] at HM
    go_enter Tryz.func16, Tryz.ntmps16
    go_wp2_with (go_at_call 32; refine (HM.out _ ((Q.refl _).alloc _)).mono ?_; rintro e9 w1 ⟨rfl, q1⟩; have Q1 : Hid (Q w w1) := hid (((Q.refl _).alloc _).trans q1); clear q1)
    go_ret
    exact ⟨by simp, Q1.out⟩
  · rw [h1] at HM
    go_enter Tryz.func16, Tryz.ntmps16
    go_wp2_with (first | (go_at_call 32; refine (HM.out _ ((Q.refl _).alloc _)).mono ?_; rintro e9 w1 ⟨rfl, q1⟩; have Q1 : Hid (Q w w1) := hid (((Q.refl _).alloc _).trans q1); have Z1 := hid ((cb_new w [.bool false, .int .i64 vk, .int .i64 vn, .string vt, .bool vb, .int .i64 ve, .int .i64 k, .int .i64 m, .string t, .bool bb, .int .i64 er, .slice a1 l1 c1, .slice a2 l2 c2] 42).on q1); clear q1; have d0 := Z1.out.c 0 _ rfl; have d1 := Z1.out.c 1 _ rfl; have d2 := Z1.out.c 2 _ rfl; have d3 := Z1.out.c 3 _ rfl; have d4 := Z1.out.c 4 _ rfl; have d5 := Z1.out.c 5 _ rfl; have d6 := Z1.out.c 6 _ rfl; have d7 := Z1.out.c 7 _ rfl; have d8 := Z1.out.c 8 _ rfl; have d9 := Z1.out.c 9 _ rfl; have d10 := Z1.out.c 10 _ rfl; have d11 := Z1.out.c 11 _ rfl; have d12 := Z1.out.c 12 _ rfl) | (go_at_call 33; refine (HV.out _ Q1.out).mono ?_; rintro e9 w2 ⟨ha, q2⟩; have he := ans_isZ ha; subst he; have Q2 := hid (Q1.out.trans q2); clear q2 ha))
    go_ret
    exact ⟨by simp, Q2.out⟩
theorem some_all (W0 : World) (p : Nat) (hp0 : W0.heap.size ≤ p) : ∀ (s : Nat) (x : Ex) (v : Value) (W : World) (d l : Nat), SizeOf.sizeOf x ≤ s → RdI W0 x v → Q W0 W → p < W.heap.size → W.cell? ⟨p, 0, none⟩ = some (.int .i64 (l : Int)) → W.frozen? ⟨p, 0, none⟩ = false → 1 ≤ l → l ≤ 220 → d ≤ 60 → Calls Tryz.prog 48 #[v, .int .i64 (d : Int), .pointer (some ⟨p, 0, none⟩)] W fun e W' => RepS W0 p W (cutE x d l) e W' := by
  intro s
  induction s with
  | zero =>
    intro x v W d l hs
    cases x with
    | mk k n t b e rs ks => simp at hs
  | succ s ih =>
    intro x v W d l hs hr hq hp hc hf h1 h2 hd
    cases x with
    | mk k n t b e rs ks =>
      unfold RdI at hr
      obtain ⟨rv', kv, hv, hsl, ao, cap, hk, hle, hmx, hkd⟩ := hr
      obtain ⟨a1, c1, hrv, hl⟩ := hsl
      have hsl' : Sl rf 5 W0 (.slice a1 rs.length c1) rs := ⟨a1, c1, rfl, hl⟩
      subst hk hrv hv
      have hstep := some_step W0 p k n ⟨t.toArray⟩ b e rs ks a1 c1 ao cap W d l (hid hsl') (hid ⟨hle, hmx⟩) (hid hkd) (hid hq) hp0 hp hc hf h1 h2 hd
        (hid (fun i hi v W d l hr hq hp hc hf h1 h2 hd => ih ks[i] v W d l (by have := kid_size (k := k) (n := n) (t := t) (b := b) (e := e) (rs := rs) i hi; omega) hr hq hp hc hf h1 h2 hd))
      exact hstep
set_option maxHeartbeats 4000000 in
theorem cutx_any (x : Ex) (v : Value) (W0 W : World) (hr : RdI W0 x v) (hq0 : Q W0 W) : Calls Tryz.prog 27 #[v] W fun e W' => ∃ v', e = .returned v' ∧ Rdg (fun b => b < W0.heap.size ∨ W.heap.size ≤ b) W' (cutE x 1 220).1 v' ∧ Q W W' := by
  have hw0 := hq0.size
  have HS := hid (fun p (hp : W0.heap.size ≤ p) V (q : Q W0 V) (hpv : p < V.heap.size) (hc : V.cell? ⟨p, 0, none⟩ = some (.int .i64 ((220 : Nat) : Int))) (hf : V.frozen? ⟨p, 0, none⟩ = false) => some_all W0 p hp (SizeOf.sizeOf x) x v V 1 220 (Nat.le_refl _) hr q hpv hc hf (by omega) (by omega) (by omega))
  obtain ⟨k, n, t, b, e, a1, l1, c1, a2, l2, c2, rfl⟩ := hr.shape
  clear hr
  have t2 := tb_new (W.alloc (.cells #[.int .i64 k, .int .i64 n, .string t, .bool b, .int .i64 e, .slice a1 l1 c1, .slice a2 l2 c2] 40)) (.int .i64 0) (.int .i64 0) (.string ⟨#[]⟩) (.bool false) (.int .i64 0) (.slice none 0 0) (.slice none 0 0) 40
  rw [show (W.alloc (.cells #[.int .i64 k, .int .i64 n, .string t, .bool b, .int .i64 e, .slice a1 l1 c1, .slice a2 l2 c2] 40)).heap.size = W.heap.size + 1 by simp] at t2
  have T2 := hid (t2.on (p := W.heap.size) ((Qx.refl _ _).alloc (.cells #[.int .i64 220] 3)) (by omega))
  clear t2
  have hsz : (((W.alloc (.cells #[.int .i64 k, .int .i64 n, .string t, .bool b, .int .i64 e, .slice a1 l1 c1, .slice a2 l2 c2] 40)).alloc (.cells #[.int .i64 0, .int .i64 0, .string ⟨#[]⟩, .bool false, .int .i64 0, .slice none 0 0, .slice none 0 0] 40)).alloc (.cells #[.int .i64 220] 3)).heap.size = W.heap.size + 3 := by simp
  have HV := hid (HS.out (W.heap.size + 1 + 1) (by omega) (((W.alloc (.cells #[.int .i64 k, .int .i64 n, .string t, .bool b, .int .i64 e, .slice a1 l1 c1, .slice a2 l2 c2] 40)).alloc (.cells #[.int .i64 0, .int .i64 0, .string ⟨#[]⟩, .bool false, .int .i64 0, .slice none 0 0, .slice none 0 0] 40)).alloc (.cells #[.int .i64 220] 3)) (((hq0.alloc _).alloc _).alloc _) (by rw [hsz]; omega) (by
    have h := (World.cell?_alloc_new ((W.alloc (.cells #[.int .i64 k, .int .i64 n, .string t, .bool b, .int .i64 e, .slice a1 l1 c1, .slice a2 l2 c2] 40)).alloc (.cells #[.int .i64 0, .int .i64 0, .string ⟨#[]⟩, .bool false, .int .i64 0, .slice none 0 0, .slice none 0 0] 40)) #[.int .i64 220] 3 0)
    simp only [World.alloc, Array.size_push] at h ⊢
    simpa using h) (by
    have h := (World.frozen?_alloc_new ((W.alloc (.cells #[.int .i64 k, .int .i64 n, .string t, .bool b, .int .i64 e, .slice a1 l1 c1, .slice a2 l2 c2] 40)).alloc (.cells #[.int .i64 0, .int .i64 0, .string ⟨#[]⟩, .bool false, .int .i64 0, .slice none 0 0, .slice none 0 0] 40)) #[.int .i64 220] 3 0)
    simp only [World.alloc, Array.size_push] at h ⊢
    simpa using h))
  go_enter Tryz.func27, Tryz.ntmps27
  go_wp2_with (go_at_call 48; refine HV.out.mono ?_; rintro e8 w5 ⟨v8, rfl, hr8, q8, _, _⟩; obtain ⟨k8, m8, t8, bb8, er8, a18, l18, c18, a28, l28, c28, rfl⟩ := hr8.shape; have R8 := hid hr8; have Q8 := hid q8; have T8 := hid (T2.out.on q8 (by omega)); clear hr8 q8; obtain ⟨z0, z1, z2, z3, z4, z5, z6, zf⟩ := T8.out; have y0 := zf 0; have y1 := zf 1; have y2 := zf 2; have y3 := zf 3; have y4 := zf 4; have y5 := zf 5; have y6 := zf 6; clear zf)
  refine bodyPost_ret (v := .agg #[.int .i64 k8, .int .i64 m8, .string t8, .bool bb8, .int .i64 er8, .slice a18 l18 c18, .slice a28 l28 c28]) (by simp [results, Tryz.results27, go_sem, z0, z1, z2, z3, z4, z5, z6]) rfl ?_
  have QF : Qx (W.heap.size + 1) w5 (((((((w5.setCell ⟨W.heap.size + 1, 0, none⟩ (.int .i64 k8)).setCell ⟨W.heap.size + 1, 1, none⟩ (.int .i64 m8)).setCell ⟨W.heap.size + 1, 2, none⟩ (.string t8)).setCell ⟨W.heap.size + 1, 3, none⟩ (.bool bb8)).setCell ⟨W.heap.size + 1, 4, none⟩ (.int .i64 er8)).setCell ⟨W.heap.size + 1, 5, none⟩ (.slice a18 l18 c18)).setCell ⟨W.heap.size + 1, 6, none⟩ (.slice a28 l28 c28)) := (((((((Qx.refl _ _).own _ _).own _ _).own _ _).own _ _).own _ _).own _ _).own _ _
  have hq5 : Q W w5 := by
    have h := Q8.out
    refine ⟨h.os, h.tape, h.output, by have := h.size; omega, fun i hi => (h.block i (by omega) (fun e => by have := Option.some.inj e; omega)).trans ?_⟩
    exact Q.block ((((Q.refl W).alloc _).alloc _).alloc _) hi
  refine ⟨_, rfl, Rdg.mono (fun b hb => by rw [hsz] at hb; omega) _ _ (Rdg.on QF (fun b hb => by rw [hsz] at hb; omega) _ _ R8.out), ?_⟩
  exact ⟨QF.os.trans hq5.os, QF.tape.trans hq5.tape, QF.output.trans hq5.output, Nat.le_trans hq5.size QF.size, fun i hi => (QF.block i (Nat.lt_of_lt_of_le hi hq5.size) (fun e => by have := Option.some.inj e; omega)).trans (Q.block hq5 hi)⟩
theorem Cb.put1 {W : World} {q : Nat} {cs : List Value} (h : Cb W q cs) (j : Nat) (hj : j < cs.length) (d : Value) : Cb (W.setCell ⟨q, j, none⟩ d) q (cs.set j d) := by
  refine ⟨fun i u hu => ?_, fun i => ?_, by simpa [World.setCell] using h.l⟩
  · by_cases e : i = j
    · subst e
      rw [List.getElem?_set_self hj] at hu
      cases hu
      exact World.cell?_setCell_same _ _ _ (h.c i _ (List.getElem?_eq_getElem hj))
    · rw [List.getElem?_set_ne (fun x => e x.symm)] at hu
      rw [World.cell?_setCell_other _ _ _ _ (by simp; try omega)]
      exact h.c i u hu
  · simp only [World.frozen?_setCell]
    exact h.f i
theorem Cb.onx {p : Nat} {W W' : World} {q : Nat} {cs : List Value} (h : Cb W q cs) (x : Qx p W W') (hq : q ≠ p) : Cb W' q cs :=
  ⟨fun j u hu => (x.cell h.l hq).trans (h.c j u hu), fun j => (World.frozen?_of_block (x.block q h.l (fun e => hq (Option.some.inj e)))).trans (h.f j), Nat.lt_of_lt_of_le h.l x.size⟩
theorem Q.viaq {p : Nat} {a b c : World} (h : Q a b) (k : Qx p b c) (hp : a.heap.size ≤ p) : Q a c :=
  ⟨k.os.trans h.os, k.tape.trans h.tape, k.output.trans h.output, Nat.le_trans h.size k.size, fun i hi => (k.block i (Nat.lt_of_lt_of_le hi h.size) (fun e => by have := Option.some.inj e; omega)).trans (Q.block h hi)⟩
set_option maxHeartbeats 8000000 in
theorem cutc_any (f : Bool) (vk vn : Int) (vt : ByteArray) (vb : Bool) (ve : Int) (k m : Int) (t : ByteArray) (bb : Bool) (er : Int) (a1 : Option Addr) (l1 c1 : Nat) (a2 : Option Addr) (l2 c2 : Nat) (X : Ex) (W0 W : World) (hr : RdI W0 X (.agg #[.int .i64 k, .int .i64 m, .string t, .bool bb, .int .i64 er, .slice a1 l1 c1, .slice a2 l2 c2])) (hq0 : Q W0 W) : Calls Tryz.prog 14 #[.agg #[.bool f, .int .i64 vk, .int .i64 vn, .string vt, .bool vb, .int .i64 ve, .int .i64 k, .int .i64 m, .string t, .bool bb, .int .i64 er, .slice a1 l1 c1, .slice a2 l2 c2]] W fun e W' => ∃ (k8 m8 : Int) (t8 : ByteArray) (bb8 : Bool) (er8 : Int) (a18 : Option Addr) (l18 c18 : Nat) (a28 : Option Addr) (l28 c28 : Nat), e = .returned (.agg #[.bool f, .int .i64 vk, .int .i64 vn, .string (cuT vt), .bool vb, .int .i64 ve, .int .i64 k8, .int .i64 m8, .string t8, .bool bb8, .int .i64 er8, .slice a18 l18 c18, .slice a28 l28 c28]) ∧ Rdg (fun b => b < W0.heap.size ∨ W.heap.size ≤ b) W' (cutE X 1 220).1 (.agg #[.int .i64 k8, .int .i64 m8, .string t8, .bool bb8, .int .i64 er8, .slice a18 l18 c18, .slice a28 l28 c28]) ∧ Q W W' := by
  have hw0 := hq0.size
  have HC := hid (fun V (q : Q W0 V) => cutx_any X _ W0 V hr q)
  have HV := hid (fun V => cut2_any vk vn vt vb ve V)
  unfold vx at HV
  have HQ0 := hid hq0
  generalize (cutE X 1 220).1 = Y at HC ⊢
  clear hr hq0
  go_enter Tryz.func14, Tryz.ntmps14
  go_upto_region 1 with fail
  have Z0 := hid ((cb_new W [.bool f, .int .i64 vk, .int .i64 vn, .string vt, .bool vb, .int .i64 ve, .int .i64 k, .int .i64 m, .string t, .bool bb, .int .i64 er, .slice a1 l1 c1, .slice a2 l2 c2] 42).on ((Q.refl _).alloc (.cells #[.bool false, .int .i64 0, .int .i64 0, .string ⟨#[]⟩, .bool false, .int .i64 0, .int .i64 0, .int .i64 0, .string ⟨#[]⟩, .bool false, .int .i64 0, .slice none 0 0, .slice none 0 0] 42)))
  have R0 := hid (cb_new (W.alloc (.cells #[.bool f, .int .i64 vk, .int .i64 vn, .string vt, .bool vb, .int .i64 ve, .int .i64 k, .int .i64 m, .string t, .bool bb, .int .i64 er, .slice a1 l1 c1, .slice a2 l2 c2] 42)) [.bool false, .int .i64 0, .int .i64 0, .string ⟨#[]⟩, .bool false, .int .i64 0, .int .i64 0, .int .i64 0, .string ⟨#[]⟩, .bool false, .int .i64 0, .slice none 0 0, .slice none 0 0] 42)
  have Q0 : Hid (Q W ((W.alloc (.cells #[.bool f, .int .i64 vk, .int .i64 vn, .string vt, .bool vb, .int .i64 ve, .int .i64 k, .int .i64 m, .string t, .bool bb, .int .i64 er, .slice a1 l1 c1, .slice a2 l2 c2] 42)).alloc (.cells #[.bool false, .int .i64 0, .int .i64 0, .string ⟨#[]⟩, .bool false, .int .i64 0, .int .i64 0, .int .i64 0, .string ⟨#[]⟩, .bool false, .int .i64 0, .slice none 0 0, .slice none 0 0] 42))) := hid (((Q.refl W).alloc _).alloc _)
  have hz0 : ((W.alloc (.cells #[.bool f, .int .i64 vk, .int .i64 vn, .string vt, .bool vb, .int .i64 ve, .int .i64 k, .int .i64 m, .string t, .bool bb, .int .i64 er, .slice a1 l1 c1, .slice a2 l2 c2] 42)).alloc (.cells #[.bool false, .int .i64 0, .int .i64 0, .string ⟨#[]⟩, .bool false, .int .i64 0, .int .i64 0, .int .i64 0, .string ⟨#[]⟩, .bool false, .int .i64 0, .slice none 0 0, .slice none 0 0] 42)).heap.size = W.heap.size + 2 := by simp
  rw [show ([.bool f, .int .i64 vk, .int .i64 vn, .string vt, .bool vb, .int .i64 ve, .int .i64 k, .int .i64 m, .string t, .bool bb, .int .i64 er, .slice a1 l1 c1, .slice a2 l2 c2] : List Value).toArray = #[.bool f, .int .i64 vk, .int .i64 vn, .string vt, .bool vb, .int .i64 ve, .int .i64 k, .int .i64 m, .string t, .bool bb, .int .i64 er, .slice a1 l1 c1, .slice a2 l2 c2] from rfl] at Z0
  rw [show ([.bool false, .int .i64 0, .int .i64 0, .string ⟨#[]⟩, .bool false, .int .i64 0, .int .i64 0, .int .i64 0, .string ⟨#[]⟩, .bool false, .int .i64 0, .slice none 0 0, .slice none 0 0] : List Value).toArray = #[.bool false, .int .i64 0, .int .i64 0, .string ⟨#[]⟩, .bool false, .int .i64 0, .int .i64 0, .int .i64 0, .string ⟨#[]⟩, .bool false, .int .i64 0, .slice none 0 0, .slice none 0 0] from rfl, show (W.alloc (.cells #[.bool f, .int .i64 vk, .int .i64 vn, .string vt, .bool vb, .int .i64 ve, .int .i64 k, .int .i64 m, .string t, .bool bb, .int .i64 er, .slice a1 l1 c1, .slice a2 l2 c2] 42)).heap.size = W.heap.size + 1 by simp] at R0
  generalize (W.alloc (.cells #[.bool f, .int .i64 vk, .int .i64 vn, .string vt, .bool vb, .int .i64 ve, .int .i64 k, .int .i64 m, .string t, .bool bb, .int .i64 er, .slice a1 l1 c1, .slice a2 l2 c2] 42)).alloc (.cells #[.bool false, .int .i64 0, .int .i64 0, .string ⟨#[]⟩, .bool false, .int .i64 0, .int .i64 0, .int .i64 0, .string ⟨#[]⟩, .bool false, .int .i64 0, .slice none 0 0, .slice none 0 0] 42) = V0 at Z0 R0 Q0 hz0 ⊢
  have d0 := Z0.out.c 0 _ rfl; have d1 := Z0.out.c 1 _ rfl; have d2 := Z0.out.c 2 _ rfl; have d3 := Z0.out.c 3 _ rfl; have d4 := Z0.out.c 4 _ rfl; have d5 := Z0.out.c 5 _ rfl; have d6 := Z0.out.c 6 _ rfl; have d7 := Z0.out.c 7 _ rfl; have d8 := Z0.out.c 8 _ rfl; have d9 := Z0.out.c 9 _ rfl; have d10 := Z0.out.c 10 _ rfl; have d11 := Z0.out.c 11 _ rfl; have d12 := Z0.out.c 12 _ rfl
  go_upto_region 2 with (go_at_call 26; refine (HV.out _).mono ?_; rintro e8 w1 ⟨rfl, q1⟩; have Z1 := hid (Z0.out.on q1); have R1 := hid (R0.out.on q1); have Q1 := hid (Q0.out.trans q1); have hz1 : W.heap.size + 2 ≤ w1.heap.size := (by have := q1.size; omega); clear q1; have p0 := Z1.out.c 0 _ rfl; have p1 := Z1.out.c 1 _ rfl; have p2 := Z1.out.c 2 _ rfl; have p3 := Z1.out.c 3 _ rfl; have p4 := Z1.out.c 4 _ rfl; have p5 := Z1.out.c 5 _ rfl; have p6 := Z1.out.c 6 _ rfl; have p7 := Z1.out.c 7 _ rfl; have p8 := Z1.out.c 8 _ rfl; have p9 := Z1.out.c 9 _ rfl; have p10 := Z1.out.c 10 _ rfl; have p11 := Z1.out.c 11 _ rfl; have p12 := Z1.out.c 12 _ rfl; have pf1 := Z1.out.f 1; have pf2 := Z1.out.f 2; have pf3 := Z1.out.f 3; have pf4 := Z1.out.f 4; have pf5 := Z1.out.f 5)
  obtain ⟨V1, hV1⟩ : ∃ V1, V1 = (((((w1.setCell ⟨W.heap.size, 1, none⟩ (.int .i64 vk)).setCell ⟨W.heap.size, 2, none⟩ (.int .i64 vn)).setCell ⟨W.heap.size, 3, none⟩ (.string (cuT vt))).setCell ⟨W.heap.size, 4, none⟩ (.bool vb)).setCell ⟨W.heap.size, 5, none⟩ (.int .i64 ve)) := ⟨_, rfl⟩
  have X1 : Qx W.heap.size w1 V1 := by rw [hV1]; exact ((((((Qx.refl _ _).own _ _).own _ _).own _ _).own _ _).own _ _)
  have Z2 : Hid (Cb V1 W.heap.size [.bool f, .int .i64 vk, .int .i64 vn, .string (cuT vt), .bool vb, .int .i64 ve, .int .i64 k, .int .i64 m, .string t, .bool bb, .int .i64 er, .slice a1 l1 c1, .slice a2 l2 c2]) := hid (by rw [hV1]; exact (((((Z1.out.put1 1 (by simp) (.int .i64 vk)).put1 2 (by simp) (.int .i64 vn)).put1 3 (by simp) (.string (cuT vt))).put1 4 (by simp) (.bool vb)).put1 5 (by simp) (.int .i64 ve)))
  have R2 := hid (R1.out.onx X1 (by omega))
  have Q2 := hid (Q1.out.viaq X1 (Nat.le_refl _))
  have hz2 : W.heap.size + 2 ≤ V1.heap.size := Nat.le_trans hz1 X1.size
  rw [← hV1]
  clear hV1 X1 Z0 R0 Q0 hz0 Z1 R1 Q1 hz1 d0 d1 d2 d3 d4 d5 d6 d7 d8 d9 d10 d11 d12 p0 p1 p2 p3 p4 p5 p6 p7 p8 p9 p10 p11 p12 pf1 pf2 pf3 pf4 pf5
  have HC1 := hid (HC.out V1 (HQ0.out.trans Q2.out))
  have d0 := Z2.out.c 0 _ rfl; have d1 := Z2.out.c 1 _ rfl; have d2 := Z2.out.c 2 _ rfl; have d3 := Z2.out.c 3 _ rfl; have d4 := Z2.out.c 4 _ rfl; have d5 := Z2.out.c 5 _ rfl; have d6 := Z2.out.c 6 _ rfl; have d7 := Z2.out.c 7 _ rfl; have d8 := Z2.out.c 8 _ rfl; have d9 := Z2.out.c 9 _ rfl; have d10 := Z2.out.c 10 _ rfl; have d11 := Z2.out.c 11 _ rfl; have d12 := Z2.out.c 12 _ rfl
  go_upto_region 3 with (go_at_call 27; refine HC1.out.mono ?_; rintro e8 w2 ⟨vA, rfl, hrA, q2⟩; obtain ⟨k8, m8, t8, bb8, er8, a18, l18, c18, a28, l28, c28, rfl⟩ := hrA.shape; have RA := hid hrA; have Z3 := hid (Z2.out.on q2); have R3 := hid (R2.out.on q2); have Q3 := hid (Q2.out.trans q2); have hz3 : W.heap.size + 2 ≤ w2.heap.size := (by have := q2.size; omega); clear q2 hrA; have p0 := Z3.out.c 0 _ rfl; have p1 := Z3.out.c 1 _ rfl; have p2 := Z3.out.c 2 _ rfl; have p3 := Z3.out.c 3 _ rfl; have p4 := Z3.out.c 4 _ rfl; have p5 := Z3.out.c 5 _ rfl; have p6 := Z3.out.c 6 _ rfl; have p7 := Z3.out.c 7 _ rfl; have p8 := Z3.out.c 8 _ rfl; have p9 := Z3.out.c 9 _ rfl; have p10 := Z3.out.c 10 _ rfl; have p11 := Z3.out.c 11 _ rfl; have p12 := Z3.out.c 12 _ rfl; have pf6 := Z3.out.f 6; have pf7 := Z3.out.f 7; have pf8 := Z3.out.f 8; have pf9 := Z3.out.f 9; have pf10 := Z3.out.f 10; have pf11 := Z3.out.f 11; have pf12 := Z3.out.f 12)
  obtain ⟨V2, hV2⟩ : ∃ V2, V2 = (((((((w2.setCell ⟨W.heap.size, 6, none⟩ (.int .i64 k8)).setCell ⟨W.heap.size, 7, none⟩ (.int .i64 m8)).setCell ⟨W.heap.size, 8, none⟩ (.string t8)).setCell ⟨W.heap.size, 9, none⟩ (.bool bb8)).setCell ⟨W.heap.size, 10, none⟩ (.int .i64 er8)).setCell ⟨W.heap.size, 11, none⟩ (.slice a18 l18 c18)).setCell ⟨W.heap.size, 12, none⟩ (.slice a28 l28 c28)) := ⟨_, rfl⟩
  have X3 : Qx W.heap.size w2 V2 := by rw [hV2]; exact ((((((((Qx.refl _ _).own _ _).own _ _).own _ _).own _ _).own _ _).own _ _).own _ _)
  have Z4 : Hid (Cb V2 W.heap.size [.bool f, .int .i64 vk, .int .i64 vn, .string (cuT vt), .bool vb, .int .i64 ve, .int .i64 k8, .int .i64 m8, .string t8, .bool bb8, .int .i64 er8, .slice a18 l18 c18, .slice a28 l28 c28]) := hid (by rw [hV2]; exact (((((((Z3.out.put1 6 (by simp) (.int .i64 k8)).put1 7 (by simp) (.int .i64 m8)).put1 8 (by simp) (.string t8)).put1 9 (by simp) (.bool bb8)).put1 10 (by simp) (.int .i64 er8)).put1 11 (by simp) (.slice a18 l18 c18)).put1 12 (by simp) (.slice a28 l28 c28)))
  have R4 := hid (R3.out.onx X3 (by omega))
  have Q4 := hid (Q3.out.viaq X3 (Nat.le_refl _))
  have RB := hid (Rdg.on X3 (fun b hb => by omega) _ _ RA.out)
  rw [← hV2]
  clear hV2 X3 Z2 R2 Q2 Z3 R3 Q3 RA d0 d1 d2 d3 d4 d5 d6 d7 d8 d9 d10 d11 d12 p0 p1 p2 p3 p4 p5 p6 p7 p8 p9 p10 p11 p12 pf6 pf7 pf8 pf9 pf10 pf11 pf12
  have d0 := Z4.out.c 0 _ rfl; have d1 := Z4.out.c 1 _ rfl; have d2 := Z4.out.c 2 _ rfl; have d3 := Z4.out.c 3 _ rfl; have d4 := Z4.out.c 4 _ rfl; have d5 := Z4.out.c 5 _ rfl; have d6 := Z4.out.c 6 _ rfl; have d7 := Z4.out.c 7 _ rfl; have d8 := Z4.out.c 8 _ rfl; have d9 := Z4.out.c 9 _ rfl; have d10 := Z4.out.c 10 _ rfl; have d11 := Z4.out.c 11 _ rfl; have d12 := Z4.out.c 12 _ rfl; have r0 := R4.out.c 0 _ rfl; have r1 := R4.out.c 1 _ rfl; have r2 := R4.out.c 2 _ rfl; have r3 := R4.out.c 3 _ rfl; have r4 := R4.out.c 4 _ rfl; have r5 := R4.out.c 5 _ rfl; have r6 := R4.out.c 6 _ rfl; have r7 := R4.out.c 7 _ rfl; have r8 := R4.out.c 8 _ rfl; have r9 := R4.out.c 9 _ rfl; have r10 := R4.out.c 10 _ rfl; have r11 := R4.out.c 11 _ rfl; have r12 := R4.out.c 12 _ rfl; have rf0 := R4.out.f 0; have rf1 := R4.out.f 1; have rf2 := R4.out.f 2; have rf3 := R4.out.f 3; have rf4 := R4.out.f 4; have rf5 := R4.out.f 5; have rf6 := R4.out.f 6; have rf7 := R4.out.f 7; have rf8 := R4.out.f 8; have rf9 := R4.out.f 9; have rf10 := R4.out.f 10; have rf11 := R4.out.f 11; have rf12 := R4.out.f 12
  go_wp2_with fail
  refine bodyPost_ret (v := .agg #[.bool f, .int .i64 vk, .int .i64 vn, .string (cuT vt), .bool vb, .int .i64 ve, .int .i64 k8, .int .i64 m8, .string t8, .bool bb8, .int .i64 er8, .slice a18 l18 c18, .slice a28 l28 c28]) (by simp [results, Tryz.results14, go_sem, r0, r1, r2, r3, r4, r5, r6, r7, r8, r9, r10, r11, r12]) rfl ?_
  have X5 : Qx (W.heap.size + 1) V2 (((((((((((((V2.setCell ⟨W.heap.size + 1, 0, none⟩ (.bool f)).setCell ⟨W.heap.size + 1, 1, none⟩ (.int .i64 vk)).setCell ⟨W.heap.size + 1, 2, none⟩ (.int .i64 vn)).setCell ⟨W.heap.size + 1, 3, none⟩ (.string (cuT vt))).setCell ⟨W.heap.size + 1, 4, none⟩ (.bool vb)).setCell ⟨W.heap.size + 1, 5, none⟩ (.int .i64 ve)).setCell ⟨W.heap.size + 1, 6, none⟩ (.int .i64 k8)).setCell ⟨W.heap.size + 1, 7, none⟩ (.int .i64 m8)).setCell ⟨W.heap.size + 1, 8, none⟩ (.string t8)).setCell ⟨W.heap.size + 1, 9, none⟩ (.bool bb8)).setCell ⟨W.heap.size + 1, 10, none⟩ (.int .i64 er8)).setCell ⟨W.heap.size + 1, 11, none⟩ (.slice a18 l18 c18)).setCell ⟨W.heap.size + 1, 12, none⟩ (.slice a28 l28 c28)) := ((((((((((((((Qx.refl _ _).own _ _).own _ _).own _ _).own _ _).own _ _).own _ _).own _ _).own _ _).own _ _).own _ _).own _ _).own _ _).own _ _)
  exact ⟨k8, m8, t8, bb8, er8, a18, l18, c18, a28, l28, c28, rfl, Rdg.mono (fun b hb => by omega) _ _ (Rdg.on X5 (fun b hb => by omega) _ _ RB.out), Q4.out.viaq X5 (by omega)⟩
theorem cuT_sz (t : ByteArray) : (cuT t).size ≤ 250 := by
  unfold cuT
  by_cases h : 250 < t.size
  · rw [if_pos h]
    simp [ByteArray.size_extract]
    omega
  · rw [if_neg h]
    omega
theorem qx_setRow (V : World) (q : Nat) (cs : Array Value) : Qx q V (V.setRow q cs) := ⟨rfl, rfl, rfl, by simp [World.setRow], fun i hi hne => setRow_other V q i cs (fun e => hne (by rw [e]))⟩
theorem info35y : (Tryz.prog.info? 54).map (fun i => (i.zero, i.size, i.bytes)) = some (some (.agg zero23), 23, 264) := by kernel_rfl
theorem flat_y (y : Rv) : (flat Rv.L [y]).toArray = y.L.toArray := by simp [flat]
def ROp (w0 : World) (r : Nat) (x : Rv) (bs : List UInt8) : Prop := ∀ D W, Q w0 W → w0.heap.size ≤ r → Rr w0 r (bs ++ D) W → Calls Tryz.prog 47 #[.pointer (some ⟨r, 0, none⟩)] W fun e W' => e = .returned (.agg x.L.toArray) ∧ Rr w0 r D W' ∧ Qx r W W'
theorem own_qx {B r : Nat} {W W' : World} {v : Value} {L : List Rv} (h : Own Rv.L 54 23 B W v L) (q : Qx r W W') (hr : r < B) : Own Rv.L 54 23 B W' v L := by
  obtain ⟨hl, h⟩ := h
  refine ⟨hl, ?_⟩
  rcases h with h | ⟨g, cap, cur, hv, hb, hg, h1, h2, h3, h4⟩
  · exact .inl h
  · exact .inr ⟨g, cap, cur, hv, hb, (q.block g (heap_of hg) (fun e => by have := Option.some.inj e; omega)).trans hg, h1, h2, h3, h4⟩
theorem rr_grow {w0 : World} {r : Nat} {D : List UInt8} {W W' : World} {v : Value} (h : Rr w0 r D W) (hg : W.grownBy W' v.ownBlock) (hne : ∀ j, v.ownBlock = some j → r ≠ j) : Rr w0 r D W' := by
  obtain ⟨u, nd, hk, hs⟩ := h.h
  exact ⟨u, nd, (hg.block r (heap_of hk) (fun e => hne r e.symm rfl)).trans hk, hs⟩
theorem qx_grow {r : Nat} {w W W' : World} {v : Value} (h : Qx r w W) (hg : W.grownBy W' v.ownBlock) (hne : ∀ j, v.ownBlock = some j → w.heap.size ≤ j) : Qx r w W' :=
  ⟨hg.os.trans h.os, hg.tape.trans h.tape, hg.output.trans h.output, Nat.le_trans h.size hg.size, fun i hi hr => (hg.block i (Nat.lt_of_lt_of_le hi h.size) (fun e => by have := hne i e.symm; omega)).trans (h.block i hi hr)⟩
set_option maxHeartbeats 8000000 in
theorem rbatch_any (w0 : World) (r : Nat) (bn : UInt8) (xs : List Rv) (ob : Rv → List UInt8) (w : World) (hq : Q w0 w) (hr0 : w0.heap.size ≤ r) (hbn : bn.toNat = xs.length) (hl : xs.length ≤ 32) (ho : ∀ x ∈ xs, ROp w0 r x (ob x)) (h : Rr w0 r (bn :: xs.flatMap ob) w) :
    Calls Tryz.prog 24 #[.pointer (some ⟨r, 0, none⟩)] w fun e W' => ∃ v, e = .returned v ∧ Own Rv.L 54 23 w.heap.size W' v xs ∧ Qx r w W' := by
  obtain ⟨i0, HI⟩ := inf_of info35y
  have HI := hid HI
  have HC := hid (rcount1 w0 r 32 bn _ w hq (by omega) (by omega) (by decide) h)
  have HRL : Hid (r < w.heap.size) := hid h.lt
  have HQ0 := hid hq
  have HO := hid ho
  have HR0 := hid hr0
  rw [hbn] at HC
  clear h hq ho hbn hr0
  go_enter Tryz.func24, Tryz.ntmps24
  go_upto_region 3 with (go_at_call 46; refine HC.out.mono ?_; rintro e9 w1 ⟨rfl, hw9, hq9⟩; have HR := hid hw9; have HX := hid hq9; clear hw9 hq9)
  clear HC
  go_wp2_with fail
  go_loopw [3, 6] (fun o s W => ∃ (n : Nat), n ≤ xs.length ∧ s = .int .i64 n ∧ Hid (Own Rv.L 54 23 w.heap.size W o (xs.take n)) ∧ Hid (Rr w0 r ((xs.drop n).flatMap ob) W) ∧ Hid (Qx r w W)) (fun _ s _ => xs.length - (intOf s).toNat)
  case atStart => exact ⟨0, Nat.zero_le _, rfl, hid (own_nil _), by simpa using HR, HX⟩
  case round =>
    obtain ⟨n, hn, rfl, hown, hr9, hq9⟩ := hrel
    clear HR HX
    have HOW := hown
    have HR := hr9
    have HX := hq9
    clear hown hr9 hq9
    have HQ : Hid (Q w0 wr) := hid (HX.out.qq HQ0.out HR0.out)
    by_cases hlt : n < xs.length
    · have hlt' : (n : Int) < (xs.length : Int) := by omega
      have HT : Hid (xs.take (n + 1) = xs.take n ++ [xs[n]]) := hid (List.take_succ_eq_append_getElem hlt)
      have HD : Hid ((xs.drop n).flatMap ob = ob xs[n] ++ (xs.drop (n + 1)).flatMap ob) := hid (by rw [List.drop_eq_getElem_cons hlt, List.flatMap_cons])
      have HX1 := hid (HO.out _ (List.getElem_mem hlt))
      have HLN : Hid ((xs.take n).length = n) := hid (by simp; omega)
      generalize xs[n] = x at HT HD HX1
      rw [HD.out] at HR
      have HCall := hid (HX1.out _ wr HQ.out HR0.out HR.out)
      go_wp2_with (first
        | (go_at_call 47; refine HCall.out.mono ?_; rintro e9 V ⟨rfl, hw9, hq9⟩; have HRV := hid hw9; have HXV := hid hq9; clear hw9 hq9)
        | (with_reducible refine wpl_bsl 1 _ (by with_unfolding_all rfl) (by with_unfolding_all rfl) [x] (by decide) (by kernel_rfl) ?_)
        | (at_builtin; refine wpList_append_own (w := V.alloc (.cells (flat Rv.L [x]).toArray 54)) rfl _ _ 22 rfl w.heap.size 54 i0 (.agg zero23) 23 264 Tryz.underlying22 HI.out.1 HI.out.2.1 HI.out.2.2.1 HI.out.2.2.2 rfl (by decide) _ _ _ rfl ((own_qx HOW.out HXV.out HRL.out).alloc _) _ 1 1 x.L rfl rfl ?c1 ?c2 ?c3 ?c4 ?c5 ?_))
      case c1 => rw [flat_y]; exact news_new V x.L 54
      case c2 => exact x.ones
      case c3 => unfold maxLen; have := HLN.out; omega
      case c4 => have := HLN.out; omega
      case c5 => have := HX.out.size; have := HXV.out.size; simp; omega
      intro v3 w3 hown3 hgrow _
      have HO3 := hid (own_snoc' (enc := Rv.L) (x := x) hown3 (by have := HLN.out; omega))
      have HB := hid (((own_qx HOW.out HXV.out HRL.out).alloc (.cells (flat Rv.L [x]).toArray 54)).blk)
      have HR3 := hid (rr_grow (HRV.out.on ((Q.refl _).alloc (.cells (flat Rv.L [x]).toArray 54))) hgrow (fun j hj => by have := HB.out j hj; have := HRL.out; omega))
      have HX3 := hid (qx_grow ((HX.out.trans HXV.out).alloc (.cells (flat Rv.L [x]).toArray 54)) hgrow (fun j hj => HB.out j hj))
      clear hown3 hgrow HOW HR HX HRV HXV HCall HB
      go_wp2_with fail
      go_roundw
      case rel => exact ⟨n + 1, by omega, by go_num, hid (by rw [HT.out]; exact HO3.out), HR3, HX3⟩
      case measure => simp [intOf]; omega
    · have HN : Hid (xs.take n = xs) := hid (List.take_of_length_le (by omega))
      rw [HN.out] at HOW
      go_wp2_with fail
      go_ret
      exact ⟨_, rfl, HOW.out, HX.out⟩
set_option maxHeartbeats 4000000 in
theorem rbatch_nil (w0 : World) (r : Nat) (w : World) (h : Rr w0 r [] w) :
    Calls Tryz.prog 24 #[.pointer (some ⟨r, 0, none⟩)] w fun e W' => e = .returned (.slice none 0 0) ∧ Qx r w W' := by
  have HC := hid (rcount0 w0 r 32 w (by decide) h)
  clear h
  go_enter Tryz.func24, Tryz.ntmps24
  go_upto_region 3 with (go_at_call 46; refine HC.out.mono ?_; rintro e9 w1 ⟨rfl, hw9, hq9⟩; have HX := hid hq9; clear hw9 hq9)
  clear HC
  go_wp2_with fail
  go_loopw [3, 6] (fun o s W => o = .slice none 0 0 ∧ s = .int .i64 0 ∧ W = w1) (fun _ _ _ => 0)
  case atStart => exact ⟨rfl, rfl, rfl⟩
  case round =>
    obtain ⟨rfl, rfl, rfl⟩ := hrel
    go_wp2_with fail
    go_ret
    exact ⟨rfl, HX.out⟩
structure OpT (w : World) (x : Rv) (b : Bool) (bs : List UInt8) : Prop where
  may : ∀ V, Q w V → Calls Tryz.prog 37 #[.agg x.L.toArray] V fun e V' => e = .returned (.bool b) ∧ Q V V'
  wr : b = true → ∀ V p, WOp V p x bs
  rd : b = true → ∀ V r, ROp V r x bs
  len : bs.length ≤ 100000
theorem OpT.on {w V : World} {x : Rv} {b : Bool} {bs : List UInt8} (h : OpT w x b bs) (q : Q w V) : OpT V x b bs := ⟨fun U u => h.may U (q.trans u), h.wr, h.rd, h.len⟩
theorem encode_t (v : Value) (xs : List Rv) (mb : Rv → Bool) (ob : Rv → List UInt8) (w : World) (h : Sl Rv.L 23 w v xs) (ho : ∀ x ∈ xs, OpT w x (mb x) (ob x)) :
    Calls Tryz.prog 10 #[v] w fun e W' => EncP w (decide (xs.length ≤ 32) && xs.all mb) (vn xs.length ++ xs.flatMap ob) e W' :=
  encode_any v xs mb ob w h (fun x hx => (ho x hx).may) (fun x hx => (ho x hx).len) (fun ha x hx p hp => (ho x hx).wr (List.all_eq_true.1 ha x hx) w p)
def DecP (w : World) (xs : List Rv) (e : Ending) (W' : World) : Prop := Q w W' ∧ ∃ v, e = .returned (.tuple #[v, .int .i64 0]) ∧ Sl Rv.L 23 W' v xs
set_option maxHeartbeats 8000000 in
theorem decode_any (u : Value) (xs : List Rv) (mb : Rv → Bool) (ob : Rv → List UInt8) (w : World) (hl : xs.length ≤ 32) (ha : xs.all mb = true) (ho : ∀ x ∈ xs, OpT w x (mb x) (ob x)) (h : Sl eb 1 w u (vn xs.length ++ xs.flatMap ob)) :
    Calls Tryz.prog 12 #[u] w fun e W' => DecP w xs e W' := by
  have HS := hid h
  have HO := hid ho
  have HA := hid ha
  have HL := hid hl
  obtain ⟨au, cu, rfl, _, _⟩ := h.len
  have HR0 : Hid (Rr w w.heap.size (vn xs.length ++ xs.flatMap ob) (w.alloc (.cells #[.slice au (vn xs.length ++ xs.flatMap ob).length cu, .int .i64 0] 63))) := hid ⟨_, 0, heap_alloc_last w _, h⟩
  clear h ho ha hl
  generalize (vn xs.length ++ xs.flatMap ob).length = nu at HS HR0 ⊢
  rw [vn_lt (by have := HL.out; omega)] at HR0
  have QA : Hid (Q w (w.alloc (.cells #[.slice au nu cu, .int .i64 0] 63))) := hid ((Q.refl w).alloc _)
  have HGE : Hid (w.heap.size ≤ w.heap.size) := hid (Nat.le_refl _)
  have HBN : Hid ((UInt8.ofNat xs.length).toNat = xs.length) := hid (by have := HL.out; simp; omega)
  go_enter Tryz.func12, Tryz.ntmps12
  go_upto_region 2 with fail
  generalize w.alloc (.cells #[.slice au nu cu, .int .i64 0] 63) = w1 at HR0 QA ⊢
  obtain ⟨r, hr⟩ : ∃ r, w.heap.size = r := ⟨_, rfl⟩
  rw [hr] at HR0 ⊢
  have HRW : Hid (w.heap.size ≤ r) := hid (by omega)
  clear hr HGE
  have HB := hid (rbatch_any w r (UInt8.ofNat xs.length) xs ob w1 QA.out HRW.out HBN.out HL.out (fun x hx => (HO.out x hx).rd (List.all_eq_true.1 HA.out x hx) w r) HR0.out)
  go_upto_region 3 with (go_at_call 24; refine HB.out.mono ?_; rintro e9 w2 ⟨v, rfl, hw9, hq9⟩; have HV := hid (hw9.sl Rv.len (by decide)); have HQ2 := hid (hq9.qq QA.out HRW.out); clear hw9 hq9)
  clear HB HR0
  have HE := hid (encode_t v xs mb ob w2 HV.out (fun x hx => (HO.out x hx).on HQ2.out))
  rw [decide_eq_true HL.out, HA.out] at HE
  go_upto_region 4 with (go_at_call 10; refine HE.out.mono ?_; rintro e9 w3 ⟨hq9, he9, _⟩; obtain ⟨vb, rfl, hs9⟩ := he9 rfl; have HQ3 := hid hq9; have HVB := hid hs9; clear hq9 he9 hs9)
  have HEQ := hid (bytesEqual_any vb (.slice au nu cu) _ _ w3 HVB.out (HS.out.on (HQ2.out.trans HQ3.out)))
  rw [decide_eq_true rfl] at HEQ
  go_wp2_with (go_at_call 25; refine HEQ.out.mono ?_; rintro e9 w4 ⟨rfl, hq9⟩; have HQ4 := hid hq9; clear hq9)
  go_ret2
  exact ⟨HQ2.out.trans (HQ3.out.trans HQ4.out), v, rfl, (HV.out.on HQ3.out).on HQ4.out⟩
set_option maxHeartbeats 8000000 in
theorem decode_nil (w : World) : Calls Tryz.prog 12 #[.slice none 0 0] w fun e W' => e = .returned (.tuple #[.slice none 0 0, .int .i64 5]) ∧ Q w W' := by
  have HR0 : Hid (Rr w w.heap.size [] (w.alloc (.cells #[.slice none 0 0, .int .i64 0] 63))) := hid ⟨_, 0, heap_alloc_last w _, sl_nil w⟩
  have QA : Hid (Q w (w.alloc (.cells #[.slice none 0 0, .int .i64 0] 63))) := hid ((Q.refl w).alloc _)
  go_enter Tryz.func12, Tryz.ntmps12
  go_upto_region 2 with fail
  generalize w.alloc (.cells #[.slice none 0 0, .int .i64 0] 63) = w1 at HR0 QA ⊢
  obtain ⟨r, hr⟩ : ∃ r, w.heap.size = r := ⟨_, rfl⟩
  rw [hr] at HR0 ⊢
  have HRW : Hid (w.heap.size ≤ r) := hid (by omega)
  clear hr
  have HB := hid (rbatch_nil w r w1 HR0.out)
  go_upto_region 3 with (go_at_call 24; refine HB.out.mono ?_; rintro e9 w2 ⟨rfl, hq9⟩; have HQ2 := hid (hq9.qq QA.out HRW.out); clear hq9)
  clear HB HR0
  have HE := hid (encode_t (.slice none 0 0) [] (fun _ => true) (fun _ => []) w2 (sl_nil w2) (fun x hx => absurd hx (by simp)))
  go_upto_region 4 with (go_at_call 10; refine HE.out.mono ?_; rintro e9 w3 ⟨hq9, he9, _⟩; obtain ⟨vb, rfl, hs9⟩ := he9 rfl; have HQ3 := hid hq9; have HVB := hid hs9; clear hq9 he9 hs9)
  have HEQ := hid (bytesEqual_any vb (.slice none 0 0) _ [] w3 HVB.out (sl_nil w3))
  rw [decide_eq_false (by simp [vn_lt])] at HEQ
  go_wp2_with (go_at_call 25; refine HEQ.out.mono ?_; rintro e9 w4 ⟨rfl, hq9⟩; have HQ4 := hid hq9; clear hq9)
  go_ret2
  exact ⟨rfl, HQ2.out.trans (HQ3.out.trans HQ4.out)⟩
theorem own_qg {α : Type} {enc : α → List Value} {t : TypeId} {k B r : Nat} {W W' : World} {v : Value} {L : List α} (h : Own enc t k B W v L) (q : Qx r W W') (hr : r < B) : Own enc t k B W' v L := h.grown q (.inr fun e => by have := h.blk _ e; omega)
theorem rq_grow {w0 : World} {r : Nat} {D : List UInt8} {nd : Int} {W W' : World} {v : Value} (h : Rq w0 r D nd W) (hg : W.grownBy W' v.ownBlock) (hne : ∀ j, v.ownBlock = some j → r ≠ j) : Rq w0 r D nd W' := by
  obtain ⟨u, hb, hs⟩ := h.h
  exact ⟨u, (hg.block r h.lt (fun e => hne _ e.symm rfl)).trans hb, hs⟩
theorem wpl_bs1 {w : World} {ops : Array Oper} {rest : List Oper} {o : Oper} {a : Act} {Q : Exit → Act → World → Prop} (t e : TypeId) (k : Nat) (z C : Array Value) (hu : Tryz.prog.underlying t = some (.slice e)) (hi : (Tryz.prog.info? e).map (fun i => (i.zero, i.size)) = some (some (.agg z), k)) (hk : 0 < k ∧ k ≤ 1000)
    (parts : Array (Nat × Operand)) (ho : o.op = .buildSlice t 1 parts) (hw : Region.wanted o (yielded ops a.tmps) = true)
    (hf : Instr.fill (fun i => some (i * k, k)) ((Array.range (1 * k)).map (z[· % z.size]!)) (parts.map fun (i, x) => (i, a.eval x)).toList = some C)
    (h : wpList Tryz.prog ops Q rest (a.put o.dst (.slice (some ⟨w.heap.size, 0, none⟩) 1 1)) (w.alloc (.cells C e))) : wpList Tryz.prog ops Q (o :: rest) a w := by
  simp only [wpList, hw, if_true]
  cases hq : Tryz.prog.info? e with
  | none =>
    rw [hq] at hi
    cases hi
  | some ie =>
    rw [hq] at hi
    simp only [Option.map_some, Option.some.injEq, Prod.mk.injEq] at hi
    obtain ⟨hz, hs⟩ := hi
    refine .inl (wp_buildSlice t e 1 parts ho C ie (.agg z) hu hq hz (by rw [hs]; omega) (by rw [hs]; omega) ?_ h)
    rw [hs]
    exact hf
theorem info96z : (Tryz.prog.info? 96).map (fun i => (i.zero, i.size)) = some (some (.agg z96), 5) := by kernel_rfl
theorem info96y : (Tryz.prog.info? 96).map (fun i => (i.zero, i.size, i.bytes)) = some (some (.agg z96), 5, 40) := by kernel_rfl
def okR (x : Rf) : Prop := x.1.length ≤ 200 ∧ (0 ≤ x.2.1 ∧ x.2.1 < 9223372036854775808) ∧ (0 ≤ x.2.2.1 ∧ x.2.2.1 < 9223372036854775808)
theorem rref_any (w0 : World) (r : Nat) (x : Rf) (D : List UInt8) (nd : Int) (w : World) (hq : Q w0 w) (hr0 : w0.heap.size ≤ r) (hx : okR x) (h : Rq w0 r (encR x ++ D) nd w) :
    Calls Tryz.prog 112 #[.pointer (some ⟨r, 0, none⟩)] w fun e W' => e = .returned (.agg (rf x).toArray) ∧ Rq w0 r D nd W' ∧ Qx r w W' := by
  obtain ⟨s, row, col, xa, xb⟩ := x
  obtain ⟨h1, ⟨h2, h3⟩, h4, h5⟩ := hx
  simp only at h1 h2 h3 h4 h5
  obtain ⟨a, rfl⟩ := Int.eq_ofNat_of_zero_le h2
  obtain ⟨b, rfl⟩ := Int.eq_ofNat_of_zero_le h4
  simp only [encR, List.append_assoc, Int.toNat_natCast] at h
  exact rrefq w0 r s a b xa xb D nd w hq hr0 h1 (by omega) (by omega) h
theorem inf_of96 : ∃ i, Tryz.prog.info? 96 = some i ∧ i.zero = some (.agg z96) ∧ i.size = 5 ∧ i.bytes = 40 := by
  have h := info96y
  cases e : Tryz.prog.info? 96 with
  | none => rw [e] at h; cases h
  | some i =>
    rw [e] at h
    simp only [Option.map_some, Option.some.injEq, Prod.mk.injEq] at h
    exact ⟨i, rfl, h.1, h.2.1, h.2.2⟩
theorem rf_ones (x : Rf) : ∀ u ∈ rf x, u.oneCell' = true := by
  intro u hu
  simp only [rf, List.mem_cons, List.not_mem_nil, or_false] at hu
  rcases hu with rfl | rfl | rfl | rfl | rfl <;> rfl
set_option maxHeartbeats 8000000 in
theorem rrefs_any (w0 : World) (r : Nat) (xs : List Rf) (D : List UInt8) (nd : Int) (w : World) (hq : Q w0 w) (hr0 : w0.heap.size ≤ r) (hl : xs.length ≤ 2) (ho : ∀ x ∈ xs, okR x) (h : Rq w0 r (xs.flatMap encR ++ D) nd w) :
    Calls Tryz.prog 93 #[.pointer (some ⟨r, 0, none⟩), .int .i64 xs.length] w fun e W' => ∃ v, e = .returned v ∧ Own rf 96 5 w.heap.size W' v xs ∧ Rq w0 r D nd W' ∧ Qx r w W' := by
  obtain ⟨i0, HI⟩ := inf_of96
  have HI := hid HI
  have HRL : Hid (r < w.heap.size) := hid h.lt
  have HQ0 := hid hq
  have HO := hid ho
  have HR0 := hid hr0
  have HRS := hid h
  clear h hq ho hr0
  go_enter Tryz.func93, Tryz.ntmps93
  go_wp2_with fail
  go_loopw [5, 7] (fun o s W => ∃ (n : Nat), n ≤ xs.length ∧ s = .int .i64 n ∧ Hid (Own rf 96 5 w.heap.size W o (xs.take n)) ∧ Hid (Rq w0 r ((xs.drop n).flatMap encR ++ D) nd W) ∧ Hid (Qx r w W)) (fun _ s _ => xs.length - (intOf s).toNat)
  case atStart => exact ⟨0, Nat.zero_le _, rfl, hid (own_nil _), by simpa using HRS, hid (Qx.refl _ _)⟩
  case round =>
    obtain ⟨n, hn, rfl, hown, hr9, hq9⟩ := hrel
    clear HRS
    have HOW := hown
    have HR := hr9
    have HX := hq9
    clear hown hr9 hq9
    have HQ : Hid (Q w0 wr) := hid (HX.out.qq HQ0.out HR0.out)
    by_cases hlt : n < xs.length
    · have hlt' : (n : Int) < (xs.length : Int) := by omega
      have HT : Hid (xs.take (n + 1) = xs.take n ++ [xs[n]]) := hid (List.take_succ_eq_append_getElem hlt)
      have HD : Hid ((xs.drop n).flatMap encR ++ D = encR xs[n] ++ ((xs.drop (n + 1)).flatMap encR ++ D)) := hid (by rw [List.drop_eq_getElem_cons hlt, List.flatMap_cons, List.append_assoc])
      have HX1 := hid (HO.out _ (List.getElem_mem hlt))
      have HLN : Hid ((xs.take n).length = n) := hid (by simp; omega)
      generalize xs[n] = x at HT HD HX1
      rw [HD.out] at HR
      have HCall := hid (rref_any w0 r x _ nd wr HQ.out HR0.out HX1.out HR.out)
      go_wp2_with (first
        | (go_at_call 112; refine HCall.out.mono ?_; rintro e9 V ⟨rfl, hw9, hq9⟩; have HRV := hid hw9; have HXV := hid hq9; clear hw9 hq9)
        | (with_reducible refine wpl_bs1 37 96 5 z96 (rf x).toArray Tryz.underlying37 info96z (by decide) _ (by with_unfolding_all rfl) (by with_unfolding_all rfl) (by kernel_rfl) ?_)
        | (at_builtin; refine wpList_append_own (w := V.alloc (.cells (rf x).toArray 96)) rfl _ _ 37 rfl w.heap.size 96 i0 (.agg z96) 5 40 Tryz.underlying37 HI.out.1 HI.out.2.1 HI.out.2.2.1 HI.out.2.2.2 rfl (by decide) _ _ _ rfl ((own_qg HOW.out HXV.out HRL.out).alloc _) _ 1 1 (rf x) rfl rfl ?c1 ?c2 ?c3 ?c4 ?c5 ?_))
      case c1 => exact news_new V (rf x) 96
      case c2 => exact rf_ones x
      case c3 => unfold maxLen; have := HLN.out; omega
      case c4 => have := HLN.out; omega
      case c5 => have := HX.out.size; have := HXV.out.size; simp; omega
      intro v3 w3 hown3 hgrow _
      have HO3 := hid (own_snoc' (enc := rf) (x := x) hown3 (by have := HLN.out; omega))
      have HB := hid (((own_qg HOW.out HXV.out HRL.out).alloc (.cells (rf x).toArray 96)).blk)
      have HR3 := hid (rq_grow (HRV.out.on ((Q.refl _).alloc (.cells (rf x).toArray 96))) hgrow (fun j hj => by have := HB.out j hj; have := HRL.out; omega))
      have HX3 := hid (qx_grow ((HX.out.trans HXV.out).alloc (.cells (rf x).toArray 96)) hgrow (fun j hj => HB.out j hj))
      clear hown3 hgrow HOW HR HX HRV HXV HCall HB
      go_wp2_with fail
      go_roundw
      case rel => exact ⟨n + 1, by omega, by go_num, hid (by rw [HT.out]; exact HO3.out), HR3, HX3⟩
      case measure => simp [intOf]; omega
    · have HN : Hid (xs.take n = xs) := hid (List.take_of_length_le (by omega))
      rw [HN.out] at HOW
      have HD0 : Hid ((xs.drop n).flatMap encR ++ D = D) := hid (by rw [List.drop_of_length_le (by omega)]; rfl)
      rw [HD0.out] at HR
      go_wp2_with fail
      go_ret
      exact ⟨_, rfl, HOW.out, HR.out, HX.out⟩
def okD : Ex → Prop
  | .mk k n t b e rs ks => (
    (k = 1 ∧ (0 ≤ n ∧ n < 9223372036854775808) ∧ t = [] ∧ b = false ∧ e = 0 ∧ rs = [] ∧ ks = []) ∨
    (k = 2 ∧ n = 0 ∧ t.length ≤ 200 ∧ b = false ∧ e = 0 ∧ rs = [] ∧ ks = []) ∨
    (k = 3 ∧ n = 0 ∧ t = [] ∧ e = 0 ∧ rs = [] ∧ ks = []) ∨
    (k = 4 ∧ n = 0 ∧ t = [] ∧ b = false ∧ (0 ≤ e ∧ e ≤ 7) ∧ rs = [] ∧ ks = []) ∨
    (k = 5 ∧ n = 0 ∧ t = [] ∧ b = false ∧ e = 0 ∧ (∃ x, rs = [x] ∧ okR x) ∧ ks = []) ∨
    (k = 6 ∧ n = 0 ∧ t = [] ∧ b = false ∧ e = 0 ∧ (∃ x y, rs = [x, y] ∧ okR x ∧ okR y) ∧ ks = []) ∨
    (k = 7 ∧ n = 0 ∧ t = [] ∧ b = false ∧ e = 0 ∧ rs = [] ∧ ks.length = 1) ∨
    (k = 8 ∧ n = 0 ∧ t.length ≤ 200 ∧ b = false ∧ e = 0 ∧ rs = [] ∧ ks.length = 2) ∨
    (k = 9 ∧ n = 0 ∧ t.length ≤ 200 ∧ b = false ∧ e = 0 ∧ rs = [] ∧ ks.length ≤ 30)) ∧ okDL ks
  where
  okDL : List Ex → Prop
  | [] => True
  | x :: xs => okD x ∧ okDL xs
theorem okD_kid : ∀ {ks : List Ex}, okD.okDL ks → ∀ i (h : i < ks.length), okD ks[i]
  | [], _, i, h => absurd h (by simp)
  | x :: xs, hk, i, h => by
    rw [okD.okDL] at hk
    cases i with
    | zero => exact hk.1
    | succ i => exact okD_kid hk.2 i (by simpa using h)
def RdT (w0 : World) (r : Nat) (W : World) (X : Ex) (D : List UInt8) (nd : Int) (e : Ending) (W' : World) : Prop :=
  ∃ v, e = .returned v ∧ Rdg (fun b => W.heap.size ≤ b) W' X v ∧ Rq w0 r D (nd + nodes X) W' ∧ Qx r W W'
structure TI (w : World) (W : World) (o : Value) (ks : List Ex) (Ls : List V7) : Prop where
  ow : Own enc7 40 7 w.heap.size W o Ls
  ln : Ls.length ≤ ks.length
  rd : ∀ i (h : i < ks.length) (h' : i < Ls.length), Rdg (fun b => w.heap.size ≤ b ∧ o.ownBlock ≠ some b) W ks[i] (agg7 Ls[i])
theorem TI.call {w W V : World} {o : Value} {ks : List Ex} {Ls : List V7} {r : Nat} (h : TI w W o ks Ls) (q : Qx r W V) (hr : r < w.heap.size) : TI w V o ks Ls :=
  ⟨own_qg h.ow q hr, h.ln, fun i h1 h2 => Rdg.on q (fun b hb => by omega) _ _ (h.rd i h1 h2)⟩
theorem TI.app {w wr V w3 : World} {o v3 : Value} {ks : List Ex} {Ls : List V7} {o1 : Obj} (h : TI w V o ks Ls) (hwr : w.heap.size ≤ wr.heap.size) (hlt : ∀ j, o.ownBlock = some j → j < wr.heap.size) (hl : Ls.length < ks.length) (x : V7)
    (R8 : Rdg (fun b => wr.heap.size ≤ b) V ks[Ls.length] (agg7 x)) (hgrow : (V.alloc o1).grownBy w3 o.ownBlock) (ow3 : Own enc7 40 7 w.heap.size w3 v3 (Ls ++ [x])) (hat : v3.ownBlock = o.ownBlock ∨ v3.ownBlock = some (V.alloc o1).heap.size) : TI w w3 v3 ks (Ls ++ [x]) := by
  have hsA : (V.alloc o1).heap.size = V.heap.size + 1 := by simp
  obtain ⟨r9, Qr, _, hro⟩ := grown_qx (n := 0) hgrow (Nat.zero_le _) (fun _ _ => Nat.zero_le _)
  have QA : ∀ r, Qx r V (V.alloc o1) := fun r => (Qx.refl r _).alloc _
  have fin : ∀ {z : Ex} {v : Value} {gg : Nat → Prop}, (∀ b, gg b → w.heap.size ≤ b ∧ o.ownBlock ≠ some b ∧ b < V.heap.size) → Rdg gg V z v → Rdg (fun b => w.heap.size ≤ b ∧ v3.ownBlock ≠ some b) w3 z v := by
    intro z v gg hg hz
    refine Rdg.mono (g := gg) (fun b hb => ⟨(hg b hb).1, fun e => ?_⟩) _ _ (Rdg.on Qr (fun b hb e => ?_) _ _ (Rdg.on (QA (V.heap.size + 1)) (fun b hb => by have := (hg b hb).2.2; omega) _ _ hz))
    · subst e
      rcases hro with e' | e'
      · exact (hg _ hb).2.1 e'
      · have := (hg _ hb).2.2; omega
    · rcases hat with e' | e'
      · rw [e'] at e; exact (hg b hb).2.1 e
      · rw [e'] at e
        have := Option.some.inj e
        have := (hg b hb).2.2
        omega
  refine ⟨ow3, by simp; omega, fun i h1 h2 => ?_⟩
  by_cases hi : i < Ls.length
  · rw [List.getElem_append_left hi]
    exact fin (gg := fun b => (w.heap.size ≤ b ∧ o.ownBlock ≠ some b) ∧ b < V.heap.size) (fun b hb => ⟨hb.1.1, hb.1.2, hb.2⟩) (Rdg.in _ _ (h.rd i h1 hi))
  · have e : i = Ls.length := by simp at h2; omega
    subst e
    rw [List.getElem_append_right (by omega)]
    simp only [Nat.sub_self, List.getElem_cons_zero]
    refine fin (gg := fun b => wr.heap.size ≤ b ∧ b < V.heap.size) (fun b hb => ⟨by omega, fun e => ?_, hb.2⟩) (Rdg.in _ _ R8)
    have := hlt _ e
    omega
theorem lies9 {kv : Value} {g n m l cap : Nat} (hat : kv.ownBlock = some g ∨ g = n) (e : m = n) : (Value.slice (some ⟨g, 0, none⟩) l cap).ownBlock = kv.ownBlock ∨ (Value.slice (some ⟨g, 0, none⟩) l cap).ownBlock = some m := by
  subst e
  rcases hat with h | h
  · exact .inl h.symm
  · exact .inr (by rw [h]; rfl)
def z7 : Array Value := #[.int .i64 0, .int .i64 0, .string ⟨#[]⟩, .bool false, .int .i64 0, .slice none 0 0, .slice none 0 0]
theorem info40y : (Tryz.prog.info? 40).map (fun i => (i.zero, i.size, i.bytes)) = some (some (.agg z7), 7, 96) := by kernel_rfl
theorem info40z : (Tryz.prog.info? 40).map (fun i => (i.zero, i.size)) = some (some (.agg z7), 7) := by kernel_rfl
theorem inf_of40 : ∃ i, Tryz.prog.info? 40 = some i ∧ i.zero = some (.agg z7) ∧ i.size = 7 ∧ i.bytes = 96 := by
  have h := info40y
  cases e : Tryz.prog.info? 40 with
  | none => rw [e] at h; cases h
  | some i =>
    rw [e] at h
    simp only [Option.map_some, Option.some.injEq, Prod.mk.injEq] at h
    exact ⟨i, rfl, h.1, h.2.1, h.2.2⟩
def RdTs (w0 : World) (r : Nat) (W : World) (ks : List Ex) (D : List UInt8) (nd : Int) (e : Ending) (W' : World) : Prop :=
  ∃ v Ls, e = .returned v ∧ TI W W' v ks Ls ∧ Ls.length = ks.length ∧ Rq w0 r D (nd + nodes.nodesL ks) W' ∧ Qx r W W'
set_option maxHeartbeats 8000000 in
theorem rtrees_any (w0 : World) (r : Nat) (ks : List Ex) (D : List UInt8) (nd : Int) (w : World) (hq : Q w0 w) (hr0 : w0.heap.size ≤ r) (hl : ks.length ≤ 30)
    (ho : ∀ i (hi : i < ks.length) (E : List UInt8) (n' : Int) (W : World), Q w0 W → n' = nd + nodes.nodesL (ks.take i) → Rq w0 r (encT ks[i] ++ E) n' W → Calls Tryz.prog 60 #[.pointer (some ⟨r, 0, none⟩)] W fun e W' => RdT w0 r W ks[i] E n' e W')
    (h : Rq w0 r (encT.encTL ks ++ D) nd w) :
    Calls Tryz.prog 94 #[.pointer (some ⟨r, 0, none⟩), .int .i64 ks.length] w fun e W' => RdTs w0 r w ks D nd e W' := by
  obtain ⟨i0, HI⟩ := inf_of40
  have HI := hid HI
  have HRL : Hid (r < w.heap.size) := hid h.lt
  have HQ0 := hid hq
  have HO := hid ho
  have HR0 := hid hr0
  have HRS := hid h
  clear h hq ho hr0
  go_enter Tryz.func94, Tryz.ntmps94
  go_wp2_with fail
  go_loopw [5, 7] (fun o s W => ∃ (n : Nat) (Ls : List V7), n ≤ ks.length ∧ s = .int .i64 n ∧ Hid (Ls.length = n) ∧ Hid (TI w W o ks Ls) ∧ Hid (Rq w0 r (encT.encTL (ks.drop n) ++ D) (nd + nodes.nodesL (ks.take n)) W) ∧ Hid (Qx r w W)) (fun _ s _ => ks.length - (intOf s).toNat)
  case atStart => exact ⟨0, [], Nat.zero_le _, rfl, hid rfl, hid ⟨own_nil _, Nat.zero_le _, fun i _ h => absurd h (by simp)⟩, by simpa [nodes.nodesL] using HRS, hid (Qx.refl _ _)⟩
  case round =>
    obtain ⟨n, Ls, hn, rfl, hln, hti, hr9, hq9⟩ := hrel
    clear HRS
    have hlen := hln.out
    subst hlen
    have HLN := hln
    have HT := hti
    have HR := hr9
    have HX := hq9
    clear hln hti hr9 hq9
    have HQ : Hid (Q w0 wr) := hid (HX.out.qq HQ0.out HR0.out)
    by_cases hlt : Ls.length < ks.length
    · have hlt' : (Ls.length : Int) < (ks.length : Int) := by omega
      have HD : Hid (encT.encTL (ks.drop Ls.length) ++ D = encT ks[Ls.length] ++ (encT.encTL (ks.drop (Ls.length + 1)) ++ D)) := hid (by rw [List.drop_eq_getElem_cons hlt, encTL_cons, List.append_assoc])
      have HND : Hid (nd + nodes.nodesL (ks.take (Ls.length + 1)) = nd + nodes.nodesL (ks.take Ls.length) + nodes ks[Ls.length]) := hid (by rw [nodesL_take ks Ls.length hlt]; omega)
      rw [HD.out] at HR
      have HCall := hid (HO.out Ls.length hlt _ _ wr HQ.out rfl HR.out)
      unfold RdT at HCall
      go_wp2_with (first
        | (go_at_call 60; refine HCall.out.mono ?_; rintro e9 V ⟨v8, rfl, hd9, hw9, hq9⟩; have HRV := hid hw9; have HXV := hid hq9; have HDV := hid hd9; obtain ⟨k8, m8, t8, bb8, er8, a18, l18, c18, a28, l28, c28, hsh⟩ := (Rdg.rd _ _ hd9).shape; subst hsh; clear hw9 hq9 hd9)
        | (with_reducible refine wpl_bs1 38 40 7 z7 #[.int .i64 k8, .int .i64 m8, .string t8, .bool bb8, .int .i64 er8, .slice a18 l18 c18, .slice a28 l28 c28] Tryz.underlying38 info40z (by decide) _ (by with_unfolding_all rfl) (by with_unfolding_all rfl) (by kernel_rfl) ?_)
        | (at_builtin; refine wpList_append_lies (w := V.alloc (.cells #[.int .i64 k8, .int .i64 m8, .string t8, .bool bb8, .int .i64 er8, .slice a18 l18 c18, .slice a28 l28 c28] 40)) rfl _ _ 38 rfl w.heap.size 40 i0 (.agg z7) 7 96 Tryz.underlying38 HI.out.1 HI.out.2.1 HI.out.2.2.1 HI.out.2.2.2 rfl (by decide) _ _ _ rfl ((HT.out.call HXV.out HRL.out).ow.alloc _) _ 1 1 [.int .i64 k8, .int .i64 m8, .string t8, .bool bb8, .int .i64 er8, .slice a18 l18 c18, .slice a28 l28 c28] rfl rfl ?c1 ?c2 (by decide) ?c3 ?c4 ?c5 (V.heap.size + 1) ?c6 ?_))
      case c1 => exact news_new V [.int .i64 k8, .int .i64 m8, .string t8, .bool bb8, .int .i64 er8, .slice a18 l18 c18, .slice a28 l28 c28] 40
      case c2 => exact one7 _ _ _ _ _ _ _ _ _ _ _
      case c3 => unfold maxLen; have := HLN.out; omega
      case c4 => have := HLN.out; omega
      case c5 => have := HX.out.size; have := HXV.out.size; simp; omega
      case c6 => simp
      intro g3 cap3 w3 hown3 hgrow hlies _
      have HO3 := hid (own_snoc (enc := enc7) (x := (⟨.int .i64 k8, .int .i64 m8, .string t8, .bool bb8, .int .i64 er8, .slice a18 l18 c18, .slice a28 l28 c28⟩ : V7)) hown3)
      have HT3 := hid ((HT.out.call HXV.out HRL.out).app (o1 := .cells #[.int .i64 k8, .int .i64 m8, .string t8, .bool bb8, .int .i64 er8, .slice a18 l18 c18, .slice a28 l28 c28] 40) HX.out.size HT.out.ow.lt hlt ⟨.int .i64 k8, .int .i64 m8, .string t8, .bool bb8, .int .i64 er8, .slice a18 l18 c18, .slice a28 l28 c28⟩ HDV.out hgrow HO3.out (lies9 hlies (by simp)))
      have HB := hid ((HT.out.call HXV.out HRL.out).ow.blk)
      have HR3 := hid (rq_grow (HRV.out.on ((Q.refl _).alloc (.cells #[.int .i64 k8, .int .i64 m8, .string t8, .bool bb8, .int .i64 er8, .slice a18 l18 c18, .slice a28 l28 c28] 40))) hgrow (fun j hj => by have := HB.out j hj; have := HRL.out; omega))
      have HX3 := hid (qx_grow ((HX.out.trans HXV.out).alloc (.cells #[.int .i64 k8, .int .i64 m8, .string t8, .bool bb8, .int .i64 er8, .slice a18 l18 c18, .slice a28 l28 c28] 40)) hgrow (fun j hj => HB.out j hj))
      clear hown3 hgrow hlies HT HR HX HRV HXV HDV HCall HB
      go_wp2_with fail
      go_roundw
      case rel => exact ⟨Ls.length + 1, _, by omega, by go_num, hid (by simp), HT3, hid (by rw [HND.out]; exact HR3.out), HX3⟩
      case measure => simp [intOf]; omega
    · have hnn : Ls.length = ks.length := by omega
      rw [hnn] at HR
      have HD0 : Hid (encT.encTL (ks.drop ks.length) ++ D = D) := hid (by rw [List.drop_of_length_le (by omega), encT.encTL]; rfl)
      rw [HD0.out, List.take_length] at HR
      go_wp2_with fail
      go_ret
      exact ⟨_, Ls, rfl, HT.out, hnn, HR.out, HX.out⟩
theorem rtree_end {w w0 : World} {r q q2 : Nat} {D : List UInt8} {nd nd2 : Int} {X : Ex} {C : Array Value} {W : World} {p : Prop}
    (h : Hid (Sr w w0 r q q2 40 z7 40 D nd C W)) (hw2 : w.heap.size ≤ q2) (hq2 : q2 ≠ r) (hsz : C.size = 7) (h1 : C.all (·.oneCell') = true) (hnd : nd2 = nd) (hrd : Rdg (fun b => w.heap.size ≤ b ∧ b ≠ q2) W X (.agg C))
    (k : ∀ C' : Array Value, Hid (Bq W q C' 40 ∧ Bq W q2 z7 40 ∧ (Tryz.prog.info? 40).map (·.size) = some C'.size ∧ z7.size = C'.size ∧ C'.all (·.oneCell') = true) → Hid (Bq (W.setRow q2 C') q2 C' 40 ∧ Rdg (fun b => w.heap.size ≤ b) (W.setRow q2 C') X (.agg C') ∧ Rq w0 r D nd2 (W.setRow q2 C') ∧ Qx r w (W.setRow q2 C')) → p) : p := by
  have f := h.out.fin hw2 hq2
  refine k C (hid ⟨h.out.c, h.out.z, by rw [hsz]; exact info40, by rw [hsz]; rfl, h1⟩) (hid ⟨f.1, ?_, by rw [hnd]; exact f.2.1, f.2.2⟩)
  exact Rdg.mono (fun b hb => hb.1) _ _ (Rdg.on (qx_setRow W q2 C) (fun b hb => hb.2) _ _ hrd)
theorem slg_nil (g : Nat → Prop) (W : World) : Slg g W (.slice none 0 0) [] := ⟨none, 0, rfl, Nat.le_refl _, Nat.zero_le _, fun h => absurd h (by simp)⟩
theorem slg_own {g : Nat → Prop} {B : Nat} {W : World} {v : Value} {L : List Rf} (h : Own rf 96 5 B W v L) (hg : ∀ b, B ≤ b → g b) : Slg g W v L := by
  rcases Nat.eq_zero_or_pos L.length with h0 | h0
  · obtain ⟨ao, cap, hv, h1, h2, _⟩ := h.sl rf_len (by decide)
    exact ⟨ao, cap, hv, h1, h2, fun h9 => by omega⟩
  · obtain ⟨q, cap, rfl, hB, hlt, h1, h2⟩ := h.shape h0
    exact ⟨some ⟨q, 0, none⟩, cap, rfl, h1, h2, fun _ => ⟨q, 0, rfl, hg q hB, fun i hi => by
      have := h.cell rf_len hi
      simpa using this⟩⟩
theorem own_shape {α : Type} {enc : α → List Value} {t : TypeId} {k B : Nat} {W : World} {v : Value} {L : List α} (h : Own enc t k B W v L) (hk : ∀ x, (enc x).length = k) (hp : 0 < k) : ∃ a c, v = .slice a L.length c := by
  obtain ⟨ao, cap, hv, _⟩ := h.sl hk hp
  exact ⟨ao, cap, hv⟩
theorem rdg_leaf (g : Nat → Prop) (W : World) (k n : Int) (t : List UInt8) (b : Bool) (e : Int) : Rdg g W (.mk k n t b e [] []) (.agg #[.int .i64 k, .int .i64 n, .string ⟨t.toArray⟩, .bool b, .int .i64 e, .slice none 0 0, .slice none 0 0]) :=
  rdg_mk (B := 0) (Ls := []) k n rfl b e (slg_nil g W) (own_nil W) rfl (fun j e => by cases e) (fun i h _ => absurd h (by simp))
theorem rdg_refs {g : Nat → Prop} {W : World} {B : Nat} (k : Int) {rs : List Rf} {rv : Value} (h : Own rf 96 5 B W rv rs) (hg : ∀ b, B ≤ b → g b) : Rdg g W (.mk k 0 [] false 0 rs []) (.agg #[.int .i64 k, .int .i64 0, .string ⟨#[]⟩, .bool false, .int .i64 0, rv, .slice none 0 0]) :=
  rdg_mk (B := 0) (Ls := []) (ks := []) (t := []) k 0 rfl false 0 (slg_own h hg) (own_nil W) rfl (fun j e => by cases e) (fun i h _ => absurd h (by simp))
theorem rdg_kids {g : Nat → Prop} {W wb : World} {v : Value} {ks : List Ex} {Ls : List V7} (k : Int) (t : List UInt8) (h : TI wb W v ks Ls) (hl : Ls.length = ks.length) (hg : ∀ b, wb.heap.size ≤ b → g b) : Rdg g W (.mk k 0 t false 0 [] ks) (.agg #[.int .i64 k, .int .i64 0, .string ⟨t.toArray⟩, .bool false, .int .i64 0, .slice none 0 0, v]) :=
  rdg_mk k 0 rfl false 0 (slg_nil g W) h.ow hl.symm (fun j e => hg _ (h.ow.blk j e)) (fun i h1 h2 => Rdg.mono (fun b hb => hg b hb.1) _ _ (h.rd i h1 h2))
theorem all7 (k n : Int) (t : ByteArray) (b : Bool) (e : Int) (a1 : Option Addr) (l1 c1 : Nat) (a2 : Option Addr) (l2 c2 : Nat) : (#[.int .i64 k, .int .i64 n, .string t, .bool b, .int .i64 e, .slice a1 l1 c1, .slice a2 l2 c2] : Array Value).all (·.oneCell') = true := by kernel_rfl
def encK (k n : Int) (t : List UInt8) (b : Bool) (e : Int) (rs : List Rf) (ks : List Ex) : List UInt8 :=
  if k = 1 then vn (u64N n) else if k = 2 then vn t.length ++ t else if k = 3 then vn (if b then 1 else 0)
    else if k = 4 then vn e.toNat else if k = 5 ∨ k = 6 then rs.flatMap encR else if k = 7 then encT.encTL ks
    else if k = 8 then vn t.length ++ (t ++ encT.encTL ks) else vn t.length ++ (t ++ (vn ks.length ++ encT.encTL ks))
theorem encT_k (k n : Int) (t : List UInt8) (b : Bool) (e : Int) (rs : List Rf) (ks : List Ex) : encT (.mk k n t b e rs ks) = vn k.toNat ++ encK k n t b e rs ks := by rw [encT]; rfl
set_option maxHeartbeats 16000000 in
theorem rtree_all (w0 : World) (r : Nat) (hr0 : w0.heap.size ≤ r) : ∀ (s : Nat) (X : Ex) (D : List UInt8) (nd : Int) (w : World), SizeOf.sizeOf X ≤ s → okD X → Q w0 w → 0 ≤ nd → nd + nodes X ≤ 200 → Rq w0 r (encT X ++ D) nd w →
    Calls Tryz.prog 60 #[.pointer (some ⟨r, 0, none⟩)] w fun e W' => RdT w0 r w X D nd e W' := by
  intro s
  induction s with
  | zero =>
    intro X D nd w hs
    cases X with
    | mk k n t b e rs ks => simp at hs
  | succ s ih =>
    intro X D nd w hs hX hq h0 hN h
    obtain ⟨k, n, t, b, e, rs, ks⟩ := X
    rw [encT_k, List.append_assoc] at h
    have HND : Hid (nd + ((nodes (.mk k n t b e rs ks) : Nat) : Int) = nd + 1 + (nodes.nodesL ks : Int)) := hid (by rw [nodes]; omega)
    rw [HND.out] at hN
    have hlt : r < w.heap.size := h.lt
    rw [okD] at hX
    have HQ := hid hq
    have IH := hid (fun (i : Nat) (hi : i < ks.length) (E : List UInt8) (n' : Int) (W : World) (q : Q w0 W) (e9 : n' = nd + 1 + (nodes.nodesL (ks.take i) : Int)) (h : Rq w0 r (encT ks[i] ++ E) n' W) => ih ks[i] E n' W (by have := kid_size (k := k) (n := n) (t := t) (b := b) (e := e) (rs := rs) i hi; omega) (okD_kid hX.2 i hi) q (by omega) (by have h1 := nodesL_take ks i hi; have h2 := nodesL_take_le ks (i + 1); omega) h)
    replace hX := hX.1
    have hk9 : 1 ≤ k ∧ k ≤ 9 := by rcases hX with h | h | h | h | h | h | h | h | h <;> (have := h.1; omega)
    have HK : Hid ((k.toNat : Int) = k ∧ k.toNat ≤ 9) := hid (by omega)
    have HX := hid hX
    clear hX ih hs hk9 hq
    have HR := hid h
    clear h
    generalize hE : encK k n t b e rs ks = E at HR
    have HE := hid hE
    clear hE
    have hn1 : nd + 1 ≤ 200 := by omega
    have hn2 : ¬ 200 < nd + 1 := by omega
    go_enter Tryz.func60, Tryz.ntmps60
    go_upto_region 1 with fail
    obtain ⟨q2, e2⟩ : ∃ q2, q2 = w.heap.size := ⟨_, rfl⟩
    have Z1 : Hid (Bq (w.alloc (.cells z7 40)) q2 z7 40) := hid (e2 ▸ bq_new w z7 40)
    have Q1 : Hid (Q w (w.alloc (.cells z7 40))) := hid ((Q.refl w).alloc _)
    unfold z7 at Z1 Q1
    rw [← e2]
    have hq2 : q2 ≠ r := by omega
    have hw2 : w.heap.size ≤ q2 := by omega
    clear e2
    generalize w.alloc (.cells _ 40) = w1 at Z1 Q1 ⊢
    have R1 := hid (HR.out.on Q1.out)
    obtain ⟨c1, f1⟩ := R1.out.node
    go_upto_region 2 with fail
    have HN2 := hid (R1.out.nod (nd + 1))
    have Z2 := hid (Z1.out.qx HN2.out.2 hq2)
    have X2 : Hid (Qx r w (w1.setCell ⟨r, 1, none⟩ (.int .i64 (nd + 1)))) := hid ((Qx.of Q1.out).trans HN2.out.2)
    have R2 := hid HN2.out.1
    clear HN2 Z1 Q1 R1 c1 f1 HR
    generalize w1.setCell ⟨r, 1, none⟩ _ = w2 at Z2 X2 R2 ⊢
    obtain ⟨c1, f1⟩ := R2.out.node
    go_upto_region 5 with fail
    clear c1 f1
    have HC : Hid (Calls Tryz.prog 46 #[.pointer (some ⟨r, 0, none⟩), .int .i64 9] w2 fun e W' => e = .returned (.int .i64 (k.toNat : Int)) ∧ Rq w0 r (E ++ D) (nd + 1) W' ∧ Qx r w2 W') := hid (rcountq w0 r 9 k.toNat (E ++ D) (nd + 1) w2 (X2.out.qq HQ.out hr0) HK.out.2 (by decide) R2.out)
    rw [HK.out.1] at HC
    go_upto_region 6 with (first
      | (go_at_call 46; refine HC.out.mono ?_; rintro e9 w3 ⟨rfl, hw9, hq9⟩; have R3 := hid hw9; have X3 := hid (X2.out.trans hq9); have Z3 := hid (Z2.out.qx hq9 hq2); clear hw9 hq9)
      | (with_reducible refine wpl_buildt 40 _ (by with_unfolding_all rfl) (by with_unfolding_all rfl) #[.int .i64 k, .int .i64 0, .string ⟨#[]⟩, .bool false, .int .i64 0, .slice none 0 0, .slice none 0 0] (by kernel_rfl) ?_)
      | (with_reducible refine wpl_layt w3 40 _ _ (by with_unfolding_all rfl) (by with_unfolding_all rfl) #[.int .i64 k, .int .i64 0, .string ⟨#[]⟩, .bool false, .int .i64 0, .slice none 0 0, .slice none 0 0] z7 (by with_unfolding_all rfl) (by with_unfolding_all rfl) (by with_unfolding_all exact info40) (by with_unfolding_all rfl) (by kernel_rfl) (by with_unfolding_all rfl) ?_))
    obtain ⟨q, e1⟩ : ∃ q, q = w3.heap.size := ⟨_, rfl⟩
    have HB := hid (bq_new w3 #[.int .i64 k, .int .i64 0, .string ⟨#[]⟩, .bool false, .int .i64 0, .slice none 0 0, .slice none 0 0] 40)
    rw [← e1] at HB ⊢
    have hq1 : q ≠ r := by have := R3.out.lt; omega
    have hqq : q2 ≠ q := by have := Z3.out.l; omega
    have hqq2 : q2 < q := by have := Z3.out.l; omega
    have hw1 : w.heap.size ≤ q := by have := X3.out.size; omega
    have S0 : Hid (Sr w w0 r q q2 40 z7 40 (E ++ D) (nd + 1) #[.int .i64 k, .int .i64 0, .string ⟨#[]⟩, .bool false, .int .i64 0, .slice none 0 0, .slice none 0 0] (w3.alloc (.cells #[.int .i64 k, .int .i64 0, .string ⟨#[]⟩, .bool false, .int .i64 0, .slice none 0 0, .slice none 0 0] 40))) := hid ⟨X3.out.alloc _, R3.out.on ((Q.refl _).alloc _), HB.out, Z3.out.on ((Q.refl _).alloc _)⟩
    clear HB HC R2 X2 Z2 R3 X3 Z3 e1 HK
    generalize w3.alloc (.cells _ 40) = w4 at S0 ⊢
    have hSX : Hid (Qx r w w4) := hid S0.out.x
    have HQ4 : Hid (Q w0 w4) := hid (S0.out.x.qq HQ.out hr0)
    have hEE := HE.out
    have c00 := S0.out.c.c 0 (.int .i64 k) rfl
    rcases HX.out with h | h | h | h | h | h | h | h | h
    · obtain ⟨rfl, ⟨n0, n1⟩, rfl, rfl, rfl, rfl, rfl⟩ := h
      obtain ⟨m, rfl⟩ := Int.eq_ofNat_of_zero_le n0
      simp only [encK, if_true] at hEE
      rw [u64N_nat (by omega)] at hEE
      subst hEE
      have eC : IntKind.i64.wrap (m : Int) = (m : Int) := by simp [IntKind.wrap, IntKind.bits, IntKind.signed]; omega
      · skip
        have HT : Hid (Calls Tryz.prog 77 #[.pointer (some ⟨r, 0, none⟩)] w4 fun e W' => e = .returned (.int .u64 m) ∧ Rq w0 r D (nd + 1) W' ∧ Qx r w4 W') := hid (rnumq w0 r m D (nd + 1) w4 (by omega) HQ4.out S0.out.R)
        go_upto_region 27 with (go_at_call 77; refine HT.out.mono ?_; rintro e9 w5 ⟨rfl, hw9, hq9⟩; have S9 := hid (S0.out.call hq1 hq2 hw9 hq9); skip; clear hw9 hq9; have f0 := S9.out.c.f 1; have c0 := S9.out.c.c 1 _ rfl)
        have S1 := hid (S9.out.put hw1 hq1 hqq 1 (.int .i64 m))
        clear HT S9 f0 c0
        generalize w5.setCell ⟨q, 1, none⟩ _ = w6 at S1 ⊢
        refine rtree_end (C := #[.int .i64 1, .int .i64 m, .string ⟨#[]⟩, .bool false, .int .i64 0, .slice none 0 0, .slice none 0 0]) S1 hw2 hq2 rfl (all7 _ _ _ _ _ _ _ _ _ _ _) (HND.out.trans (by simp [nodes.nodesL])) (rdg_leaf _ _ _ _ [] _ _) ?_
        intro C hC F
        go_wp2_with (first
          | (with_reducible refine wpList_load_row (by with_unfolding_all rfl) 40 _ (by with_unfolding_all rfl) q (by with_unfolding_all rfl) 40 C (0, 0) _ hC.out.1.h Tryz.underlying40 (by with_unfolding_all rfl) (by with_unfolding_all exact hC.out.2.2.1) ?_)
          | (with_reducible refine wpList_store_row (by with_unfolding_all rfl) 40 _ _ (by with_unfolding_all rfl) q2 C (by with_unfolding_all rfl) (by with_unfolding_all rfl) 40 z7 hC.out.2.1.h (by with_unfolding_all exact hC.out.2.2.1) (by with_unfolding_all exact hC.out.2.2.2.1) hC.out.2.2.2.2 ?_))
        refine bodyPost_ret (v := .agg C) (results_cell_row Tryz.results60 _ _ q2 40 C (0, 0) _ (by rfl) F.out.1.h Tryz.underlying40 rfl hC.out.2.2.1) rfl ?_
        exact ⟨_, rfl, F.out.2⟩
    · obtain ⟨rfl, rfl, ht, rfl, rfl, rfl, rfl⟩ := h
      simp only [encK, Int.reduceEq, if_true, if_false] at hEE
      subst hEE
      · skip
        have HT : Hid (Calls Tryz.prog 62 #[.pointer (some ⟨r, 0, none⟩)] w4 fun e W' => e = .returned (.string ⟨t.toArray⟩) ∧ Rq w0 r D (nd + 1) W' ∧ Qx r w4 W') := hid (rtextq w0 r t D (nd + 1) w4 HQ4.out hr0 ht (by have := S0.out.R; rwa [List.append_assoc] at this))
        go_upto_region 27 with (go_at_call 62; refine HT.out.mono ?_; rintro e9 w5 ⟨rfl, hw9, hq9⟩; have S9 := hid (S0.out.call hq1 hq2 hw9 hq9); skip; clear hw9 hq9; have f0 := S9.out.c.f 2; have c0 := S9.out.c.c 2 _ rfl)
        have S1 := hid (S9.out.put hw1 hq1 hqq 2 (.string ⟨t.toArray⟩))
        clear HT S9 f0 c0
        generalize w5.setCell ⟨q, 2, none⟩ _ = w6 at S1 ⊢
        refine rtree_end (C := #[.int .i64 2, .int .i64 0, .string ⟨t.toArray⟩, .bool false, .int .i64 0, .slice none 0 0, .slice none 0 0]) S1 hw2 hq2 rfl (all7 _ _ _ _ _ _ _ _ _ _ _) (HND.out.trans (by simp [nodes.nodesL])) (rdg_leaf _ _ _ _ _ _ _) ?_
        intro C hC F
        go_wp2_with (first
          | (with_reducible refine wpList_load_row (by with_unfolding_all rfl) 40 _ (by with_unfolding_all rfl) q (by with_unfolding_all rfl) 40 C (0, 0) _ hC.out.1.h Tryz.underlying40 (by with_unfolding_all rfl) (by with_unfolding_all exact hC.out.2.2.1) ?_)
          | (with_reducible refine wpList_store_row (by with_unfolding_all rfl) 40 _ _ (by with_unfolding_all rfl) q2 C (by with_unfolding_all rfl) (by with_unfolding_all rfl) 40 z7 hC.out.2.1.h (by with_unfolding_all exact hC.out.2.2.1) (by with_unfolding_all exact hC.out.2.2.2.1) hC.out.2.2.2.2 ?_))
        refine bodyPost_ret (v := .agg C) (results_cell_row Tryz.results60 _ _ q2 40 C (0, 0) _ (by rfl) F.out.1.h Tryz.underlying40 rfl hC.out.2.2.1) rfl ?_
        exact ⟨_, rfl, F.out.2⟩
    · obtain ⟨rfl, rfl, rfl, rfl, rfl, rfl⟩ := h
      simp only [encK, Int.reduceEq, if_true, if_false] at hEE
      subst hEE
      · skip
        have HT : Hid (Calls Tryz.prog 63 #[.pointer (some ⟨r, 0, none⟩)] w4 fun e W' => e = .returned (.bool b) ∧ Rq w0 r D (nd + 1) W' ∧ Qx r w4 W') := hid (rtruthq w0 r b D (nd + 1) w4 HQ4.out S0.out.R)
        go_upto_region 27 with (go_at_call 63; refine HT.out.mono ?_; rintro e9 w5 ⟨rfl, hw9, hq9⟩; have S9 := hid (S0.out.call hq1 hq2 hw9 hq9); skip; clear hw9 hq9; have f0 := S9.out.c.f 3; have c0 := S9.out.c.c 3 _ rfl)
        have S1 := hid (S9.out.put hw1 hq1 hqq 3 (.bool b))
        clear HT S9 f0 c0
        generalize w5.setCell ⟨q, 3, none⟩ _ = w6 at S1 ⊢
        refine rtree_end (C := #[.int .i64 3, .int .i64 0, .string ⟨#[]⟩, .bool b, .int .i64 0, .slice none 0 0, .slice none 0 0]) S1 hw2 hq2 rfl (all7 _ _ _ _ _ _ _ _ _ _ _) (HND.out.trans (by simp [nodes.nodesL])) (rdg_leaf _ _ _ _ [] _ _) ?_
        intro C hC F
        go_wp2_with (first
          | (with_reducible refine wpList_load_row (by with_unfolding_all rfl) 40 _ (by with_unfolding_all rfl) q (by with_unfolding_all rfl) 40 C (0, 0) _ hC.out.1.h Tryz.underlying40 (by with_unfolding_all rfl) (by with_unfolding_all exact hC.out.2.2.1) ?_)
          | (with_reducible refine wpList_store_row (by with_unfolding_all rfl) 40 _ _ (by with_unfolding_all rfl) q2 C (by with_unfolding_all rfl) (by with_unfolding_all rfl) 40 z7 hC.out.2.1.h (by with_unfolding_all exact hC.out.2.2.1) (by with_unfolding_all exact hC.out.2.2.2.1) hC.out.2.2.2.2 ?_))
        refine bodyPost_ret (v := .agg C) (results_cell_row Tryz.results60 _ _ q2 40 C (0, 0) _ (by rfl) F.out.1.h Tryz.underlying40 rfl hC.out.2.2.1) rfl ?_
        exact ⟨_, rfl, F.out.2⟩
    · obtain ⟨rfl, rfl, rfl, rfl, ⟨e0, e7⟩, rfl, rfl⟩ := h
      obtain ⟨m, rfl⟩ := Int.eq_ofNat_of_zero_le e0
      simp only [encK, Int.reduceEq, if_true, if_false, Int.toNat_natCast] at hEE
      subst hEE
      · skip
        have HT : Hid (Calls Tryz.prog 46 #[.pointer (some ⟨r, 0, none⟩), .int .i64 7] w4 fun e W' => e = .returned (.int .i64 m) ∧ Rq w0 r D (nd + 1) W' ∧ Qx r w4 W') := hid (rcountq w0 r 7 m D (nd + 1) w4 HQ4.out (by omega) (by decide) S0.out.R)
        go_upto_region 27 with (go_at_call 46; refine HT.out.mono ?_; rintro e9 w5 ⟨rfl, hw9, hq9⟩; have S9 := hid (S0.out.call hq1 hq2 hw9 hq9); skip; clear hw9 hq9; have f0 := S9.out.c.f 4; have c0 := S9.out.c.c 4 _ rfl)
        have S1 := hid (S9.out.put hw1 hq1 hqq 4 (.int .i64 m))
        clear HT S9 f0 c0
        generalize w5.setCell ⟨q, 4, none⟩ _ = w6 at S1 ⊢
        refine rtree_end (C := #[.int .i64 4, .int .i64 0, .string ⟨#[]⟩, .bool false, .int .i64 m, .slice none 0 0, .slice none 0 0]) S1 hw2 hq2 rfl (all7 _ _ _ _ _ _ _ _ _ _ _) (HND.out.trans (by simp [nodes.nodesL])) (rdg_leaf _ _ _ _ [] _ _) ?_
        intro C hC F
        go_wp2_with (first
          | (with_reducible refine wpList_load_row (by with_unfolding_all rfl) 40 _ (by with_unfolding_all rfl) q (by with_unfolding_all rfl) 40 C (0, 0) _ hC.out.1.h Tryz.underlying40 (by with_unfolding_all rfl) (by with_unfolding_all exact hC.out.2.2.1) ?_)
          | (with_reducible refine wpList_store_row (by with_unfolding_all rfl) 40 _ _ (by with_unfolding_all rfl) q2 C (by with_unfolding_all rfl) (by with_unfolding_all rfl) 40 z7 hC.out.2.1.h (by with_unfolding_all exact hC.out.2.2.1) (by with_unfolding_all exact hC.out.2.2.2.1) hC.out.2.2.2.2 ?_))
        refine bodyPost_ret (v := .agg C) (results_cell_row Tryz.results60 _ _ q2 40 C (0, 0) _ (by rfl) F.out.1.h Tryz.underlying40 rfl hC.out.2.2.1) rfl ?_
        exact ⟨_, rfl, F.out.2⟩
    · obtain ⟨rfl, rfl, rfl, rfl, rfl, ⟨x, rfl, hx⟩, rfl⟩ := h
      simp only [encK, Int.reduceEq, if_true, if_false, or_true, true_or, or_false, false_or] at hEE
      subst hEE
      · have hB4 : w.heap.size ≤ w4.heap.size ∧ q < w4.heap.size ∧ q2 < w4.heap.size := ⟨hSX.out.size, S0.out.c.l, S0.out.z.l⟩
        have HT : Hid (Calls Tryz.prog 93 #[.pointer (some ⟨r, 0, none⟩), .int .i64 1] w4 fun e W' => ∃ v, e = .returned v ∧ Own rf 96 5 w4.heap.size W' v [x] ∧ Rq w0 r D (nd + 1) W' ∧ Qx r w4 W') := hid (rrefs_any w0 r [x] D (nd + 1) w4 HQ4.out hr0 (by simp) (fun y hy => by simp at hy; subst hy; exact hx) S0.out.R)
        go_upto_region 27 with (go_at_call 93; refine HT.out.mono ?_; rintro e9 w5 ⟨v9, rfl, ho9, hw9, hq9⟩; have S9 := hid (S0.out.call hq1 hq2 hw9 hq9); obtain ⟨a9, c9, hv9⟩ := own_shape ho9 rf_len (by decide); subst hv9; have HO9 := hid (Own.grown ho9 ((Qx.refl q w5).own 5 (.slice a9 1 c9)) (.inr (fun e => by have := ho9.blk _ e; omega))); clear ho9; clear hw9 hq9; have f0 := S9.out.c.f 5; have c0 := S9.out.c.c 5 _ rfl)
        have S1 := hid (S9.out.put hw1 hq1 hqq 5 (.slice a9 1 c9))
        clear HT S9 f0 c0
        simp only [List.length_cons, List.length_nil, Nat.zero_add, Nat.reduceAdd] at S1 HO9 ⊢
        generalize w5.setCell ⟨q, 5, none⟩ _ = w6 at S1 HO9 ⊢
        refine rtree_end (C := #[.int .i64 5, .int .i64 0, .string ⟨#[]⟩, .bool false, .int .i64 0, .slice a9 1 c9, .slice none 0 0]) S1 hw2 hq2 rfl (all7 _ _ _ _ _ _ _ _ _ _ _) (HND.out.trans (by simp [nodes.nodesL])) (rdg_refs _ HO9.out (fun b hb => ⟨by omega, by omega⟩)) ?_
        intro C hC F
        go_wp2_with (first
          | (with_reducible refine wpList_load_row (by with_unfolding_all rfl) 40 _ (by with_unfolding_all rfl) q (by with_unfolding_all rfl) 40 C (0, 0) _ hC.out.1.h Tryz.underlying40 (by with_unfolding_all rfl) (by with_unfolding_all exact hC.out.2.2.1) ?_)
          | (with_reducible refine wpList_store_row (by with_unfolding_all rfl) 40 _ _ (by with_unfolding_all rfl) q2 C (by with_unfolding_all rfl) (by with_unfolding_all rfl) 40 z7 hC.out.2.1.h (by with_unfolding_all exact hC.out.2.2.1) (by with_unfolding_all exact hC.out.2.2.2.1) hC.out.2.2.2.2 ?_))
        refine bodyPost_ret (v := .agg C) (results_cell_row Tryz.results60 _ _ q2 40 C (0, 0) _ (by rfl) F.out.1.h Tryz.underlying40 rfl hC.out.2.2.1) rfl ?_
        exact ⟨_, rfl, F.out.2⟩
    · obtain ⟨rfl, rfl, rfl, rfl, rfl, ⟨x, y, rfl, hx, hy⟩, rfl⟩ := h
      simp only [encK, Int.reduceEq, if_true, if_false, or_true, true_or, or_false, false_or] at hEE
      subst hEE
      · have hB4 : w.heap.size ≤ w4.heap.size ∧ q < w4.heap.size ∧ q2 < w4.heap.size := ⟨hSX.out.size, S0.out.c.l, S0.out.z.l⟩
        have HT : Hid (Calls Tryz.prog 93 #[.pointer (some ⟨r, 0, none⟩), .int .i64 2] w4 fun e W' => ∃ v, e = .returned v ∧ Own rf 96 5 w4.heap.size W' v [x, y] ∧ Rq w0 r D (nd + 1) W' ∧ Qx r w4 W') := hid (rrefs_any w0 r [x, y] D (nd + 1) w4 HQ4.out hr0 (by simp) (fun z hz => by simp at hz; rcases hz with rfl | rfl; exact hx; exact hy) S0.out.R)
        go_upto_region 27 with (go_at_call 93; refine HT.out.mono ?_; rintro e9 w5 ⟨v9, rfl, ho9, hw9, hq9⟩; have S9 := hid (S0.out.call hq1 hq2 hw9 hq9); obtain ⟨a9, c9, hv9⟩ := own_shape ho9 rf_len (by decide); subst hv9; have HO9 := hid (Own.grown ho9 ((Qx.refl q w5).own 5 (.slice a9 2 c9)) (.inr (fun e => by have := ho9.blk _ e; omega))); clear ho9; clear hw9 hq9; have f0 := S9.out.c.f 5; have c0 := S9.out.c.c 5 _ rfl)
        have S1 := hid (S9.out.put hw1 hq1 hqq 5 (.slice a9 2 c9))
        clear HT S9 f0 c0
        simp only [List.length_cons, List.length_nil, Nat.zero_add, Nat.reduceAdd] at S1 HO9 ⊢
        generalize w5.setCell ⟨q, 5, none⟩ _ = w6 at S1 HO9 ⊢
        refine rtree_end (C := #[.int .i64 6, .int .i64 0, .string ⟨#[]⟩, .bool false, .int .i64 0, .slice a9 2 c9, .slice none 0 0]) S1 hw2 hq2 rfl (all7 _ _ _ _ _ _ _ _ _ _ _) (HND.out.trans (by simp [nodes.nodesL])) (rdg_refs _ HO9.out (fun b hb => ⟨by omega, by omega⟩)) ?_
        intro C hC F
        go_wp2_with (first
          | (with_reducible refine wpList_load_row (by with_unfolding_all rfl) 40 _ (by with_unfolding_all rfl) q (by with_unfolding_all rfl) 40 C (0, 0) _ hC.out.1.h Tryz.underlying40 (by with_unfolding_all rfl) (by with_unfolding_all exact hC.out.2.2.1) ?_)
          | (with_reducible refine wpList_store_row (by with_unfolding_all rfl) 40 _ _ (by with_unfolding_all rfl) q2 C (by with_unfolding_all rfl) (by with_unfolding_all rfl) 40 z7 hC.out.2.1.h (by with_unfolding_all exact hC.out.2.2.1) (by with_unfolding_all exact hC.out.2.2.2.1) hC.out.2.2.2.2 ?_))
        refine bodyPost_ret (v := .agg C) (results_cell_row Tryz.results60 _ _ q2 40 C (0, 0) _ (by rfl) F.out.1.h Tryz.underlying40 rfl hC.out.2.2.1) rfl ?_
        exact ⟨_, rfl, F.out.2⟩
    · obtain ⟨rfl, rfl, rfl, rfl, rfl, rfl, hks⟩ := h
      simp only [encK, Int.reduceEq, if_true, if_false, or_true, true_or, or_false, false_or] at hEE
      subst hEE
      · skip
        have hB6 : w.heap.size ≤ w4.heap.size ∧ q < w4.heap.size ∧ q2 < w4.heap.size := ⟨S0.out.x.size, S0.out.c.l, S0.out.z.l⟩
        have HT : Hid (Calls Tryz.prog 94 #[.pointer (some ⟨r, 0, none⟩), .int .i64 1] w4 fun e W' => RdTs w0 r w4 ks D (nd + 1) e W') := hid (by have H9 := rtrees_any w0 r ks D (nd + 1) w4 (S0.out.x.qq HQ.out hr0) hr0 (by omega) (fun i hi E n' W q e h => IH.out i hi E n' W q e h) S0.out.R; rw [hks] at H9; exact H9)
        unfold RdTs at HT
        go_upto_region 27 with (go_at_call 94; refine HT.out.mono ?_; rintro e9 w5 ⟨v9, Ls, rfl, ho9, hl9, hw9, hq9⟩; have S9 := hid (S0.out.call hq1 hq2 hw9 hq9); obtain ⟨a9, c9, hv9⟩ := own_shape ho9.ow enc7_len (by decide); subst hv9; have HO9 := hid (ho9.call ((Qx.refl q w5).own 6 (.slice a9 Ls.length c9)) (by omega)); have HL9 := hid hl9; clear ho9 hl9; clear hw9 hq9; have f0 := S9.out.c.f 6; have c0 := S9.out.c.c 6 _ rfl)
        have S1 := hid (S9.out.put hw1 hq1 hqq 6 (.slice a9 Ls.length c9))
        clear HT S9 f0 c0
        generalize w5.setCell ⟨q, 6, none⟩ _ = w6 at S1 HO9 ⊢
        refine rtree_end (C := #[.int .i64 7, .int .i64 0, .string ⟨#[]⟩, .bool false, .int .i64 0, .slice none 0 0, .slice a9 Ls.length c9]) S1 hw2 hq2 rfl (all7 _ _ _ _ _ _ _ _ _ _ _) (HND.out) (rdg_kids _ [] HO9.out HL9.out (fun b hb => ⟨by omega, by omega⟩)) ?_
        intro C hC F
        go_wp2_with (first
          | (with_reducible refine wpList_load_row (by with_unfolding_all rfl) 40 _ (by with_unfolding_all rfl) q (by with_unfolding_all rfl) 40 C (0, 0) _ hC.out.1.h Tryz.underlying40 (by with_unfolding_all rfl) (by with_unfolding_all exact hC.out.2.2.1) ?_)
          | (with_reducible refine wpList_store_row (by with_unfolding_all rfl) 40 _ _ (by with_unfolding_all rfl) q2 C (by with_unfolding_all rfl) (by with_unfolding_all rfl) 40 z7 hC.out.2.1.h (by with_unfolding_all exact hC.out.2.2.1) (by with_unfolding_all exact hC.out.2.2.2.1) hC.out.2.2.2.2 ?_))
        refine bodyPost_ret (v := .agg C) (results_cell_row Tryz.results60 _ _ q2 40 C (0, 0) _ (by rfl) F.out.1.h Tryz.underlying40 rfl hC.out.2.2.1) rfl ?_
        exact ⟨_, rfl, F.out.2⟩
    · obtain ⟨rfl, rfl, ht, rfl, rfl, rfl, hks⟩ := h
      simp only [encK, Int.reduceEq, if_true, if_false, or_true, true_or, or_false, false_or] at hEE
      subst hEE
      · skip
        have HT : Hid (Calls Tryz.prog 62 #[.pointer (some ⟨r, 0, none⟩)] w4 fun e W' => e = .returned (.string ⟨t.toArray⟩) ∧ Rq w0 r (encT.encTL ks ++ D) (nd + 1) W' ∧ Qx r w4 W') := hid (rtextq w0 r t (encT.encTL ks ++ D) (nd + 1) w4 HQ4.out hr0 ht (by have := S0.out.R; simpa only [List.append_assoc] using this))
        go_upto_region 23 with (go_at_call 62; refine HT.out.mono ?_; rintro e9 w5 ⟨rfl, hw9, hq9⟩; have S9 := hid (S0.out.call hq1 hq2 hw9 hq9); clear hw9 hq9; have f0 := S9.out.c.f 2; have c0 := S9.out.c.c 2 _ rfl)
        have S1 := hid (S9.out.put hw1 hq1 hqq 2 (.string ⟨t.toArray⟩))
        clear HT S9 f0 c0 S0
        generalize w5.setCell ⟨q, 2, none⟩ _ = w6 at S1 ⊢
        have hB6 : w.heap.size ≤ w6.heap.size ∧ q < w6.heap.size ∧ q2 < w6.heap.size := ⟨S1.out.x.size, S1.out.c.l, S1.out.z.l⟩
        have HT : Hid (Calls Tryz.prog 94 #[.pointer (some ⟨r, 0, none⟩), .int .i64 2] w6 fun e W' => RdTs w0 r w6 ks D (nd + 1) e W') := hid (by have H9 := rtrees_any w0 r ks D (nd + 1) w6 (S1.out.x.qq HQ.out hr0) hr0 (by omega) (fun i hi E n' W q e h => IH.out i hi E n' W q e h) S1.out.R; rw [hks] at H9; exact H9)
        unfold RdTs at HT
        go_upto_region 27 with (go_at_call 94; refine HT.out.mono ?_; rintro e9 w7 ⟨v9, Ls, rfl, ho9, hl9, hw9, hq9⟩; have S9 := hid (S1.out.call hq1 hq2 hw9 hq9); obtain ⟨a9, c9, hv9⟩ := own_shape ho9.ow enc7_len (by decide); subst hv9; have HO9 := hid (ho9.call ((Qx.refl q w7).own 6 (.slice a9 Ls.length c9)) (by omega)); have HL9 := hid hl9; clear ho9 hl9; clear hw9 hq9; have f0 := S9.out.c.f 6; have c0 := S9.out.c.c 6 _ rfl)
        have S2 := hid (S9.out.put hw1 hq1 hqq 6 (.slice a9 Ls.length c9))
        clear HT S9 f0 c0
        generalize w7.setCell ⟨q, 6, none⟩ _ = w8 at S2 HO9 ⊢
        refine rtree_end (C := #[.int .i64 8, .int .i64 0, .string ⟨t.toArray⟩, .bool false, .int .i64 0, .slice none 0 0, .slice a9 Ls.length c9]) S2 hw2 hq2 rfl (all7 _ _ _ _ _ _ _ _ _ _ _) (HND.out) (rdg_kids _ _ HO9.out HL9.out (fun b hb => ⟨by omega, by omega⟩)) ?_
        intro C hC F
        go_wp2_with (first
          | (with_reducible refine wpList_load_row (by with_unfolding_all rfl) 40 _ (by with_unfolding_all rfl) q (by with_unfolding_all rfl) 40 C (0, 0) _ hC.out.1.h Tryz.underlying40 (by with_unfolding_all rfl) (by with_unfolding_all exact hC.out.2.2.1) ?_)
          | (with_reducible refine wpList_store_row (by with_unfolding_all rfl) 40 _ _ (by with_unfolding_all rfl) q2 C (by with_unfolding_all rfl) (by with_unfolding_all rfl) 40 z7 hC.out.2.1.h (by with_unfolding_all exact hC.out.2.2.1) (by with_unfolding_all exact hC.out.2.2.2.1) hC.out.2.2.2.2 ?_))
        refine bodyPost_ret (v := .agg C) (results_cell_row Tryz.results60 _ _ q2 40 C (0, 0) _ (by rfl) F.out.1.h Tryz.underlying40 rfl hC.out.2.2.1) rfl ?_
        exact ⟨_, rfl, F.out.2⟩
    · obtain ⟨rfl, rfl, ht, rfl, rfl, rfl, hks⟩ := h
      simp only [encK, Int.reduceEq, if_true, if_false, or_true, true_or, or_false, false_or] at hEE
      subst hEE
      · skip
        have HT : Hid (Calls Tryz.prog 62 #[.pointer (some ⟨r, 0, none⟩)] w4 fun e W' => e = .returned (.string ⟨t.toArray⟩) ∧ Rq w0 r ((vn ks.length ++ encT.encTL ks) ++ D) (nd + 1) W' ∧ Qx r w4 W') := hid (rtextq w0 r t ((vn ks.length ++ encT.encTL ks) ++ D) (nd + 1) w4 HQ4.out hr0 ht (by have := S0.out.R; simpa only [List.append_assoc] using this))
        go_upto_region 26 with (go_at_call 62; refine HT.out.mono ?_; rintro e9 w5 ⟨rfl, hw9, hq9⟩; have S9 := hid (S0.out.call hq1 hq2 hw9 hq9); clear hw9 hq9; have f0 := S9.out.c.f 2; have c0 := S9.out.c.c 2 _ rfl)
        have S1 := hid (S9.out.put hw1 hq1 hqq 2 (.string ⟨t.toArray⟩))
        clear HT S9 f0 c0 S0
        generalize w5.setCell ⟨q, 2, none⟩ _ = w6 at S1 ⊢
        have HT : Hid (Calls Tryz.prog 46 #[.pointer (some ⟨r, 0, none⟩), .int .i64 30] w6 fun e W' => e = .returned (.int .i64 ks.length) ∧ Rq w0 r (encT.encTL ks ++ D) (nd + 1) W' ∧ Qx r w6 W') := hid (rcountq w0 r 30 ks.length (encT.encTL ks ++ D) (nd + 1) w6 (S1.out.x.qq HQ.out hr0) hks (by decide) (by have := S1.out.R; simpa only [List.append_assoc] using this))
        have HTS : Hid (∀ w7, Q w0 w7 → Rq w0 r (encT.encTL ks ++ D) (nd + 1) w7 → Calls Tryz.prog 94 #[.pointer (some ⟨r, 0, none⟩), .int .i64 ks.length] w7 fun e W' => RdTs w0 r w7 ks D (nd + 1) e W') := hid (fun w7 q h => rtrees_any w0 r ks D (nd + 1) w7 q hr0 hks (fun i hi E n' W q e h => IH.out i hi E n' W q e h) h)
        unfold RdTs at HTS
        go_upto_region 27 with (first
          | (go_at_call 46; refine HT.out.mono ?_; rintro e9 w7 ⟨rfl, hw9, hq9⟩; have S8 := hid (S1.out.call hq1 hq2 hw9 hq9); clear hw9 hq9; have hB6 : w.heap.size ≤ w7.heap.size ∧ q < w7.heap.size ∧ q2 < w7.heap.size := ⟨S8.out.x.size, S8.out.c.l, S8.out.z.l⟩; have HTT := hid (HTS.out w7 (S8.out.x.qq HQ.out hr0) S8.out.R))
          | (go_at_call 94; refine HTT.out.mono ?_; rintro e9 w8 ⟨v9, Ls, rfl, ho9, hl9, hw9, hq9⟩; have S9 := hid (S8.out.call hq1 hq2 hw9 hq9); obtain ⟨a9, c9, hv9⟩ := own_shape ho9.ow enc7_len (by decide); subst hv9; have HO9 := hid (ho9.call ((Qx.refl q w8).own 6 (.slice a9 Ls.length c9)) (by omega)); have HL9 := hid hl9; clear ho9 hl9; clear hw9 hq9; have f0 := S9.out.c.f 6; have c0 := S9.out.c.c 6 _ rfl))
        have S2 := hid (S9.out.put hw1 hq1 hqq 6 (.slice a9 Ls.length c9))
        clear HT HTT HTS S9 S8 f0 c0
        generalize w8.setCell ⟨q, 6, none⟩ _ = w9 at S2 HO9 ⊢
        refine rtree_end (C := #[.int .i64 9, .int .i64 0, .string ⟨t.toArray⟩, .bool false, .int .i64 0, .slice none 0 0, .slice a9 Ls.length c9]) S2 hw2 hq2 rfl (all7 _ _ _ _ _ _ _ _ _ _ _) (HND.out) (rdg_kids _ _ HO9.out HL9.out (fun b hb => ⟨by omega, by omega⟩)) ?_
        intro C hC F
        go_wp2_with (first
          | (with_reducible refine wpList_load_row (by with_unfolding_all rfl) 40 _ (by with_unfolding_all rfl) q (by with_unfolding_all rfl) 40 C (0, 0) _ hC.out.1.h Tryz.underlying40 (by with_unfolding_all rfl) (by with_unfolding_all exact hC.out.2.2.1) ?_)
          | (with_reducible refine wpList_store_row (by with_unfolding_all rfl) 40 _ _ (by with_unfolding_all rfl) q2 C (by with_unfolding_all rfl) (by with_unfolding_all rfl) 40 z7 hC.out.2.1.h (by with_unfolding_all exact hC.out.2.2.1) (by with_unfolding_all exact hC.out.2.2.2.1) hC.out.2.2.2.2 ?_))
        refine bodyPost_ret (v := .agg C) (results_cell_row Tryz.results60 _ _ q2 40 C (0, 0) _ (by rfl) F.out.1.h Tryz.underlying40 rfl hC.out.2.2.1) rfl ?_
        exact ⟨_, rfl, F.out.2⟩
def xAdd : Rv := ⟨5, ⟨#[99, 49, 110, 49]⟩, 0, 0, false, 0, 0, ⟨#[]⟩, false, 0, 0, 0, ⟨#[]⟩, false, 0, none, 0, 0, none, 0, 0, 0, 0, 0, none, 0, 0, 0, ⟨#[120]⟩⟩
def xZero : Rv := ⟨0, ⟨#[]⟩, 0, 0, false, 0, 0, ⟨#[]⟩, false, 0, 0, 0, ⟨#[]⟩, false, 0, none, 0, 0, none, 0, 0, 0, 0, 0, none, 0, 0, 0, ⟨#[]⟩⟩
def ob (x : Rv) : List UInt8 := if x.k = 1 then [1, 4, 99, 48, 110, 48, UInt8.ofNat x.row.toNat, 0, 0] else if x.k = 5 then [5, 4, 99, 49, 110, 49, 1, 120] else []
def mb (x : Rv) : Bool := decide (x.k = 1 ∨ x.k = 5)
theorem may_add (w : World) (hg : Gd w) : Calls Tryz.prog 37 #[.agg xAdd.L.toArray] w fun e V' => e = .returned (.bool true) ∧ Q w V' := by
  have HE := hid (fun V (q : Q w V) => opeq_any (⟨5, ⟨#[99, 49, 110, 49]⟩, 0, 0, false, 0, 0, ⟨#[]⟩, false, 0, 0, 0, ⟨#[]⟩, false, 0, none, 0, 0, none, 0, 0, 0, 0, 0, none, 0, 0, 0, ⟨#[]⟩⟩ : Rv) (⟨5, ⟨#[99, 49, 110, 49]⟩, 0, 0, false, 0, 0, ⟨#[]⟩, false, 0, 0, 0, ⟨#[]⟩, false, 0, none, 0, 0, none, 0, 0, 0, 0, 0, none, 0, 0, 0, ⟨#[]⟩⟩ : Rv) zeroE zeroE [] [] true V ⟨rd_zero V, R.sl_nil V⟩ ⟨rd_zero V, R.sl_nil V⟩ (by decide) (by decide) (by decide) ⟨fun _ => ⟨rfl, rfl, rfl, rfl, ⟨rfl, rfl, rfl⟩, rfl, rfl, rfl, rfl, ⟨rfl, rfl, rfl, rfl, rfl⟩, rfl⟩, fun _ => rfl⟩)
  unfold Rv.v at HE
  exact om5 5 ⟨#[99, 49, 110, 49]⟩ (.int .i64 0) (.int .i64 0) (.bool false) (.int .i64 0) (.int .i64 0) (.string ⟨#[]⟩) (.bool false) (.int .i64 0) (.int .i64 0) (.int .i64 0) (.string ⟨#[]⟩) (.bool false) (.int .i64 0) (.slice none 0 0) (.slice none 0 0) (.int .i64 0) (.int .i64 0) (.int .i64 0) (.slice none 0 0) (.int .i64 0) (.string ⟨#[120]⟩) w true true true (by decide) (by decide) (by decide) (by decide) (by decide) (hid (by kernel_rfl)) (hid (fun V q => (mayName_any' ⟨#[120]⟩ V (by decide)).mono fun e V' h => ⟨h.1, h.2 ▸ Q.refl _⟩)) (hid (fun V q => id_any ⟨#[99, 49, 110, 49]⟩ V (hg.on q).1 (by decide))) HE
theorem may_zero (w : World) : Calls Tryz.prog 37 #[.agg xZero.L.toArray] w fun e V' => e = .returned (.bool false) ∧ Q w V' :=
  om0 0 ⟨#[]⟩ (.int .i64 0) (.int .i64 0) (.bool false) (.int .i64 0) (.int .i64 0) (.string ⟨#[]⟩) (.bool false) (.int .i64 0) (.int .i64 0) (.int .i64 0) (.string ⟨#[]⟩) (.bool false) (.int .i64 0) (.slice none 0 0) (.slice none 0 0) (.int .i64 0) (.int .i64 0) (.int .i64 0) (.slice none 0 0) (.int .i64 0) (.string ⟨#[]⟩) w (by decide) (by decide) (by decide) (by decide) (by decide) (by decide) (by decide) (hid (by kernel_rfl))
theorem ob_add : vn 5 ++ (vn (⟨#[99, 49, 110, 49]⟩ : ByteArray).size ++ ((⟨#[99, 49, 110, 49]⟩ : ByteArray).data.toList ++ (vn (⟨#[120]⟩ : ByteArray).size ++ (⟨#[120]⟩ : ByteArray).data.toList))) = ob xAdd := by
  rw [vn_lt (m := 5) (by decide), vn_lt (m := (⟨#[99, 49, 110, 49]⟩ : ByteArray).size) (by decide), vn_lt (m := (⟨#[120]⟩ : ByteArray).size) (by decide)]
  rfl
theorem opt_add (w : World) (hg : Gd w) : OpT w xAdd (mb xAdd) (ob xAdd) := by
  refine ⟨fun V q => may_add V (hg.on q), fun _ V p L U q hw hl => ?_, fun _ V r D W q hr h => ?_, by decide⟩
  · have h := wop5 p L ⟨#[99, 49, 110, 49]⟩ ⟨#[120]⟩ (.int .i64 0) (.int .i64 0) (.bool false) (.int .i64 0) (.int .i64 0) (.string ⟨#[]⟩) (.bool false) (.int .i64 0) (.int .i64 0) (.int .i64 0) (.string ⟨#[]⟩) (.bool false) (.int .i64 0) (.slice none 0 0) (.slice none 0 0) (.int .i64 0) (.int .i64 0) (.int .i64 0) (.slice none 0 0) (.int .i64 0) U hw hl (by decide) (by decide)
    rw [ob_add] at h
    exact h
  · exact rop5 V r 4 1 [99, 49, 110, 49] [120] D W q hr (by decide) (by decide) (by decide) (by decide) h
theorem opt_zero (w : World) : OpT w xZero (mb xZero) (ob xZero) :=
  ⟨fun V q => may_zero V, fun e => absurd e (by decide), fun e => absurd e (by decide), by decide⟩
theorem eqop_add (V : World) : Calls Tryz.prog 19 #[.agg xAdd.L.toArray, .agg xAdd.L.toArray] V fun e V' => e = .returned (.bool true) ∧ Q V V' :=
  eqop_any xAdd xAdd zeroE zeroE [] [] true V ⟨rd_zero V, R.sl_nil V⟩ ⟨rd_zero V, R.sl_nil V⟩ (by decide) (by decide) ⟨fun _ => ⟨rfl, rfl, rfl, rfl, ⟨rfl, rfl, rfl⟩, rfl, rfl, rfl, rfl, ⟨rfl, rfl, rfl, rfl, rfl⟩, rfl⟩, fun _ => rfl⟩
end Go.Proofs.YtcgddnliiondoaaGreatDoor
namespace Go.Proofs.YtcgddnliiondoaaGreatDoor
open Go.ChangeShapes Go.WideShapes Go.ChangeAt Go.RowKit
theorem cut_rn : ∀ (x : Ex) (d l : Nat), Rn x → Rn (cutE x d l).1
  | .mk k n t b e rs ks, d, l, h => by
    rw [Rn] at h
    rw [cutE, Rn]
    exact ⟨h.1, go ks d (l - 1) h.2⟩
  where
  go : ∀ (ks : List Ex) (d l : Nat), Rn.RnL ks → Rn.RnL (cutE.cutL ks d l).1
  | [], _, _, _ => by rw [cutE.cutL, Rn.RnL]; trivial
  | x :: xs, d, l, h => by
    rw [Rn.RnL] at h
    rw [cutE.cutL]
    split
    · rw [Rn.RnL]
      exact ⟨cut_rn x (d + 1) l h.1, go xs d _ h.2⟩
    · rw [Rn.RnL]; trivial
theorem cut_sm {B : Nat} (hB : B ≤ 2000000) : ∀ (x : Ex) (d l : Nat), Shs B x → Sm (cutE x d l).1
  | .mk k n t b e rs ks, d, l, h => by
    rw [Shs] at h
    rw [cutE, Sm]
    refine ⟨?_, fun r hr => Nat.le_trans (h.1 r (List.mem_of_mem_take hr)) hB, go hB ks d (l - 1) h.2⟩
    rw [List.length_take]
    omega
  where
  go {B : Nat} (hB : B ≤ 2000000) : ∀ (ks : List Ex) (d l : Nat), Shs.ShsL B ks → Sm.SmL (cutE.cutL ks d l).1
  | [], d, l, _ => by rw [cutE.cutL, Sm.SmL]; trivial
  | x :: xs, d, l, h => by
    rw [Shs.ShsL] at h
    rw [cutE.cutL]
    split
    · rw [Sm.SmL]
      exact ⟨cut_sm hB x (d + 1) l h.1, go hB xs d _ h.2⟩
    · rw [Sm.SmL]; trivial
end Go.Proofs.YtcgddnliiondoaaGreatDoor
