/- show.Formula, show.May, walked; show.Read of any text by what is parsed; show.cellText, show.Cell, walked; What the statements on show begin with, walked. -/
import Derived.Test.YtgheopdadfnilaaGreatDoorKr48
set_option linter.unusedVariables false
set_option linter.unusedSimpArgs false
set_option maxRecDepth 100000
namespace Go.Proofs.YtgheopdadfnilaaGreatDoor
open Go.RowKit
set_option maxHeartbeats 4000000 in
theorem form_of (x : Ex) (T : List UInt8) (hP : Wri x T) (hlen : T.length ≤ 100000) (v : Value) (W : World) (hg : Gd W) (hs : Sm x) (hm : (fitB x && mall mayN x) = true) (hr : Rd W x v) : Calls Tryz.prog 10 #[v] W fun e W' => e = .returned (.string ⟨T.toArray⟩) ∧ Q W W' := by
  have HM := hid (fun W' (q : Q W W') => pmay_any x v W' (hg.on q) hs (Rd.on q _ _ hr))
  rw [hm] at HM
  have HP := hid (fun W0 W' b (q : Q W W0) (h : Bd W0 W' b []) => hP W0 W' b [] v (hg.on q) h (Rd.on q _ _ hr) (by simpa using hlen))
  obtain ⟨k, m, t, bb, er, a1, l1, c1, a2, l2, c2, rfl⟩ := hr.shape
  clear hm hr hg hs hlen hP
  go_enter Tryz.func10, Tryz.ntmps10
  go_upto_region 3 with (go_at_call 27; refine (HM.out _ ((Q.refl _).alloc _)).mono ?_; rintro e9 w1 ⟨rfl, q1⟩; have Q1 : Hid (Q W w1) := hid (((Q.refl _).alloc _).trans q1); have Z1 := hid ((cb_new W [.int .i64 k, .int .i64 m, .string t, .bool bb, .int .i64 er, .slice a1 l1 c1, .slice a2 l2 c2] 26).on q1); clear q1)
  have B2 := hid (bd_new w1 w1 (Q.refl w1))
  have Z2 := hid (Z1.out.on ((Q.refl w1).alloc (.cells #[.pointer none, .slice none 0 0] 54)))
  have hne := Z1.out.l
  have d0 := Z2.out.c 0 _ rfl
  have d1 := Z2.out.c 1 _ rfl
  have d2 := Z2.out.c 2 _ rfl
  have d3 := Z2.out.c 3 _ rfl
  have d4 := Z2.out.c 4 _ rfl
  have d5 := Z2.out.c 5 _ rfl
  have d6 := Z2.out.c 6 _ rfl
  go_upto_region 5 with (go_at_call 28; refine (HP.out _ _ _ Q1.out B2.out).mono ?_; rintro e9 w3 ⟨⟨u, rfl⟩, b3, k3⟩; rw [List.nil_append] at b3; have B3 := hid b3; clear b3 k3)
  have HS := hid (Tryz.Builder_String_any w1.heap.size w1.heap.size T w3 B3.out.1 B3.out.2.size)
  clear d0 d1 d2 d3 d4 d5 d6
  go_wp2_with (go_at_call 29; refine HS.out.mono ?_; rintro e9 w4 ⟨rfl, q4⟩; have Q4 : Hid (Q w1 w4) := hid (Below.trans B3.out.2 q4); clear q4)
  go_ret
  exact ⟨rfl, Q1.out.trans Q4.out⟩
def isZ : Ex → Bool
  | .mk k n t b e rs ks => decide (k = 0 ∧ n = 0 ∧ t = [] ∧ b = false ∧ e = 0 ∧ rs = [] ∧ ks.length = 0)
theorem isZ_iff (x : Ex) : isZ x = true ↔ x = zeroE := by
  obtain ⟨k, n, t, b, e, rs, ks⟩ := x
  unfold isZ zeroE
  constructor
  · intro h
    simp only [decide_eq_true_eq] at h
    obtain ⟨rfl, rfl, rfl, rfl, rfl, rfl, h7⟩ := h
    rw [List.eq_nil_of_length_eq_zero h7]
  · intro h
    cases h
    decide
theorem ans_isZ {x : Ex} {e : Ending} (h : Ans (x = zeroE) e) : e = .returned (.bool (isZ x)) := by
  obtain ⟨r, he, hr⟩ := h
  rw [he]
  have : r = isZ x := by
    cases hz : isZ x
    · cases r
      · rfl
      · have := (isZ_iff x).2 (hr.1 rfl)
        rw [hz] at this
        cases this
    · exact hr.2 ((isZ_iff x).1 hz)
  rw [this]
set_option maxHeartbeats 4000000 in
theorem smay_form (vk vn : Int) (vt : ByteArray) (vb : Bool) (ve : Int) (k m : Int) (t : ByteArray) (bb : Bool) (er : Int) (a1 : Option Addr) (l1 c1 : Nat) (a2 : Option Addr) (l2 c2 : Nat) (X : Ex) (w : World) (hg : Gd w) (hs : Sm X) (hr : Rd w X (.agg #[.int .i64 k, .int .i64 m, .string t, .bool bb, .int .i64 er, .slice a1 l1 c1, .slice a2 l2 c2])) : Calls Tryz.prog 21 #[.agg #[.bool true, .int .i64 vk, .int .i64 vn, .string vt, .bool vb, .int .i64 ve, .int .i64 k, .int .i64 m, .string t, .bool bb, .int .i64 er, .slice a1 l1 c1, .slice a2 l2 c2]] w fun e W' => e = .returned (.bool ((fitB X && mall mayN X) && decide (vk = 0 ∧ vn = 0 ∧ vt.data.toList = [] ∧ vb = false ∧ ve = 0))) ∧ Q w W' := by
  have HM := hid (fun W' (q : Q w W') => pmay_any X _ W' (hg.on q) hs (Rd.on q _ _ hr))
  have HV := hid (fun W' => veq_any vk vn vt vb ve 0 0 ⟨#[]⟩ false 0 W')
  unfold vx at HV
  rw [show (⟨#[]⟩ : ByteArray).data.toList = [] from rfl] at HV
  generalize decide (vk = 0 ∧ vn = 0 ∧ vt.data.toList = [] ∧ vb = false ∧ ve = 0) = r2 at HV ⊢
  clear hr hg hs
  cases h1 : (fitB X && mall mayN X)
  · rw [h1] at HM
    go_enter Tryz.func21, Tryz.ntmps21
    go_wp2_with (go_at_call 27; refine (HM.out _ ((Q.refl _).alloc _)).mono ?_; rintro e9 w1 ⟨rfl, q1⟩; have Q1 : Hid (Q w w1) := hid (((Q.refl _).alloc _).trans q1); clear q1)
    go_ret
    exact ⟨by simp, Q1.out⟩
  · rw [h1] at HM
    go_enter Tryz.func21, Tryz.ntmps21
    go_wp2_with (first | (go_at_call 27; refine (HM.out _ ((Q.refl _).alloc _)).mono ?_; rintro e9 w1 ⟨rfl, q1⟩; have Q1 : Hid (Q w w1) := hid (((Q.refl _).alloc _).trans q1); have Z1 := hid ((cb_new w [.bool true, .int .i64 vk, .int .i64 vn, .string vt, .bool vb, .int .i64 ve, .int .i64 k, .int .i64 m, .string t, .bool bb, .int .i64 er, .slice a1 l1 c1, .slice a2 l2 c2] 39).on q1); clear q1; have d0 := Z1.out.c 0 _ rfl; have d1 := Z1.out.c 1 _ rfl; have d2 := Z1.out.c 2 _ rfl; have d3 := Z1.out.c 3 _ rfl; have d4 := Z1.out.c 4 _ rfl; have d5 := Z1.out.c 5 _ rfl; have d6 := Z1.out.c 6 _ rfl; have d7 := Z1.out.c 7 _ rfl; have d8 := Z1.out.c 8 _ rfl; have d9 := Z1.out.c 9 _ rfl; have d10 := Z1.out.c 10 _ rfl; have d11 := Z1.out.c 11 _ rfl; have d12 := Z1.out.c 12 _ rfl) | (go_at_call 51; refine (HV.out _).mono ?_; rintro e9 w2 ⟨rfl, q2⟩; have Q2 := hid (Q1.out.trans q2); clear q2))
    go_ret
    exact ⟨by simp, Q2.out⟩
set_option maxHeartbeats 4000000 in
theorem smay_val (vk vn : Int) (vt : ByteArray) (vb : Bool) (ve : Int) (k m : Int) (t : ByteArray) (bb : Bool) (er : Int) (a1 : Option Addr) (l1 c1 : Nat) (a2 : Option Addr) (l2 c2 : Nat) (X : Ex) (w : World) (hg : Gd w) (hv : vt.size ≤ 1000000) (hn : nodes X ≤ 1000) (hr : Rd w X (.agg #[.int .i64 k, .int .i64 m, .string t, .bool bb, .int .i64 er, .slice a1 l1 c1, .slice a2 l2 c2])) : Calls Tryz.prog 21 #[.agg #[.bool false, .int .i64 vk, .int .i64 vn, .string vt, .bool vb, .int .i64 ve, .int .i64 k, .int .i64 m, .string t, .bool bb, .int .i64 er, .slice a1 l1 c1, .slice a2 l2 c2]] w fun e W' => e = .returned (.bool (V.mayB vk vn vt.data.toList vb ve && isZ X)) ∧ Q w W' := by
  have HM := hid (fun W' (q : Q w W') => V.may_any vk vn vt vb ve W' (hg.1.on q) (by omega))
  unfold V.vv at HM
  rw [Lib.toList_data] at HM
  have HV := hid (fun W' (q : Q w W') => eq_any X zeroE _ _ W' (Rd.on q _ _ hr) (rd_zero W') hn)
  clear hr hg hv hn
  cases h1 : V.mayB vk vn vt.data.toList vb ve
  · rw [h1] at HM
    go_enter Tryz.func21, Tryz.ntmps21
    go_wp2_with (go_at_call 43; refine (HM.out _ ((Q.refl _).alloc _)).mono ?_; rintro e9 w1 ⟨rfl, q1⟩; have Q1 : Hid (Q w w1) := hid (((Q.refl _).alloc _).trans q1); clear q1)
    go_ret
    exact ⟨by simp, Q1.out⟩
  · rw [h1] at HM
    go_enter Tryz.func21, Tryz.ntmps21
    go_wp2_with (first | (go_at_call 43; refine (HM.out _ ((Q.refl _).alloc _)).mono ?_; rintro e9 w1 ⟨rfl, q1⟩; have Q1 : Hid (Q w w1) := hid (((Q.refl _).alloc _).trans q1); have Z1 := hid ((cb_new w [.bool false, .int .i64 vk, .int .i64 vn, .string vt, .bool vb, .int .i64 ve, .int .i64 k, .int .i64 m, .string t, .bool bb, .int .i64 er, .slice a1 l1 c1, .slice a2 l2 c2] 39).on q1); clear q1; have d0 := Z1.out.c 0 _ rfl; have d1 := Z1.out.c 1 _ rfl; have d2 := Z1.out.c 2 _ rfl; have d3 := Z1.out.c 3 _ rfl; have d4 := Z1.out.c 4 _ rfl; have d5 := Z1.out.c 5 _ rfl; have d6 := Z1.out.c 6 _ rfl; have d7 := Z1.out.c 7 _ rfl; have d8 := Z1.out.c 8 _ rfl; have d9 := Z1.out.c 9 _ rfl; have d10 := Z1.out.c 10 _ rfl; have d11 := Z1.out.c 11 _ rfl; have d12 := Z1.out.c 12 _ rfl) | (go_at_call 52; refine (HV.out _ Q1.out).mono ?_; rintro e9 w2 ⟨ha, q2⟩; have he := ans_isZ ha; subst he; have Q2 := hid (Q1.out.trans q2); clear q2 ha))
    go_ret
    exact ⟨by simp, Q2.out⟩
theorem read_any (s : ByteArray) (y : Ex × Nat) (hz : PzR (s.data.toList.drop 1) y) (hs : s.size ≤ 100000) (W : World) (hw : Std W) : Calls Tryz.prog 16 #[.string s] W fun e W' => RepC W (showT s.data.toList y) e W' := by
  unfold showT
  by_cases hp : Lib.hasPrefix s.data.toList [61] = true
  · rw [if_pos hp]
    exact read_eq s _ y W hw hp rfl (hid fun W' g => pz_prog (s := ⟨(s.data.toList.drop 1).toArray⟩) hz (by rw [size_mk, List.length_drop, len_data]; omega) W' g)
  · rw [if_neg hp]
    exact read_val s W hw hs (by simpa using hp)
def ctx (l : List UInt8) : List UInt8 := if Lib.hasPrefix l [61] = false ∧ (valT l).1.2.1 = (2, 0, l, false, 0) then l else 39 :: l
theorem ctx_show (l : List UInt8) (y : Ex × Nat) : ctx l = if (showT l y).1.2.1 = (2, 0, l, false, 0) then l else 39 :: l := by
  unfold ctx showT
  by_cases hp : Lib.hasPrefix l [61] = true
  · rw [if_pos hp, if_neg (fun x => by rw [hp] at x; cases x.1), if_neg]
    unfold frm
    split
    · intro e; cases e
    · intro e; cases e
  · have hp' : Lib.hasPrefix l [61] = false := by simpa using hp
    rw [if_neg hp]
    by_cases h : (valT l).1.2.1 = (2, 0, l, false, 0)
    · rw [if_pos ⟨hp', h⟩, if_pos h]
    · rw [if_neg (fun x => h x.2), if_neg h]
set_option maxHeartbeats 8000000 in
theorem cellText_any (tv : ByteArray) (w : World) (hg : Gd w) (hs : tv.size ≤ 100000) : Calls Tryz.prog 53 #[.agg #[.int .i64 2, .int .i64 0, .string tv, .bool false, .int .i64 0]] w fun e W' => e = .returned (.string ⟨(ctx tv.data.toList).toArray⟩) ∧ Q w W' := by
  obtain ⟨y, hy⟩ := pz_total (tv.data.toList.drop 1)
  have HR := hid (fun W' (g : Std W') => read_any tv y hy hs W' g)
  have HCT := hid (ctx_show tv.data.toList y)
  obtain ⟨⟨⟨f, ⟨vk, vn, vl, vb, ve⟩, X⟩, er0⟩, hsT⟩ : ∃ r, showT tv.data.toList y = r := ⟨_, rfl⟩
  rw [hsT] at HR HCT
  obtain ⟨vt, hvt⟩ : ∃ vt : ByteArray, (⟨vl.toArray⟩ : ByteArray) = vt := ⟨_, rfl⟩
  have hvl : vt.data.toList = vl := by rw [← hvt]
  subst hvl
  have HV := hid (fun W' => veq_any vk vn vt vb ve 2 0 tv false 0 W')
  unfold vx at HV
  have HC2 : Hid (ctx tv.data.toList = if decide (vk = 2 ∧ vn = 0 ∧ vt.data.toList = tv.data.toList ∧ vb = false ∧ ve = 0) = true then tv.data.toList else 39 :: tv.data.toList) := by
    show _ = _
    rw [HCT.out]
    congr 1
    simp
  generalize decide (vk = 2 ∧ vn = 0 ∧ vt.data.toList = tv.data.toList ∧ vb = false ∧ ve = 0) = rr at HV HC2
  have HCl := hid (fun W' => clone_any tv W' (by omega))
  have HG := hid hg
  have nS : ¬ (9223372036854775807 < 1 + tv.size) := by omega
  obtain ⟨S2, hS2⟩ : ∃ S : ByteArray, (⟨#[39]⟩ : ByteArray) ++ tv = S := ⟨_, rfl⟩
  have HS2 : Hid (S2 = ⟨(39 :: tv.data.toList).toArray⟩) := by
    show _ = _
    rw [← hS2]
    apply ByteArray.ext
    simp
  clear hg hy hsT HCT hs
  unfold RepC RdC at HR
  simp only [bytes_of] at HR
  cases rr with
  | true =>
    rw [HC2.out, if_pos rfl, bytes_of]
    go_enter Tryz.func53, Tryz.ntmps53
    go_upto_region 2 with (go_at_call 16; refine (HR.out _ (HG.out.on ((Q.refl _).alloc _)).1).mono ?_; rintro e9 w3 ⟨v, rfl, ⟨k, m, t, bb, er, a1, l1, c1, a2, l2, c2, rfl, _⟩, q3⟩; have Z1 := hid ((cb_new w [.int .i64 2, .int .i64 0, .string tv, .bool false, .int .i64 0] 37).on q3); have Q3 : Hid (Q w w3) := hid (((Q.refl _).alloc _).trans q3); clear q3)
    have Z2 := hid (cb_new w3 [.bool f, .int .i64 vk, .int .i64 vn, .string vt, .bool vb, .int .i64 ve, .int .i64 k, .int .i64 m, .string t, .bool bb, .int .i64 er, .slice a1 l1 c1, .slice a2 l2 c2] 39)
    have Z12 := hid (Z1.out.on ((Q.refl w3).alloc (.cells #[.bool f, .int .i64 vk, .int .i64 vn, .string vt, .bool vb, .int .i64 ve, .int .i64 k, .int .i64 m, .string t, .bool bb, .int .i64 er, .slice a1 l1 c1, .slice a2 l2 c2] 39)))
    have Q4 := hid (Q3.out.alloc (.cells #[.bool f, .int .i64 vk, .int .i64 vn, .string vt, .bool vb, .int .i64 ve, .int .i64 k, .int .i64 m, .string t, .bool bb, .int .i64 er, .slice a1 l1 c1, .slice a2 l2 c2] 39))
    rw [show ([.bool f, .int .i64 vk, .int .i64 vn, .string vt, .bool vb, .int .i64 ve, .int .i64 k, .int .i64 m, .string t, .bool bb, .int .i64 er, .slice a1 l1 c1, .slice a2 l2 c2] : List Value).toArray = #[.bool f, .int .i64 vk, .int .i64 vn, .string vt, .bool vb, .int .i64 ve, .int .i64 k, .int .i64 m, .string t, .bool bb, .int .i64 er, .slice a1 l1 c1, .slice a2 l2 c2] from rfl] at Z2
    generalize w3.alloc (.cells #[.bool f, .int .i64 vk, .int .i64 vn, .string vt, .bool vb, .int .i64 ve, .int .i64 k, .int .i64 m, .string t, .bool bb, .int .i64 er, .slice a1 l1 c1, .slice a2 l2 c2] 39) = w4 at Z2 Z12 Q4 ⊢
    generalize w3.heap.size = b4 at Z2 ⊢
    clear Z1 Q3
    have d0 := Z2.out.c 0 _ rfl
    have d1 := Z2.out.c 1 _ rfl
    have d2 := Z2.out.c 2 _ rfl
    have d3 := Z2.out.c 3 _ rfl
    have d4 := Z2.out.c 4 _ rfl
    have d5 := Z2.out.c 5 _ rfl
    have d6 := Z2.out.c 6 _ rfl
    have d7 := Z2.out.c 7 _ rfl
    have d8 := Z2.out.c 8 _ rfl
    have d9 := Z2.out.c 9 _ rfl
    have d10 := Z2.out.c 10 _ rfl
    have d11 := Z2.out.c 11 _ rfl
    have d12 := Z2.out.c 12 _ rfl
    have x0 := Z12.out.c 0 _ rfl
    have x1 := Z12.out.c 1 _ rfl
    have x2 := Z12.out.c 2 _ rfl
    have x3 := Z12.out.c 3 _ rfl
    have x4 := Z12.out.c 4 _ rfl
    go_wp2_with (first | (go_at_call 51; refine (HV.out _).mono ?_; rintro e9 w5 ⟨rfl, q5⟩; have Q5 := hid (Q4.out.trans q5); have Z15 := hid (Z12.out.on q5); clear q5; have n0 := Z15.out.c 2 _ rfl) | (go_at_call 89; refine (HCl.out _).mono ?_; rintro e9 w6 ⟨rfl, q6⟩; have Q6 := hid (Q5.out.trans q6); clear q6))
    go_ret
    exact ⟨rfl, Q6.out⟩
  | false =>
    rw [HC2.out, if_neg (by simp), ← HS2.out]
    go_enter Tryz.func53, Tryz.ntmps53
    go_upto_region 2 with (go_at_call 16; refine (HR.out _ (HG.out.on ((Q.refl _).alloc _)).1).mono ?_; rintro e9 w3 ⟨v, rfl, ⟨k, m, t, bb, er, a1, l1, c1, a2, l2, c2, rfl, _⟩, q3⟩; have Z1 := hid ((cb_new w [.int .i64 2, .int .i64 0, .string tv, .bool false, .int .i64 0] 37).on q3); have Q3 : Hid (Q w w3) := hid (((Q.refl _).alloc _).trans q3); clear q3)
    have Z2 := hid (cb_new w3 [.bool f, .int .i64 vk, .int .i64 vn, .string vt, .bool vb, .int .i64 ve, .int .i64 k, .int .i64 m, .string t, .bool bb, .int .i64 er, .slice a1 l1 c1, .slice a2 l2 c2] 39)
    have Z12 := hid (Z1.out.on ((Q.refl w3).alloc (.cells #[.bool f, .int .i64 vk, .int .i64 vn, .string vt, .bool vb, .int .i64 ve, .int .i64 k, .int .i64 m, .string t, .bool bb, .int .i64 er, .slice a1 l1 c1, .slice a2 l2 c2] 39)))
    have Q4 := hid (Q3.out.alloc (.cells #[.bool f, .int .i64 vk, .int .i64 vn, .string vt, .bool vb, .int .i64 ve, .int .i64 k, .int .i64 m, .string t, .bool bb, .int .i64 er, .slice a1 l1 c1, .slice a2 l2 c2] 39))
    rw [show ([.bool f, .int .i64 vk, .int .i64 vn, .string vt, .bool vb, .int .i64 ve, .int .i64 k, .int .i64 m, .string t, .bool bb, .int .i64 er, .slice a1 l1 c1, .slice a2 l2 c2] : List Value).toArray = #[.bool f, .int .i64 vk, .int .i64 vn, .string vt, .bool vb, .int .i64 ve, .int .i64 k, .int .i64 m, .string t, .bool bb, .int .i64 er, .slice a1 l1 c1, .slice a2 l2 c2] from rfl] at Z2
    generalize w3.alloc (.cells #[.bool f, .int .i64 vk, .int .i64 vn, .string vt, .bool vb, .int .i64 ve, .int .i64 k, .int .i64 m, .string t, .bool bb, .int .i64 er, .slice a1 l1 c1, .slice a2 l2 c2] 39) = w4 at Z2 Z12 Q4 ⊢
    generalize w3.heap.size = b4 at Z2 ⊢
    clear Z1 Q3
    have d0 := Z2.out.c 0 _ rfl
    have d1 := Z2.out.c 1 _ rfl
    have d2 := Z2.out.c 2 _ rfl
    have d3 := Z2.out.c 3 _ rfl
    have d4 := Z2.out.c 4 _ rfl
    have d5 := Z2.out.c 5 _ rfl
    have d6 := Z2.out.c 6 _ rfl
    have d7 := Z2.out.c 7 _ rfl
    have d8 := Z2.out.c 8 _ rfl
    have d9 := Z2.out.c 9 _ rfl
    have d10 := Z2.out.c 10 _ rfl
    have d11 := Z2.out.c 11 _ rfl
    have d12 := Z2.out.c 12 _ rfl
    have x0 := Z12.out.c 0 _ rfl
    have x1 := Z12.out.c 1 _ rfl
    have x2 := Z12.out.c 2 _ rfl
    have x3 := Z12.out.c 3 _ rfl
    have x4 := Z12.out.c 4 _ rfl
    go_wp2_with (go_at_call 51; refine (HV.out _).mono ?_; rintro e9 w5 ⟨rfl, q5⟩; have Q5 := hid (Q4.out.trans q5); have Z15 := hid (Z12.out.on q5); clear q5; have n0 := Z15.out.c 2 _ rfl)
    go_ret
    exact ⟨rfl, Q5.out⟩
set_option maxHeartbeats 4000000 in
theorem scell_form (vk vn : Int) (vt : ByteArray) (vb : Bool) (ve : Int) (k m : Int) (t : ByteArray) (bb : Bool) (er : Int) (a1 : Option Addr) (l1 c1 : Nat) (a2 : Option Addr) (l2 c2 : Nat) (T : ByteArray) (w : World) (hT : T.size ≤ 1000000) (HM : Hid (∀ W', Q w W' → Calls Tryz.prog 21 #[.agg #[.bool true, .int .i64 vk, .int .i64 vn, .string vt, .bool vb, .int .i64 ve, .int .i64 k, .int .i64 m, .string t, .bool bb, .int .i64 er, .slice a1 l1 c1, .slice a2 l2 c2]] W' fun e W2 => e = .returned (.bool true) ∧ Q W' W2)) (HF : Hid (∀ W', Q w W' → Calls Tryz.prog 10 #[.agg #[.int .i64 k, .int .i64 m, .string t, .bool bb, .int .i64 er, .slice a1 l1 c1, .slice a2 l2 c2]] W' fun e W2 => e = .returned (.string T) ∧ Q W' W2)) : Calls Tryz.prog 22 #[.agg #[.bool true, .int .i64 vk, .int .i64 vn, .string vt, .bool vb, .int .i64 ve, .int .i64 k, .int .i64 m, .string t, .bool bb, .int .i64 er, .slice a1 l1 c1, .slice a2 l2 c2]] w fun e W' => e = .returned (.string ⟨(61 :: T.data.toList).toArray⟩) ∧ Q w W' := by
  have nS : ¬ (9223372036854775807 < 1 + T.size) := by omega
  obtain ⟨S2, hS2⟩ : ∃ S : ByteArray, (⟨#[61]⟩ : ByteArray) ++ T = S := ⟨_, rfl⟩
  have HS2 : Hid (S2 = ⟨(61 :: T.data.toList).toArray⟩) := by
    show _ = _
    rw [← hS2]
    apply ByteArray.ext
    simp
  rw [← HS2.out]
  clear hT
  go_enter Tryz.func22, Tryz.ntmps22
  go_wp2_with (first | (go_at_call 21; refine (HM.out _ ((Q.refl _).alloc _)).mono ?_; rintro e9 w1 ⟨rfl, q1⟩; have Q1 : Hid (Q w w1) := hid (((Q.refl _).alloc _).trans q1); have Z1 := hid ((cb_new w [.bool true, .int .i64 vk, .int .i64 vn, .string vt, .bool vb, .int .i64 ve, .int .i64 k, .int .i64 m, .string t, .bool bb, .int .i64 er, .slice a1 l1 c1, .slice a2 l2 c2] 39).on q1); clear q1; have d0 := Z1.out.c 0 _ rfl; have d1 := Z1.out.c 1 _ rfl; have d2 := Z1.out.c 2 _ rfl; have d3 := Z1.out.c 3 _ rfl; have d4 := Z1.out.c 4 _ rfl; have d5 := Z1.out.c 5 _ rfl; have d6 := Z1.out.c 6 _ rfl; have d7 := Z1.out.c 7 _ rfl; have d8 := Z1.out.c 8 _ rfl; have d9 := Z1.out.c 9 _ rfl; have d10 := Z1.out.c 10 _ rfl; have d11 := Z1.out.c 11 _ rfl; have d12 := Z1.out.c 12 _ rfl) | (go_at_call 10; refine (HF.out _ Q1.out).mono ?_; rintro e9 w2 ⟨rfl, q2⟩; have Q2 := hid (Q1.out.trans q2); clear q2))
  go_ret
  exact ⟨rfl, Q2.out⟩
set_option maxHeartbeats 4000000 in
theorem scell_2 (vn : Int) (vt : ByteArray) (vb : Bool) (ve : Int) (k m : Int) (t : ByteArray) (bb : Bool) (er : Int) (a1 : Option Addr) (l1 c1 : Nat) (a2 : Option Addr) (l2 c2 : Nat) (T : ByteArray) (w : World) (HM : Hid (∀ W', Q w W' → Calls Tryz.prog 21 #[.agg #[.bool false, .int .i64 2, .int .i64 vn, .string vt, .bool vb, .int .i64 ve, .int .i64 k, .int .i64 m, .string t, .bool bb, .int .i64 er, .slice a1 l1 c1, .slice a2 l2 c2]] W' fun e W2 => e = .returned (.bool true) ∧ Q W' W2)) (HF : Hid (∀ W', Q w W' → Calls Tryz.prog 53 #[.agg #[.int .i64 2, .int .i64 vn, .string vt, .bool vb, .int .i64 ve]] W' fun e W2 => e = .returned (.string T) ∧ Q W' W2)) : Calls Tryz.prog 22 #[.agg #[.bool false, .int .i64 2, .int .i64 vn, .string vt, .bool vb, .int .i64 ve, .int .i64 k, .int .i64 m, .string t, .bool bb, .int .i64 er, .slice a1 l1 c1, .slice a2 l2 c2]] w fun e W' => e = .returned (.string T) ∧ Q w W' := by
  go_enter Tryz.func22, Tryz.ntmps22
  go_wp2_with (first | (go_at_call 21; refine (HM.out _ ((Q.refl _).alloc _)).mono ?_; rintro e9 w1 ⟨rfl, q1⟩; have Q1 : Hid (Q w w1) := hid (((Q.refl _).alloc _).trans q1); have Z1 := hid ((cb_new w [.bool false, .int .i64 2, .int .i64 vn, .string vt, .bool vb, .int .i64 ve, .int .i64 k, .int .i64 m, .string t, .bool bb, .int .i64 er, .slice a1 l1 c1, .slice a2 l2 c2] 39).on q1); clear q1; have d0 := Z1.out.c 0 _ rfl; have d1 := Z1.out.c 1 _ rfl; have d2 := Z1.out.c 2 _ rfl; have d3 := Z1.out.c 3 _ rfl; have d4 := Z1.out.c 4 _ rfl; have d5 := Z1.out.c 5 _ rfl; have d6 := Z1.out.c 6 _ rfl; have d7 := Z1.out.c 7 _ rfl; have d8 := Z1.out.c 8 _ rfl; have d9 := Z1.out.c 9 _ rfl; have d10 := Z1.out.c 10 _ rfl; have d11 := Z1.out.c 11 _ rfl; have d12 := Z1.out.c 12 _ rfl) | (go_at_call 53; refine (HF.out _ Q1.out).mono ?_; rintro e9 w2 ⟨rfl, q2⟩; have Q2 := hid (Q1.out.trans q2); clear q2))
  go_ret
  exact ⟨rfl, Q2.out⟩
def xb : Ex := binE [42] (binE [43] (numE 10000) (refE ([], 1, 0, false, false))) (numE 30000)
def xbW : List Wd := [⟨6, [40], 0⟩, ⟨1, [49], 1⟩, ⟨6, [43], 2⟩, ⟨3, [65, 50], 3⟩, ⟨6, [41], 5⟩, ⟨6, [42], 6⟩, ⟨1, [51], 7⟩, ⟨7, [], 8⟩]
theorem xb_pz : PzR [40, 49, 43, 65, 50, 41, 42, 51] (xb, 0) := .inr ⟨xbW, 0, 20, some (xb, 7), by kernel_rfl, by kernel_rfl, by kernel_rfl⟩
theorem xb_may : (fitB xb && mall mayN xb) = true := by decide +kernel
theorem xb_sm : Sm xb := by
  unfold xb binE refE numE
  simp [Sm, Sm.SmL]
theorem num_wri (i : Nat) (h : i < 100) (hd : (Lib.decDigits i).length ≤ 100) (h0 : 0 < (Lib.decDigits i).length) : Wri (numE ((i : Int) * 10000)) (Lib.decDigits i) :=
  pr_num ((i : Int) * 10000) ⟨(Lib.decDigits i).toArray⟩ (by rw [size_mk]; exact h0) (hid fun W => print_small i h hd W)
theorem xb_wri : Wri xb [40, 49, 43, 65, 50, 41, 42, 51] := by
  have h1 : Wri (numE 10000) [49] := by
    have h := num_wri 1 (by omega) (by decide +kernel) (by decide +kernel)
    rw [show Lib.decDigits 1 = [49] by decide +kernel] at h
    exact h
  have h3 : Wri (numE 30000) [51] := by
    have h := num_wri 3 (by omega) (by decide +kernel) (by decide +kernel)
    rw [show Lib.decDigits 3 = [51] by decide +kernel] at h
    exact h
  have h2 : Wri (refE ([], 1, 0, false, false)) [65, 50] := by
    have h := pr_ref ([], 1, 0, false, false) (by simp) (by decide +kernel)
    simp only at h
    rw [show prR [] 1 0 false false = [65, 50] by decide +kernel] at h
    exact h
  exact pr_bin [42] _ _ _ _ (by decide) (pr_bin [43] _ _ _ _ (by decide) h1 h2) h3
def cA : Cl := (true, zV, xb)
def cB : Cl := (false, (2, 0, [53], false, 0), zeroE)
theorem RdC.on0 {B : Nat} {W W' : World} {c : Cl} {v : Value} (h : RdC B W c v) (q : Q W W') (hB : 0 < B) : RdC B W' c v := h.on (Qx.of (p := 0) q) hB
theorem mayA {v : Value} {B : Nat} {w : World} (hg : Gd w) (hr : RdC B w cA v) : Calls Tryz.prog 21 #[v] w fun e W' => e = .returned (.bool true) ∧ Q w W' := by
  obtain ⟨k, m, t, bb, er, a1, l1, c1, a2, l2, c2, rfl, hd⟩ := hr
  refine (smay_form 0 0 ⟨#[]⟩ false 0 k m t bb er a1 l1 c1 a2 l2 c2 xb w hg xb_sm (Rdg.rd _ _ hd)).mono ?_
  rintro e W' ⟨rfl, q⟩
  rw [xb_may]
  exact ⟨by simp, q⟩
theorem mayBB {v : Value} {B : Nat} {w : World} (hg : Gd w) (hr : RdC B w cB v) : Calls Tryz.prog 21 #[v] w fun e W' => e = .returned (.bool true) ∧ Q w W' := by
  obtain ⟨k, m, t, bb, er, a1, l1, c1, a2, l2, c2, rfl, hd⟩ := hr
  refine (smay_val 2 0 ⟨#[53]⟩ false 0 k m t bb er a1 l1 c1 a2 l2 c2 zeroE w hg (by decide) (by decide) (Rdg.rd _ _ hd)).mono ?_
  rintro e W' ⟨rfl, q⟩
  exact ⟨ret_bool (by decide +kernel), q⟩
theorem cellA {v : Value} {B : Nat} {w : World} (hg : Gd w) (hB : 0 < B) (hr : RdC B w cA v) : Calls Tryz.prog 22 #[v] w fun e W' => e = .returned (.string ⟨[61, 40, 49, 43, 65, 50, 41, 42, 51].toArray⟩) ∧ Q w W' := by
  have HM := hid (fun W' (q : Q w W') => mayA (hg.on q) (hr.on0 q hB))
  obtain ⟨k, m, t, bb, er, a1, l1, c1, a2, l2, c2, rfl, hd⟩ := hr
  have hd := Rdg.rd _ _ hd
  exact scell_form 0 0 ⟨#[]⟩ false 0 k m t bb er a1 l1 c1 a2 l2 c2 ⟨#[40, 49, 43, 65, 50, 41, 42, 51]⟩ w (by decide) HM (hid fun W' q => form_of xb [40, 49, 43, 65, 50, 41, 42, 51] xb_wri (by decide) _ W' (hg.on q) xb_sm xb_may (Rd.on q _ _ hd))
theorem cellB {v : Value} {B : Nat} {w : World} (hg : Gd w) (hB : 0 < B) (hr : RdC B w cB v) : Calls Tryz.prog 22 #[v] w fun e W' => e = .returned (.string ⟨[39, 53].toArray⟩) ∧ Q w W' := by
  have HM := hid (fun W' (q : Q w W') => mayBB (hg.on q) (hr.on0 q hB))
  obtain ⟨k, m, t, bb, er, a1, l1, c1, a2, l2, c2, rfl, hd⟩ := hr
  refine scell_2 0 ⟨#[53]⟩ false 0 k m t bb er a1 l1 c1 a2 l2 c2 ⟨#[39, 53]⟩ w HM (hid fun W' q => ?_)
  have h := cellText_any ⟨#[53]⟩ W' (hg.on q) (by decide)
  rw [show ctx (⟨#[53]⟩ : ByteArray).data.toList = [39, 53] by decide +kernel] at h
  exact h
set_option maxHeartbeats 8000000 in
theorem sbegun_any (w : World) (hg : Gd w) : Calls Tryz.prog 8 #[] w fun e W' => e = .returned (.bool true) ∧ Q w W' := by
  obtain ⟨y5, hy5⟩ := pz_total [53]
  have HA : Hid (∀ W', Std W' → Calls Tryz.prog 16 #[.string ⟨#[61, 40, 49, 43, 65, 50, 41, 42, 51]⟩] W' fun e W2 => RepC W' (cA, 0) e W2) := fun W' g => by
    have := read_any ⟨#[61, 40, 49, 43, 65, 50, 41, 42, 51]⟩ (xb, 0) xb_pz (by decide) W' g
    exact this
  have HB : Hid (∀ W', Std W' → Calls Tryz.prog 16 #[.string ⟨#[39, 53]⟩] W' fun e W2 => RepC W' (cB, 0) e W2) := fun W' g => by
    have := read_any ⟨#[39, 53]⟩ y5 hy5 (by decide) W' g
    rw [show showT (⟨#[39, 53]⟩ : ByteArray).data.toList y5 = (cB, 0) by unfold showT; rw [if_neg (by decide +kernel)]; kernel_rfl] at this
    exact this
  have HCA := hid (fun W' B v (g : Gd W') (hB : 0 < B) (hr : RdC B W' cA v) => cellA g hB hr)
  have HCB := hid (fun W' B v (g : Gd W') (hB : 0 < B) (hr : RdC B W' cB v) => cellB g hB hr)
  have HMA := hid (fun W' B v (g : Gd W') (hr : RdC B W' cA v) => mayA g hr)
  have HG := hid hg
  clear hg
  go_enter Tryz.func8, Tryz.ntmps8
  go_upto_region 2 with (go_at_call 16; refine (HA.out _ HG.out.1).mono ?_; rintro e9 w1 ⟨v, rfl, hr, q1⟩; have hr0 := hid hr; obtain ⟨k, m, t, bb, er, a1, l1, c1, a2, l2, c2, rfl, _⟩ := hr; have R1 := hr0; have Q1 := hid q1; clear q1 hr0)
  have hB0 : 0 < w.heap.size := Nat.lt_of_le_of_lt (Nat.zero_le _) HG.out.1.big
  have Z1 := hid (cb_new w1 [.bool true, .int .i64 0, .int .i64 0, .string ⟨#[]⟩, .bool false, .int .i64 0, .int .i64 k, .int .i64 m, .string t, .bool bb, .int .i64 er, .slice a1 l1 c1, .slice a2 l2 c2] 39)
  have R2 := hid (R1.out.on0 ((Q.refl w1).alloc (.cells #[.bool true, .int .i64 0, .int .i64 0, .string ⟨#[]⟩, .bool false, .int .i64 0, .int .i64 k, .int .i64 m, .string t, .bool bb, .int .i64 er, .slice a1 l1 c1, .slice a2 l2 c2] 39)) hB0)
  have Q2 := hid (Q1.out.alloc (.cells #[.bool true, .int .i64 0, .int .i64 0, .string ⟨#[]⟩, .bool false, .int .i64 0, .int .i64 k, .int .i64 m, .string t, .bool bb, .int .i64 er, .slice a1 l1 c1, .slice a2 l2 c2] 39))
  rw [show ([.bool true, .int .i64 0, .int .i64 0, .string ⟨#[]⟩, .bool false, .int .i64 0, .int .i64 k, .int .i64 m, .string t, .bool bb, .int .i64 er, .slice a1 l1 c1, .slice a2 l2 c2] : List Value).toArray = #[.bool true, .int .i64 0, .int .i64 0, .string ⟨#[]⟩, .bool false, .int .i64 0, .int .i64 k, .int .i64 m, .string t, .bool bb, .int .i64 er, .slice a1 l1 c1, .slice a2 l2 c2] from rfl] at Z1
  simp only [cA, zV] at ⊢
  generalize w1.alloc (.cells #[.bool true, .int .i64 0, .int .i64 0, .string ⟨#[]⟩, .bool false, .int .i64 0, .int .i64 k, .int .i64 m, .string t, .bool bb, .int .i64 er, .slice a1 l1 c1, .slice a2 l2 c2] 39) = w2 at Z1 R2 Q2 ⊢
  generalize w1.heap.size = b2 at Z1 ⊢
  clear R1 Q1
  go_upto_region 3 with (go_at_call 16; refine (HB.out _ (HG.out.on Q2.out).1).mono ?_; rintro e9 w3 ⟨v, rfl, hr, q3⟩; have hr0 := hid hr; obtain ⟨k', m', t', bb', er', a1', l1', c1', a2', l2', c2', rfl, _⟩ := hr; have R3 := hr0; have Q3 := hid q3; clear q3 hr0)
  have hB2 : 0 < w2.heap.size := Nat.lt_of_le_of_lt (Nat.zero_le _) Z1.out.l
  simp only [cB] at ⊢
  have Z2 := hid (cb_new w3 [.bool false, .int .i64 2, .int .i64 0, .string ⟨#[53]⟩, .bool false, .int .i64 0, .int .i64 k', .int .i64 m', .string t', .bool bb', .int .i64 er', .slice a1' l1' c1', .slice a2' l2' c2'] 39)
  have Z12 := hid (Z1.out.on (Q3.out.alloc (.cells #[.bool false, .int .i64 2, .int .i64 0, .string ⟨#[53]⟩, .bool false, .int .i64 0, .int .i64 k', .int .i64 m', .string t', .bool bb', .int .i64 er', .slice a1' l1' c1', .slice a2' l2' c2'] 39)))
  have RA : Hid (RdC w.heap.size (w3.alloc (.cells #[.bool false, .int .i64 2, .int .i64 0, .string ⟨#[53]⟩, .bool false, .int .i64 0, .int .i64 k', .int .i64 m', .string t', .bool bb', .int .i64 er', .slice a1' l1' c1', .slice a2' l2' c2'] 39)) cA (.agg #[.bool true, .int .i64 0, .int .i64 0, .string ⟨#[]⟩, .bool false, .int .i64 0, .int .i64 k, .int .i64 m, .string t, .bool bb, .int .i64 er, .slice a1 l1 c1, .slice a2 l2 c2])) := hid (R2.out.on0 (Q3.out.alloc _) hB0)
  have RB : Hid (RdC w2.heap.size (w3.alloc (.cells #[.bool false, .int .i64 2, .int .i64 0, .string ⟨#[53]⟩, .bool false, .int .i64 0, .int .i64 k', .int .i64 m', .string t', .bool bb', .int .i64 er', .slice a1' l1' c1', .slice a2' l2' c2'] 39)) cB (.agg #[.bool false, .int .i64 2, .int .i64 0, .string ⟨#[53]⟩, .bool false, .int .i64 0, .int .i64 k', .int .i64 m', .string t', .bool bb', .int .i64 er', .slice a1' l1' c1', .slice a2' l2' c2'])) := hid (R3.out.on0 ((Q.refl w3).alloc _) hB2)
  have Q4 := hid (Q2.out.trans (Q3.out.alloc (.cells #[.bool false, .int .i64 2, .int .i64 0, .string ⟨#[53]⟩, .bool false, .int .i64 0, .int .i64 k', .int .i64 m', .string t', .bool bb', .int .i64 er', .slice a1' l1' c1', .slice a2' l2' c2'] 39)))
  rw [show ([.bool false, .int .i64 2, .int .i64 0, .string ⟨#[53]⟩, .bool false, .int .i64 0, .int .i64 k', .int .i64 m', .string t', .bool bb', .int .i64 er', .slice a1' l1' c1', .slice a2' l2' c2'] : List Value).toArray = #[.bool false, .int .i64 2, .int .i64 0, .string ⟨#[53]⟩, .bool false, .int .i64 0, .int .i64 k', .int .i64 m', .string t', .bool bb', .int .i64 er', .slice a1' l1' c1', .slice a2' l2' c2'] from rfl] at Z2
  generalize w3.alloc (.cells #[.bool false, .int .i64 2, .int .i64 0, .string ⟨#[53]⟩, .bool false, .int .i64 0, .int .i64 k', .int .i64 m', .string t', .bool bb', .int .i64 er', .slice a1' l1' c1', .slice a2' l2' c2'] 39) = w4 at Z2 Z12 RA RB Q4 ⊢
  generalize w3.heap.size = b4 at Z2 ⊢
  clear R2 R3 Q2 Q3 Z1
  have d0 := Z12.out.c 0 _ rfl
  have d1 := Z12.out.c 1 _ rfl
  have d2 := Z12.out.c 2 _ rfl
  have d3 := Z12.out.c 3 _ rfl
  have d4 := Z12.out.c 4 _ rfl
  have d5 := Z12.out.c 5 _ rfl
  have d6 := Z12.out.c 6 _ rfl
  have d7 := Z12.out.c 7 _ rfl
  have d8 := Z12.out.c 8 _ rfl
  have d9 := Z12.out.c 9 _ rfl
  have d10 := Z12.out.c 10 _ rfl
  have d11 := Z12.out.c 11 _ rfl
  have d12 := Z12.out.c 12 _ rfl
  have x0 := Z2.out.c 0 _ rfl
  have x1 := Z2.out.c 1 _ rfl
  have x2 := Z2.out.c 2 _ rfl
  have x3 := Z2.out.c 3 _ rfl
  have x4 := Z2.out.c 4 _ rfl
  have x5 := Z2.out.c 5 _ rfl
  have x6 := Z2.out.c 6 _ rfl
  have x7 := Z2.out.c 7 _ rfl
  have x8 := Z2.out.c 8 _ rfl
  have x9 := Z2.out.c 9 _ rfl
  have x10 := Z2.out.c 10 _ rfl
  have x11 := Z2.out.c 11 _ rfl
  have x12 := Z2.out.c 12 _ rfl
  go_wp2_with (first | (go_at_call_of 22 t'; refine (HCB.out w5 _ _ (HG.out.on Q5.out) hB2 RB5.out).mono ?_; rintro e9 w6 ⟨rfl, q6⟩; have Q6 := hid (Q5.out.trans q6); have RA6 := hid (RA5.out.on0 q6 hB0); have ZA6 := hid (ZA5.out.on q6); clear q6; have z0 := ZA6.out.c 0 _ rfl; have z1 := ZA6.out.c 1 _ rfl; have z2 := ZA6.out.c 2 _ rfl; have z3 := ZA6.out.c 3 _ rfl; have z4 := ZA6.out.c 4 _ rfl; have z5 := ZA6.out.c 5 _ rfl; have z6 := ZA6.out.c 6 _ rfl; have z7 := ZA6.out.c 7 _ rfl; have z8 := ZA6.out.c 8 _ rfl; have z9 := ZA6.out.c 9 _ rfl; have z10 := ZA6.out.c 10 _ rfl; have z11 := ZA6.out.c 11 _ rfl; have z12 := ZA6.out.c 12 _ rfl) | (go_at_call_of 22 t; refine (HCA.out w4 _ _ (HG.out.on Q4.out) hB0 RA.out).mono ?_; rintro e9 w5 ⟨rfl, q5⟩; have Q5 := hid (Q4.out.trans q5); have RA5 := hid (RA.out.on0 q5 hB0); have RB5 := hid (RB.out.on0 q5 hB2); have ZA5 := hid (Z12.out.on q5); have ZB5 := hid (Z2.out.on q5); clear q5; have y0 := ZB5.out.c 0 _ rfl; have y1 := ZB5.out.c 1 _ rfl; have y2 := ZB5.out.c 2 _ rfl; have y3 := ZB5.out.c 3 _ rfl; have y4 := ZB5.out.c 4 _ rfl; have y5 := ZB5.out.c 5 _ rfl; have y6 := ZB5.out.c 6 _ rfl; have y7 := ZB5.out.c 7 _ rfl; have y8 := ZB5.out.c 8 _ rfl; have y9 := ZB5.out.c 9 _ rfl; have y10 := ZB5.out.c 10 _ rfl; have y11 := ZB5.out.c 11 _ rfl; have y12 := ZB5.out.c 12 _ rfl) | (go_at_call 21; refine (HMA.out w6 _ _ (HG.out.on Q6.out) RA6.out).mono ?_; rintro e9 w7 ⟨rfl, q7⟩; have Q7 := hid (Q6.out.trans q7); clear q7))
  go_ret
  exact ⟨rfl, Q7.out⟩
end Go.Proofs.YtgheopdadfnilaaGreatDoor
