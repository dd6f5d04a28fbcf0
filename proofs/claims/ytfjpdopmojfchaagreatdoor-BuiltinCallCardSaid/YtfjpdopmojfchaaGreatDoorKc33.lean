/- The reference's aggregate. -/
import Derived.Test.YtfjpdopmojfchaaGreatDoorKc25
import Derived.Test.YtfjpdopmojfchaaGreatDoorKc29
import Derived.Test.YtfjpdopmojfchaaGreatDoorKc27
import Derived.Test.YtfjpdopmojfchaaGreatDoorKc26
import Derived.Deep.CutBlock
set_option linter.unusedVariables false
set_option linter.unusedSimpArgs false
set_option maxRecDepth 100000
set_option maxHeartbeats 8000000
namespace Go.Proofs.YtfjpdopmojfchaaGreatDoor
open Go.RowKit
theorem encN_at {W : World} {b o : Nat} {x : Int} (h : Ats encN W b o x) : W.cell? ⟨b, o, none⟩ = some (.int .i64 x) := h 0 _ rfl
theorem getD_int (l : List Int) {i : Nat} (hi : i < l.length) : l.getD i 0 = l[i] := by rw [List.getD_eq_getElem?_getD, List.getElem?_eq_getElem hi]; rfl
set_option maxHeartbeats 1000000 in
theorem rsum_nil (cap : Nat) (ao : Option Addr) (w : World) : Calls Tryz.prog 77 #[.slice ao 0 cap] w fun e w' => e = .returned (.tuple #[.int .i64 0, .bool true]) ∧ Q w w' := by
  have L := hid (fun W => less_any 0 0 0 0 0 0 0 0 0 0 0 0 0 0 W ⟨by omega, by omega, by omega, by omega, by omega, by omega, by omega, by omega, by omega, by omega, by omega, by omega, by omega⟩ ⟨by omega, by omega, by omega, by omega, by omega, by omega, by omega, by omega, by omega, by omega, by omega, by omega, by omega⟩)
  simp only [decide_eq_false (Int.lt_irrefl 0)] at L
  have M1 := hid (fun W => minus_any 0 0 0 0 0 0 0 0 0 0 0 0 0 0 W ⟨by omega, by omega, by omega, by omega, by omega, by omega, by omega, by omega, by omega, by omega, by omega, by omega, by omega⟩ ⟨by omega, by omega, by omega, by omega, by omega, by omega, by omega, by omega, by omega, by omega, by omega, by omega, by omega⟩ (by omega))
  go_enter Tryz.func77, Tryz.ntmps77
  go_wp2
  refine wp_loop_rounds 1 ?_
  rw [rounds_succ]
  have j0 : Ju w 0 0 0 0 0 0 0 0 0 0 0 0 0 0 0 0 ((w.alloc (.cells #[.int .u64 0, .int .u64 0, .int .u64 0, .int .u64 0, .int .u64 0, .int .u64 0] 111)).alloc (.cells #[.int .u64 0, .int .u64 0, .int .u64 0, .int .u64 0, .int .u64 0, .int .u64 0] 111)) := by
    refine ⟨((Q.refl _).alloc _).alloc _, (row_new w 111 0 0 0 0 0 0).on ((Q.refl _).alloc _), ?_⟩
    have h := row_new (w.alloc (.cells #[.int .u64 0, .int .u64 0, .int .u64 0, .int .u64 0, .int .u64 0, .int .u64 0] 111)) 111 0 0 0 0 0 0
    simp only [World.size_alloc] at h
    exact h
  go_wp2_with (first
    | (go_at_call 119; refine (L.out _).mono ?_; rintro e w5 ⟨rfl, q5⟩; have j5 := j0.on q5; have xc0 := j5.ru.c0; have xc1 := j5.ru.c1; have xc2 := j5.ru.c2; have xc3 := j5.ru.c3; have xc4 := j5.ru.c4; have xc5 := j5.ru.c5; have yc0 := j5.rv.c0; have yc1 := j5.rv.c1; have yc2 := j5.rv.c2; have yc3 := j5.rv.c3; have yc4 := j5.rv.c4; have yc5 := j5.rv.c5)
    | (go_at_call 120; refine (M1.out _).mono ?_; rintro e w6 ⟨⟨t0, t1, t2, t3, t4, t5, rfl, dt⟩, q6⟩)
    | (go_at_call 98; refine (fix_any t0 t1 t2 t3 t4 t5 _ false _ dt).mono ?_; rintro e w7 ⟨rfl, q7⟩))
  go_ret2
  exact ⟨rfl, ((j0.q.trans q5).trans q6).trans q7⟩
theorem rsum_sl (l : List Int) (v : Value) (w : World) (h : Sl encN 1 w v l) (hm : l.length ≤ 1000000) (hf : ∀ x ∈ l, Fx x) :
    Calls Tryz.prog 77 #[v] w fun e w' => e = .returned (.tuple #[.int .i64 (keep l.sum), .bool (fitB l.sum)]) ∧ Q w w' := by
  obtain ⟨ao, cap, rfl, h1, h2, h3⟩ := h
  rcases Nat.eq_zero_or_pos l.length with h0 | h0
  · have hl := List.eq_nil_of_length_eq_zero h0
    subst hl
    exact rsum_nil cap ao w
  · obtain ⟨b, off, rfl, hc⟩ := h3 h0
    refine rsum_row b off l.length cap l w rfl (by omega) (fun i hi => ?_) (fun i hi => ?_)
    · rw [getD_int _ hi]; exact hf _ (List.getElem_mem hi)
    · rw [getD_int _ hi]; have := encN_at (hc i hi); rw [Nat.mul_one] at this; exact this
theorem rave_sl (l : List Int) (v : Value) (w : World) (h : Sl encN 1 w v l) (hm : l.length ≤ 1000000) (h0 : 0 < l.length) (hf : ∀ x ∈ l, Fx x) :
    Calls Tryz.prog 78 #[v] w fun e w' => e = .returned (.tuple #[.int .i64 (keep (avq l.sum l.length)), .bool (fitB (avq l.sum l.length))]) ∧ Q w w' := by
  obtain ⟨ao, cap, rfl, h1, h2, h3⟩ := h
  obtain ⟨b, off, rfl, hc⟩ := h3 h0
  refine rave_row b off l.length cap l w rfl (by omega) h0 (fun i hi => ?_) (fun i hi => ?_)
  · rw [getD_int _ hi]; exact hf _ (List.getElem_mem hi)
  · rw [getD_int _ hi]; have := encN_at (hc i hi); rw [Nat.mul_one] at this; exact this
def bst (K : Nat) (l : List Int) : Int := if l.length = 0 then 0 else if K = 1 then mnL l else mxL l
def upd (K : Nat) (i : Nat) (x m : Int) : Bool := i == 0 || (K == 1 && decide (x < m)) || (K == 2 && decide (m < x))
theorem bst_step (K : Nat) (hK : K = 1 ∨ K = 2) (l : List Int) (k : Nat) (hk : k < l.length) : bst K (l.take (k + 1)) = if upd K k l[k] (bst K (l.take k)) = true then l[k] else bst K (l.take k) := by
  rcases Nat.eq_zero_or_pos k with h0 | h0
  · subst h0
    have e : l.take 1 = [l[0]] := by
      rw [List.take_succ_eq_append_getElem hk]; simp
    have hu : upd K 0 l[0] (bst K (l.take 0)) = true := rfl
    rw [if_pos hu, Nat.zero_add, e]
    unfold bst
    rcases hK with rfl | rfl <;> rfl
  · have h1 : (l.take (k + 1)).length ≠ 0 := by rw [List.length_take]; omega
    have h2 : (l.take k).length ≠ 0 := by rw [List.length_take]; omega
    have hg : (l.take (k + 1)).getD 0 0 = (l.take k).getD 0 0 := by
      rw [List.take_succ_eq_append_getElem hk, List.getD_eq_getElem?_getD, List.getD_eq_getElem?_getD, List.getElem?_append_left (by simp; omega)]
    have hk0 : (k == 0) = false := by simpa using (by omega : k ≠ 0)
    unfold bst upd
    rw [if_neg h1, if_neg h2, hk0]
    rcases hK with rfl | rfl
    · simp only [if_true]
      unfold mnL
      rw [tail_take l k h0 hk, List.foldl_append, hg]
      simp [mnS]
    · simp only [if_neg (by decide : ¬ (2 : Nat) = 1)]
      unfold mxL
      rw [tail_take l k h0 hk, List.foldl_append, hg]
      simp [mxS]
theorem natAbs_div_le (a : Int) (n : Nat) (h0 : 0 < n) : ((a.natAbs : Int) / (n : Int)) ≤ (a.natAbs : Int) ∧ 0 ≤ ((a.natAbs : Int) / (n : Int)) := by
  refine ⟨?_, ?_⟩
  · exact Int.ediv_le_self _ (by omega)
  · exact Int.ediv_nonneg (by omega) (by omega)
theorem fx_of_fit {r : Int} (h : fitB r = true) : Fx r := by
  unfold fitB at h
  simp at h
  exact ⟨by omega, by omega⟩
theorem avV_ref (l : List Int) (h0 : 0 < l.length) (hm : l.length ≤ 1000000) : avV l = if fitB l.sum = true then nu (keep (avq l.sum l.length)) else er 4 := by
  unfold avV
  by_cases hf : fitB l.sum = true
  · rw [if_pos hf, if_pos hf, if_neg (by omega)]
    have hx := fx_of_fit hf
    have hk : keep l.sum = l.sum := by unfold keep; rw [if_pos hf]
    rw [hk]
    have hd : divV l.sum ((l.length : Int) * 10000) = avq l.sum l.length := by
      unfold divV avq
      have e1 : ((l.length : Int) * 10000).natAbs = l.length * 10000 := by omega
      have e2 : decide (((l.length : Int) * 10000) < 0) = false := decide_eq_false (by omega)
      rw [e1, e2, Nat.mul_div_mul_right _ _ (by omega)]
      simp
    rw [hd]
    have hy : Fx (avq l.sum l.length) := by
      have := natAbs_div_le l.sum l.length h0
      have h1 := hx.lo
      have h2 := hx.hi
      unfold avq sgn
      by_cases hn : l.sum < 0
      · rw [decide_eq_true hn]
        simp only [if_true]
        constructor <;> omega
      · rw [decide_eq_false hn]
        simp only [Bool.false_eq_true, if_false]
        constructor <;> omega
    rw [resV_yes hy]
    have hfy : fitB (avq l.sum l.length) = true := by
      unfold fitB
      have h1 := hy.lo
      have h2 := hy.hi
      simp
      omega
    unfold keep
    rw [if_pos hfy]
  · rw [if_neg hf, if_neg hf]
set_option maxHeartbeats 8000000 in
theorem raggregate_any (K : Nat) (hK : K < 5) (A : List Ag) (v : Value) (w : World) (h : Args w v A) (hm : A.length ≤ 1000) (hs : ∀ a ∈ A, a.l.length ≤ 1000 ∧ ∀ x ∈ a.l, x.sm) (hf : ∀ x ∈ A.flatMap (·.l), Fx x.n) :
    Calls Tryz.prog 32 #[.int .i64 K, v] w fun r w' => r = .returned (aggY K (A.flatMap (·.l))).v ∧ Q w w' := by
  obtain ⟨⟨ao, cap, rfl, h1, h2, h3⟩, hvs⟩ := h
  obtain ⟨n, hn⟩ : ∃ n, A.length = n := ⟨_, rfl⟩
  have HP := hid hn
  obtain ⟨i0, hi, hz0, hz1, hz2⟩ := inf_of info22
  have HC : Hid (0 < n → ∃ b off, ao = some ⟨b, off, none⟩ ∧ ∀ i (hp : i < A.length), At2 w b (off + i * 2) A[i] ∧ Sl Cv.cells 5 w A[i].s A[i].l ∧ A[i].l.length ≤ 1000 ∧ ∀ x ∈ A[i].l, x.sm) := by
    intro h0
    obtain ⟨b, off, ha, hc⟩ := h3 (by omega)
    exact ⟨b, off, ha, fun i hp => ⟨at2_of (hc i hp), hvs _ (List.getElem_mem hp), hs _ (List.getElem_mem hp)⟩⟩
  obtain ⟨TT, hT⟩ : ∃ T, A.flatMap (·.l) = T := ⟨_, rfl⟩
  have HT := hid hT
  have HF : Hid (∀ x ∈ nums TT, Fx x) := nums_fx (by rw [← hT]; exact hf)
  rw [hn] at h1 hm ⊢
  rw [hT]
  obtain ⟨Y, hY⟩ : ∃ Y, aggY K TT = Y := ⟨_, rfl⟩
  have HY := hid hY
  rw [hY]
  obtain ⟨yk, yn, yt, yb, ye⟩ := Y
  clear hs h3 hvs hn hT hf hY
  simp only [Cv.v, vv]
  have hls : (w.alloc (.cells #[.int .i64 0, .int .i64 0, .string ⟨#[]⟩, .bool false, .int .i64 0] 37)).heap.size = w.heap.size + 1 := World.size_alloc _ _
  go_enter Tryz.func32, Tryz.ntmps32
  go_wp2
  go_loopw [5, 6, 7] (fun s t i W => ∃ (k : Nat) (L : List Int) (T : Int), k ≤ n ∧ i = .int .i64 k ∧ t = .int .i64 T ∧ Own encN 35 1 (w.heap.size + 1) W s L ∧ L.length ≤ k * 1000 ∧ Hid (L = nums ((A.take k).flatMap (·.l))) ∧ Hid (T = worst ((A.take k).flatMap (·.l))) ∧ Q (w.alloc (.cells #[.int .i64 0, .int .i64 0, .string ⟨#[]⟩, .bool false, .int .i64 0] 37)) W) (fun _ _ i _ => n - (intOf i).toNat)
  case atStart => exact ⟨0, [], 0, Nat.zero_le _, rfl, rfl, own_nil _, Nat.zero_le _, (by show _ = _; simp [nums]), rfl, Q.refl _⟩
  case round =>
    obtain ⟨k, L, T, hk, rfl, rfl, hown, hLk, hLw, hTw, hq⟩ := hrel
    by_cases hlt : k < n
    · obtain ⟨b, off, rfl, hc⟩ := HC.out (by omega)
      have hkp : k < A.length := by have := HP.out; omega
      obtain ⟨⟨c0, c1⟩, hsl, hl1, hl2⟩ := hc k hkp
      have hF : Hid (nums ((A.take (k + 1)).flatMap (·.l)) = L ++ nums A[k].l) := by
        show _ = _
        rw [hLw.out, List.take_succ_eq_append_getElem hkp, List.flatMap_append, nums_append]
        simp
      have hW : Hid (worst ((A.take (k + 1)).flatMap (·.l)) = mn T (worst A[k].l)) := by
        show _ = _
        rw [hTw.out, List.take_succ_eq_append_getElem hkp, List.flatMap_append, worst_append]
        simp
      have hbw0 : b < w.heap.size := World.block_lt_of_cell? w _ c1
      have HB := hid (fun W (q : Q w W) => q.lt hbw0)
      have hbw := HB.out _ (bz_q hq)
      have HLL := hid hl2
      have HWO := hid (fun W (q : Q w W) => rworst_sl A[k].l A[k].s W (hsl.on q) hl1 hl2)
      have hT0 : 0 ≤ T := by rw [hTw.out]; exact (worst_lo _).1
      have hE0 := (worst_lo A[k].l).1
      obtain ⟨ao', cap', hsv, g1, g2, g3⟩ := hsl
      have HG3 := hid g3
      rw [hsv] at c1 HWO
      have HC1 := hid (fun W (q : Q w W) => (q.cell hbw0).trans c1)
      have c1' := HC1.out _ (bz_q hq)
      clear hsv c0 c1 hc g3 hl2 hLw hTw hbw0
      generalize worst A[k].l = E at HWO hW hE0
      generalize A[k].l = l at *
      generalize hln : l.length = ln at c1' hl1 g1 HWO HC1
      have HLn := hid hln
      clear hln
      have hkl : (k : Int) < (n : Int) := by omega
      have HOW := hid hown
      have HQ := hid hq
      clear hown hq
      obtain ⟨w1, rfl⟩ : ∃ w1, w1 = wr := ⟨wr, rfl⟩
      go_upto_region 7 with (go_at_call 22; refine (HWO.out _ (bz_q HQ.out)).mono ?_; rintro e w2 ⟨rfl, q2⟩; have HQ2 := hid (HQ.out.trans q2); have HOW2 := hid (HOW.out.on q2); have c1q := HC1.out _ (bz_q HQ2.out); have hbw2 := HB.out _ (bz_q HQ2.out); clear q2)
      go_cut [41] from 31 to 40 (fun c W => c = .bool (decide (0 < E ∧ (T = 0 ∨ E < T))) ∧ w2 = W)
      case first =>
        by_cases e1 : 0 < E
        · by_cases e2 : T = 0
          · subst e2
            have e3 : Hid (decide (0 < E ∧ ((0 : Int) = 0 ∨ E < 0)) = true) := decide_eq_true ⟨e1, .inl rfl⟩
            go_wp2_with fail
            go_meet
            case rel => exact ⟨congrArg Value.bool e3.out.symm, rfl⟩
          · have e2b : (T == 0) = false := by simpa using e2
            have e3 : Hid (decide (0 < E ∧ (T = 0 ∨ E < T)) = decide (E < T)) := by show _ = _; simp [e1, e2]
            go_wp2_with fail
            go_meet
            case rel => exact ⟨congrArg Value.bool e3.out.symm, rfl⟩
        · have e3 : Hid (decide (0 < E ∧ (T = 0 ∨ E < T)) = false) := decide_eq_false (fun h => e1 h.1)
          go_wp2_with fail
          go_meet
          case rel => exact ⟨congrArg Value.bool e3.out.symm, rfl⟩
      case rest =>
        obtain ⟨rfl, rfl⟩ := hcut
        go_upto_if 41 with fail
        go_cut [6] from 31 to 42 (fun t W => t = .int .i64 (mn T E) ∧ w2 = W)
        case first =>
          by_cases e1 : 0 < E ∧ (T = 0 ∨ E < T)
          · have e3 : Hid (decide (0 < E ∧ (T = 0 ∨ E < T)) = true) := decide_eq_true e1
            have e4 : mn T E = E := by unfold mn; rw [if_neg (by omega), if_pos e1.2]
            have E4 := hid e4
            clear e3 e4
            go_wp2_with fail
            go_meet
            case rel => exact ⟨congrArg (Value.int .i64) E4.out.symm, rfl⟩
          · have e3 : Hid (decide (0 < E ∧ (T = 0 ∨ E < T)) = false) := decide_eq_false e1
            have e4 : mn T E = T := by
              unfold mn
              by_cases e5 : E = 0
              · rw [if_pos e5]
              · rw [if_neg e5, if_neg (fun h => e1 ⟨by omega, h⟩)]
            have E4 := hid e4
            clear e3 e4
            go_wp2_with fail
            go_meet
            case rel => exact ⟨congrArg (Value.int .i64) E4.out.symm, rfl⟩
        case rest =>
          obtain ⟨rfl, rfl⟩ := hcut
          go_wp2_with fail
          go_loopw [5, 9] (fun s i W => ∃ (j : Nat) (M : List Int), j ≤ ln ∧ i = .int .i64 j ∧ Own encN 35 1 (w.heap.size + 1) W s M ∧ M.length ≤ k * 1000 + j ∧ Hid (M = L ++ nums (l.take j)) ∧ Q (w.alloc (.cells #[.int .i64 0, .int .i64 0, .string ⟨#[]⟩, .bool false, .int .i64 0] 37)) W) (fun _ i _ => ln - (intOf i).toNat)
          case atStart => exact ⟨0, L, Nat.zero_le _, rfl, HOW2.out, by omega, (by show _ = _; simp [nums]), HQ2.out⟩
          case round =>
            obtain ⟨j, M, hj, rfl, hown, hMk, hMw, hq⟩ := hrel
            have c1r := HC1.out _ (bz_q hq)
            have hbw3 := HB.out _ (bz_q hq)
            by_cases hjl : j < ln
            · have hjp : j < l.length := by have := HLn.out; omega
              obtain ⟨b', off', rfl, hcc⟩ := HG3.out (by omega)
              have a5 := (at5_of (hcc j hjp)).on (bz_q hq)
              have hsm := HLL.out _ (List.getElem_mem hjp)
              have hst : Hid (M ++ nums [l[j]] = L ++ nums (l.take (j + 1))) := by
                show _ = _
                rw [hMw.out, nums_step l j hjp, List.append_assoc]
              clear hcc hMw
              generalize l[j] = x at *
              have HM := hid (fun W => rmayv_any x W hsm)
              have hjl' : (j : Int) < (ln : Int) := by omega
              have HOW3 := hid hown
              have HQ3 := hid hq
              have hb5 := World.block_lt_of_cell? wr _ a5.c0
              clear hown hq
              by_cases hk1 : x.k = 1
              · cases hA : x.may with
                | false =>
                  rw [hA] at HM
                  have HZ : Hid (M = L ++ nums (l.take (j + 1))) := by show _ = _; rw [← hst.out, nums_none x (.inr hA)]; simp
                  obtain ⟨xk, xn, xt, xb, xe⟩ := x
                  obtain ⟨d0, d1, d2, d3, d4⟩ := a5
                  simp only [Cv.v, vv] at d0 d1 d2 d3 d4 hk1 HM
                  subst hk1
                  clear hA hst hsm
                  go_wp2_with (go_at_call 23; refine (HM.out _).mono ?_; rintro x w3 ⟨rfl, q1⟩)
                  go_roundw
                  case rel => exact ⟨j + 1, M, by omega, by go_num, HOW3.out.on (q1a q1), by omega, HZ, HQ3.out.trans (q1a q1)⟩
                  case measure => simp [intOf]; omega
                | true =>
                  rw [hA] at HM
                  have HZ : Hid (M ++ [x.n] = L ++ nums (l.take (j + 1))) := by show _ = _; rw [← hst.out, nums_one x hk1 hA]
                  obtain ⟨xk, xn, xt, xb, xe⟩ := x
                  obtain ⟨d0, d1, d2, d3, d4⟩ := a5
                  simp only [Cv.v, vv] at d0 d1 d2 d3 d4 hk1 HM HZ
                  subst hk1
                  clear hA hst hsm
                  go_wp2_with (first
                    | (go_at_call 23; refine (HM.out _).mono ?_; rintro x w3 ⟨rfl, q1⟩; obtain ⟨g0, g1, g2, g3, g4⟩ := box0 q1; have Q2 := hid (q1a q1); clear q1)
                    | (at_builtin; refine wpList_append_own _ rfl _ _ 89 rfl (w.heap.size + 1) 35 i0 (.int .i64 0) 1 8 Tryz.underlying89 hi hz0 hz1 hz2 rfl (by decide) _ _ _ rfl (World.ownsRow.alloc (Own.on HOW3.out Q2.out) _) ⟨w3.heap.size, 0, none⟩ 1 1 [.int .i64 xn] rfl rfl ?c1 ?c2 ?c3 ?c4 ?c5 ?_))
                  case c1 => exact news_new w3 [.int .i64 xn] 35
                  case c2 =>
                    intro u hu
                    simp at hu
                    subst hu
                    rfl
                  case c3 => unfold maxLen; omega
                  case c4 => omega
                  case c5 => have := (HQ3.out.trans Q2.out).size; rw [hls] at this; simp; omega
                  · intro v' w4 hown' hgrow _
                    have HO3 : Hid (Own encN 35 1 (w.heap.size + 1) w4 v' (M ++ [xn])) := own_snoc' (x := xn) hown' rfl
                    have HQ5 : Hid (Q (w.alloc (.cells #[.int .i64 0, .int .i64 0, .string ⟨#[]⟩, .bool false, .int .i64 0] 37)) w4) := Below.grown ((HQ3.out.trans Q2.out).alloc _) hgrow (by have := (HQ3.out.trans Q2.out).size; simp; omega) (by rw [hls]; exact Own.blk HOW3.out)
                    clear hown' hgrow
                    go_wp2
                    go_roundw
                    case rel => exact ⟨j + 1, M ++ [xn], by omega, by go_num, HO3.out, by simp; omega, HZ, HQ5.out⟩
                    case measure => simp [intOf]; omega
              · have HZ : Hid (M = L ++ nums (l.take (j + 1))) := by show _ = _; rw [← hst.out, nums_none x (.inl hk1)]; simp
                obtain ⟨xk, xn, xt, xb, xe⟩ := x
                obtain ⟨d0, d1, d2, d3, d4⟩ := a5
                simp only at d0 d1 d2 d3 d4 hk1
                have hkb : (xk == 1) = false := beq_eq_false_iff_ne.2 hk1
                clear hst hsm HM
                go_wp2_with fail
                go_roundw
                case rel => exact ⟨j + 1, M, by omega, by go_num, Own.alloc HOW3.out _, by omega, HZ, HQ3.out.alloc _⟩
                case measure => simp [intOf]; omega
            · have hjn : j = ln := by omega
              subst hjn
              have hMF : Hid (M = nums ((A.take (k + 1)).flatMap (·.l))) := by
                show _ = _
                have h1 := hMw.out
                rw [List.take_of_length_le (by have := HLn.out; omega)] at h1
                rw [h1, hF.out]
              have hWF : Hid (mn T E = worst ((A.take (k + 1)).flatMap (·.l))) := by show _ = _; rw [hW.out]
              have hjl' : ¬ (j : Int) < (j : Int) := by omega
              have HOW3 := hid hown
              have HQ3 := hid hq
              clear hown hq hMw
              go_wp2
              go_roundw
              case rel => exact ⟨k + 1, M, mn T E, by omega, by go_num, rfl, HOW3.out, by omega, hMF, hWF, HQ3.out⟩
              case measure => simp [intOf]; omega
    · have hkn : k = n := by omega
      subst hkn
      have HE : Hid (L = nums TT) := by
        show _ = _
        have h1 := hLw.out
        rw [List.take_of_length_le (by have := HP.out; omega)] at h1
        rw [h1, HT.out]
      have HE2 : Hid (T = worst TT) := by
        show _ = _
        have h1 := hTw.out
        rw [List.take_of_length_le (by have := HP.out; omega)] at h1
        rw [h1, HT.out]
      have HOW : Hid (Sl encN 1 wr u5 L) := hown.sl encN_len (by omega)
      have HFL : Hid (∀ x ∈ L, Fx x) := by show ∀ x ∈ L, Fx x; rw [HE.out]; exact HF.out
      have HQ := hid hq
      have hLm : L.length ≤ 1000000 := by omega
      have hT0 : 0 ≤ T := by rw [HE2.out]; exact (worst_lo _).1
      clear hown hLw hTw hq HF HT HC HP
      have hkl : ¬ (k : Int) < (k : Int) := by omega
      by_cases hTp : T = 0
      · subst hTp
        have HY3 := HY
        have HYS : Hid (∀ G : List Cv → Cv, (∀ l, worst l = 0 → aggY K l = G l) → G TT = ⟨yk, yn, yt, yb, ye⟩) := by
          intro G hG
          rw [← hG TT HE2.out.symm]
          exact HY.out
        clear HY HE2
        match K, hK with
        | 0, _ =>
          have HS := hid (fun W (q : Q wr W) => rsum_sl L u5 W (HOW.out.on q) hLm HFL.out)
          have HN := hid (fun W => rnum_any (keep L.sum) (fitB L.sum) W)
          have HV : Hid ((if fitB L.sum = true then nu (keep L.sum) else er 4) = ⟨yk, yn, yt, yb, ye⟩) := (by show _ = _; rw [HE.out]; exact HYS.out (fun l => sumV (nums l)) (fun l hl => by unfold aggY; exact if_pos hl))
          rw [HV.out] at HN
          simp only [Cv.v, vv] at HN
          generalize keep L.sum = KS at HN HS
          generalize fitB L.sum = FB1 at HN HS
          clear HYS HE HY3 HV hK HOW HFL
          go_wp2_with (first
            | (go_at_call 77; refine (HS.out _ (Q.refl _)).mono ?_; rintro x w3 ⟨rfl, q1⟩; have Q3 := hid (HQ.out.trans q1); clear q1)
            | (go_at_call 54; refine (HN.out _).mono ?_; rintro x w2 ⟨rfl, q1⟩; have Q2 := hid (Q3.out.trans q1); clear q1; obtain ⟨d0, d1, d2, d3, d4, y0, y1, y2, y3, y4, _⟩ := bz_on Q2.out))
          exact bodyPost_ret (v := .agg #[.int .i64 yk, .int .i64 yn, .string yt, .bool yb, .int .i64 ye]) (by simp [results, Tryz.results32, go_sem, d0, d1, d2, d3, d4]) rfl ⟨rfl, Q5 (bz_q Q2.out) (Nat.le_refl _)⟩
        | 1, _ =>
          have HV : Hid (nu (bst 1 L) = ⟨yk, yn, yt, yb, ye⟩) := by have h : leV L = ⟨yk, yn, yt, yb, ye⟩ := (by show _ = _; rw [HE.out]; exact HYS.out (fun l => leV (nums l)) (fun l hl => by unfold aggY; exact if_pos hl)); show _ = _; rw [← h]; unfold leV bst; simp
          have HNU := hid (fun W => num_any (bst 1 L) W)
          obtain ⟨ln, hln⟩ : ∃ ln, L.length = ln := ⟨_, rfl⟩
          have HLn := hid hln
          obtain ⟨lo, lcap, hlv, lg1, lg2, lg3⟩ := HOW.out
          have LG3 := hid lg3
          rw [hln] at lg1 hlv hLm
          subst hlv
          clear HYS HE HY3 hK HOW HFL lg3 hln
          go_wp2_with fail
          obtain ⟨w1, hw1⟩ : ∃ w1, w1 = wr := ⟨wr, rfl⟩
          go_loopw [17, 18] (fun m i W => ∃ (j : Nat) (M : Int), j ≤ ln ∧ i = .int .i64 j ∧ m = .int .i64 M ∧ Hid (M = bst 1 (L.take j)) ∧ W = w1) (fun _ i _ => ln - (intOf i).toNat)
          case atStart => exact ⟨0, 0, Nat.zero_le _, rfl, rfl, rfl, hw1.symm⟩
          case round =>
            obtain ⟨j, M, hj, rfl, rfl, hM, rfl⟩ := hrel
            subst hw1
            by_cases hjl : j < ln
            · have hjp : j < L.length := by have := HLn.out; omega
              obtain ⟨b, off, rfl, hc⟩ := LG3.out (by omega)
              have c0 := encN_at (hc j hjp)
              rw [Nat.mul_one] at c0
              have hst := hid (bst_step 1 (by omega) L j hjp)
              rw [← hM.out] at hst
              clear hc hM
              generalize L[j] = x at c0 hst
              have hjl' : (j : Int) < (ln : Int) := by omega
              by_cases hj0 : j = 0
              · subst hj0
                rw [Nat.add_zero] at c0
                have HX : Hid (x = bst 1 (L.take (0 + 1))) := by show _ = _; rw [hst.out]; rfl
                go_wp2_with fail
                go_roundw
                case rel => exact ⟨0 + 1, x, by omega, by go_num, rfl, HX, by first | rfl | trivial⟩
                case measure => simp [intOf]; omega
              · have hj0b : ((j : Int) == 0) = false := by simpa using (by omega : (j : Int) ≠ 0)
                have hj0n : (j == 0) = false := by simpa using hj0
                by_cases hc : x < M
                · have HX : Hid (x = bst 1 (L.take (j + 1))) := by show _ = _; rw [hst.out, if_pos]; unfold upd; simp [hc]
                  clear hj0n hst
                  go_wp2_with fail
                  go_roundw
                  case rel => exact ⟨j + 1, x, by omega, by go_num, rfl, HX, by first | rfl | trivial⟩
                  case measure => simp [intOf]; omega
                · have HX : Hid (M = bst 1 (L.take (j + 1))) := by show _ = _; rw [hst.out, if_neg]; unfold upd; simp [hc, hj0]
                  clear hj0n hst
                  go_wp2_with fail
                  go_roundw
                  case rel => exact ⟨j + 1, M, by omega, by go_num, rfl, HX, by first | rfl | trivial⟩
                  case measure => simp [intOf]; omega
            · have hjn : j = ln := by omega
              subst hjn
              have hM2 : M = bst 1 L := by have := hM.out; rw [List.take_of_length_le (by have := HLn.out; omega)] at this; exact this
              rw [← hM2] at HNU HV
              have HR2 : Hid (Ending.returned (vv 1 M ⟨#[]⟩ false 0) = .returned (vv yk yn yt yb ye)) := by show _ = _; have := HV.out; simp only [nu, Cv.mk.injEq] at this; obtain ⟨rfl, rfl, rfl, rfl, rfl⟩ := this; rfl
              simp only [vv] at HNU HR2
              have hjl' : ¬ (j : Int) < (j : Int) := by omega
              clear hM hM2 HV
              go_wp2_with (go_at_call 27; refine (HNU.out _).mono ?_; rintro x w2 ⟨rfl, q1⟩; have Q2 := hid (HQ.out.trans q1); clear q1; obtain ⟨d0, d1, d2, d3, d4, y0, y1, y2, y3, y4, _⟩ := bz_on Q2.out)
              exact bodyPost_ret (v := .agg #[.int .i64 1, .int .i64 M, .string ⟨#[]⟩, .bool false, .int .i64 0]) (by simp [results, Tryz.results32, go_sem, d0, d1, d2, d3, d4]) rfl ⟨HR2.out, Q5 (bz_q Q2.out) (Nat.le_refl _)⟩
        | 2, _ =>
          have HV : Hid (nu (bst 2 L) = ⟨yk, yn, yt, yb, ye⟩) := by have h : grV L = ⟨yk, yn, yt, yb, ye⟩ := (by show _ = _; rw [HE.out]; exact HYS.out (fun l => grV (nums l)) (fun l hl => by unfold aggY; exact if_pos hl)); show _ = _; rw [← h]; unfold grV bst; simp
          have HNU := hid (fun W => num_any (bst 2 L) W)
          obtain ⟨ln, hln⟩ : ∃ ln, L.length = ln := ⟨_, rfl⟩
          have HLn := hid hln
          obtain ⟨lo, lcap, hlv, lg1, lg2, lg3⟩ := HOW.out
          have LG3 := hid lg3
          rw [hln] at lg1 hlv hLm
          subst hlv
          clear HYS HE HY3 hK HOW HFL lg3 hln
          go_wp2_with fail
          obtain ⟨w1, hw1⟩ : ∃ w1, w1 = wr := ⟨wr, rfl⟩
          go_loopw [17, 18] (fun m i W => ∃ (j : Nat) (M : Int), j ≤ ln ∧ i = .int .i64 j ∧ m = .int .i64 M ∧ Hid (M = bst 2 (L.take j)) ∧ W = w1) (fun _ i _ => ln - (intOf i).toNat)
          case atStart => exact ⟨0, 0, Nat.zero_le _, rfl, rfl, rfl, hw1.symm⟩
          case round =>
            obtain ⟨j, M, hj, rfl, rfl, hM, rfl⟩ := hrel
            subst hw1
            by_cases hjl : j < ln
            · have hjp : j < L.length := by have := HLn.out; omega
              obtain ⟨b, off, rfl, hc⟩ := LG3.out (by omega)
              have c0 := encN_at (hc j hjp)
              rw [Nat.mul_one] at c0
              have hst := hid (bst_step 2 (by omega) L j hjp)
              rw [← hM.out] at hst
              clear hc hM
              generalize L[j] = x at c0 hst
              have hjl' : (j : Int) < (ln : Int) := by omega
              by_cases hj0 : j = 0
              · subst hj0
                rw [Nat.add_zero] at c0
                have HX : Hid (x = bst 2 (L.take (0 + 1))) := by show _ = _; rw [hst.out]; rfl
                go_wp2_with fail
                go_roundw
                case rel => exact ⟨0 + 1, x, by omega, by go_num, rfl, HX, by first | rfl | trivial⟩
                case measure => simp [intOf]; omega
              · have hj0b : ((j : Int) == 0) = false := by simpa using (by omega : (j : Int) ≠ 0)
                have hj0n : (j == 0) = false := by simpa using hj0
                by_cases hc : M < x
                · have HX : Hid (x = bst 2 (L.take (j + 1))) := by show _ = _; rw [hst.out, if_pos]; unfold upd; simp [hc]
                  clear hj0n hst
                  go_wp2_with fail
                  go_roundw
                  case rel => exact ⟨j + 1, x, by omega, by go_num, rfl, HX, by first | rfl | trivial⟩
                  case measure => simp [intOf]; omega
                · have HX : Hid (M = bst 2 (L.take (j + 1))) := by show _ = _; rw [hst.out, if_neg]; unfold upd; simp [hc, hj0]
                  clear hj0n hst
                  go_wp2_with fail
                  go_roundw
                  case rel => exact ⟨j + 1, M, by omega, by go_num, rfl, HX, by first | rfl | trivial⟩
                  case measure => simp [intOf]; omega
            · have hjn : j = ln := by omega
              subst hjn
              have hM2 : M = bst 2 L := by have := hM.out; rw [List.take_of_length_le (by have := HLn.out; omega)] at this; exact this
              rw [← hM2] at HNU HV
              have HR2 : Hid (Ending.returned (vv 1 M ⟨#[]⟩ false 0) = .returned (vv yk yn yt yb ye)) := by show _ = _; have := HV.out; simp only [nu, Cv.mk.injEq] at this; obtain ⟨rfl, rfl, rfl, rfl, rfl⟩ := this; rfl
              simp only [vv] at HNU HR2
              have hjl' : ¬ (j : Int) < (j : Int) := by omega
              clear hM hM2 HV
              go_wp2_with (go_at_call 27; refine (HNU.out _).mono ?_; rintro x w2 ⟨rfl, q1⟩; have Q2 := hid (HQ.out.trans q1); clear q1; obtain ⟨d0, d1, d2, d3, d4, y0, y1, y2, y3, y4, _⟩ := bz_on Q2.out)
              exact bodyPost_ret (v := .agg #[.int .i64 1, .int .i64 M, .string ⟨#[]⟩, .bool false, .int .i64 0]) (by simp [results, Tryz.results32, go_sem, d0, d1, d2, d3, d4]) rfl ⟨HR2.out, Q5 (bz_q Q2.out) (Nat.le_refl _)⟩
        | 3, _ =>
          have HV : Hid (nu ((L.length : Int) * 10000) = ⟨yk, yn, yt, yb, ye⟩) := by have h : coV L = ⟨yk, yn, yt, yb, ye⟩ := (by show _ = _; rw [HE.out]; exact HYS.out (fun l => coV (nums l)) (fun l hl => by unfold aggY; exact if_pos hl)); show _ = _; rw [← h]; exact (coV_nu L hLm).symm
          have HN := hid (fun W => rnum_any ((L.length : Int) * 10000) true W)
          rw [if_pos rfl, HV.out] at HN
          obtain ⟨lo, lcap, hlv, lg1, lg2, lg3⟩ := HOW.out
          subst hlv
          have hwr : IntKind.i64.wrap (10000 * (L.length : Int)) = (L.length : Int) * 10000 := by rw [IntKind.wrap_i64]; omega
          simp only [Cv.v, vv] at HN
          clear HYS HE HY3 HV hK HOW HFL lg3
          generalize L.length = ln at *
          go_wp2_with (go_at_call 54; refine (HN.out _).mono ?_; rintro x w2 ⟨rfl, q1⟩; have Q2 := hid (HQ.out.trans q1); clear q1; obtain ⟨d0, d1, d2, d3, d4, y0, y1, y2, y3, y4, _⟩ := bz_on Q2.out)
          exact bodyPost_ret (v := .agg #[.int .i64 yk, .int .i64 yn, .string yt, .bool yb, .int .i64 ye]) (by simp [results, Tryz.results32, go_sem, d0, d1, d2, d3, d4]) rfl ⟨rfl, Q5 (bz_q Q2.out) (Nat.le_refl _)⟩
        | 4, _ =>
          by_cases hl0 : L.length = 0
          · have hnil := List.eq_nil_of_length_eq_zero hl0
            have HR2 : Hid (Ending.returned (vv 4 0 ⟨#[]⟩ false 3) = .returned (vv yk yn yt yb ye)) := by show _ = _; have this : avV L = ⟨yk, yn, yt, yb, ye⟩ := (by show _ = _; rw [HE.out]; exact HYS.out (fun l => avV (nums l)) (fun l hl => by unfold aggY; exact if_pos hl)); rw [hnil] at this; have h2 : er 3 = (⟨yk, yn, yt, yb, ye⟩ : Cv) := this; simp only [er, Cv.mk.injEq] at h2; obtain ⟨rfl, rfl, rfl, rfl, rfl⟩ := h2; rfl
            have HER := hid (fun W => err_any 3 W)
            simp only [vv] at HER HR2
            obtain ⟨lo, lcap, hlv, lg1, lg2, lg3⟩ := HOW.out
            rw [hl0] at hlv
            subst hlv
            clear HYS HE HY3 hK HOW HFL lg3 hnil
            go_wp2_with (go_at_call 26; refine (HER.out _).mono ?_; rintro x w2 ⟨rfl, q1⟩; have Q2 := hid (HQ.out.trans q1); clear q1; obtain ⟨d0, d1, d2, d3, d4, y0, y1, y2, y3, y4, _⟩ := bz_on Q2.out)
            exact bodyPost_ret (v := .agg #[.int .i64 4, .int .i64 0, .string ⟨#[]⟩, .bool false, .int .i64 3]) (by simp [results, Tryz.results32, go_sem, d0, d1, d2, d3, d4]) rfl ⟨HR2.out, Q5 (bz_q Q2.out) (Nat.le_refl _)⟩
          · have HS := hid (fun W (q : Q wr W) => rsum_sl L u5 W (HOW.out.on q) hLm HFL.out)
            have HV2 := hid (fun W (q : Q wr W) => rave_sl L u5 W (HOW.out.on q) hLm (by omega) HFL.out)
            have HN := hid (fun W => rnum_any (keep (avq L.sum L.length)) (fitB L.sum) W)
            have HV : Hid ((if fitB L.sum = true then nu (keep (avq L.sum L.length)) else er 4) = ⟨yk, yn, yt, yb, ye⟩) := by show _ = _; rw [← avV_ref L (by omega) hLm]; exact (by show _ = _; rw [HE.out]; exact HYS.out (fun l => avV (nums l)) (fun l hl => by unfold aggY; exact if_pos hl))
            rw [HV.out] at HN
            simp only [Cv.v, vv] at HN
            generalize keep (avq L.sum L.length) = KA at HN HV2
            generalize fitB (avq L.sum L.length) = FA at HV2
            generalize keep L.sum = KS at HS
            generalize fitB L.sum = FB1 at HN HS
            have hlb : ((L.length : Int) == 0) = false := by simpa using (by omega : (L.length : Int) ≠ 0)
            obtain ⟨lo, lcap, hlv, lg1, lg2, lg3⟩ := HOW.out
            clear HYS HE HY3 HV hK HOW HFL lg3 hl0 lg1 hLm
            generalize L.length = ln at hlv hlb
            subst hlv
            go_wp2_with (first
              | (go_at_call 77; refine (HS.out _ (Q.refl _)).mono ?_; rintro x w3 ⟨rfl, q1⟩; have Q3 := hid q1; clear q1)
              | (go_at_call 78; refine (HV2.out _ Q3.out).mono ?_; rintro x w4 ⟨rfl, q1⟩; have Q4 := hid (Q3.out.trans q1); clear q1)
              | (go_at_call 54; refine (HN.out _).mono ?_; rintro x w2 ⟨rfl, q1⟩; have Q2 := hid ((HQ.out.trans Q4.out).trans q1); clear q1; obtain ⟨d0, d1, d2, d3, d4, y0, y1, y2, y3, y4, _⟩ := bz_on Q2.out))
            exact bodyPost_ret (v := .agg #[.int .i64 yk, .int .i64 yn, .string yt, .bool yb, .int .i64 ye]) (by simp [results, Tryz.results32, go_sem, d0, d1, d2, d3, d4]) rfl ⟨rfl, Q5 (bz_q Q2.out) (Nat.le_refl _)⟩

      · have hTp2 : 0 < T := by omega
        have HR : Hid (er T = ⟨yk, yn, yt, yb, ye⟩) := by
          show _ = _
          have h := HY.out
          unfold aggY at h
          rw [← HE2.out, if_neg hTp] at h
          exact h
        have HER := hid (fun W => err_any T W)
        have HR2 : Hid (Ending.returned (vv 4 0 ⟨#[]⟩ false T) = .returned (vv yk yn yt yb ye)) := by show _ = _; have := HR.out; simp only [er, Cv.mk.injEq] at this; obtain ⟨rfl, rfl, rfl, rfl, rfl⟩ := this; rfl
        simp only [vv] at HER HR2
        clear HY HE HE2 HR hTp
        go_wp2_with (go_at_call 26; refine (HER.out _).mono ?_; rintro x w2 ⟨rfl, q1⟩; have Q2 := hid (HQ.out.trans q1); clear q1; obtain ⟨d0, d1, d2, d3, d4, y0, y1, y2, y3, y4, _⟩ := bz_on Q2.out)
        exact bodyPost_ret (v := .agg #[.int .i64 4, .int .i64 0, .string ⟨#[]⟩, .bool false, .int .i64 T]) (by simp [results, Tryz.results32, go_sem, d0, d1, d2, d3, d4]) rfl ⟨HR2.out, Q5 (bz_q Q2.out) (Nat.le_refl _)⟩
end Go.Proofs.YtfjpdopmojfchaaGreatDoor
