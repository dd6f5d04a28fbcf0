/- Package builtin: the worst error among arguments, and their numbers. -/
import Derived.Test.YtfjpdopmojfchaaGreatDoorBe
namespace Go.Proofs.YtfjpdopmojfchaaGreatDoor
open Go.RowKit
set_option linter.unusedVariables false
set_option linter.unusedSimpArgs false
/-- the lesser of two errors; 0 is none -/
def mn (a b : Int) : Int := if b = 0 then a else if a = 0 ∨ b < a then b else a
theorem mn_assoc {a b c : Int} (ha : 0 ≤ a) (hb : 0 ≤ b) (hc : 0 ≤ c) : mn (mn a b) c = mn a (mn b c) := by
  unfold mn
  repeat' split
  all_goals omega
theorem may_err {k n : Int} {t : ByteArray} {b : Bool} {e : Int} (hk : k = 4) (h : mayB k n t.toList b e = true) : 1 ≤ e ∧ e ≤ 7 := by
  subst hk
  simp [mayB] at h
  exact h.2.2.2
/-- the error that a value is; 0: it is none -/
def ev (x : Cv) : Int := if x.k = 4 ∧ x.may = true then x.e else 0
theorem ev_lo (x : Cv) : 0 ≤ ev x ∧ ev x ≤ 7 := by
  unfold ev
  split
  · rename_i h
    have := may_err h.1 h.2
    omega
  · omega
theorem wstep_mn (a : Int) (x : Cv) (ha : 0 ≤ a) : wstep a x = mn a (ev x) := by
  unfold wstep ev mn
  by_cases h : x.k = 4 ∧ x.may = true
  · have := may_err h.1 h.2
    rw [if_pos h]
    by_cases h2 : a = 0 ∨ x.e < a
    · rw [if_pos ⟨h.1, h.2, h2⟩, if_neg (by omega), if_pos h2]
    · rw [if_neg (fun g => h2 g.2.2), if_neg (by omega), if_neg h2]
  · rw [if_neg h, if_pos rfl, if_neg (fun g => h ⟨g.1, g.2.1⟩)]
theorem mn_lo {a b : Int} (ha : 0 ≤ a) (hb : 0 ≤ b) : 0 ≤ mn a b := by
  unfold mn
  repeat' split
  all_goals omega
theorem mn_hi {a b : Int} (ha : a ≤ 7) (hb : b ≤ 7) : mn a b ≤ 7 := by
  unfold mn
  repeat' split
  all_goals omega
theorem mn_zero (a : Int) : mn a 0 = a := by simp [mn]
theorem zero_mn (a : Int) : mn 0 a = a := by unfold mn; split <;> simp_all
theorem fold_lo (l : List Cv) : ∀ a : Int, 0 ≤ a → a ≤ 7 → 0 ≤ l.foldl wstep a ∧ l.foldl wstep a ≤ 7 := by
  induction l with
  | nil => intro a h0 h1; exact ⟨h0, h1⟩
  | cons x l ih =>
    intro a h0 h1
    have e := ev_lo x
    rw [List.foldl_cons, wstep_mn a x h0]
    exact ih _ (mn_lo h0 e.1) (mn_hi h1 e.2)
theorem worst_lo (l : List Cv) : 0 ≤ worst l ∧ worst l ≤ 7 := fold_lo l 0 (by omega) (by omega)
theorem fold_mn (l : List Cv) : ∀ a : Int, 0 ≤ a → l.foldl wstep a = mn a (worst l) := by
  induction l with
  | nil => intro a h; exact (mn_zero a).symm
  | cons x l ih =>
    intro a h0
    have e := ev_lo x
    have hw : worst (x :: l) = mn (ev x) (worst l) := by
      show (x :: l).foldl wstep 0 = _
      rw [List.foldl_cons, wstep_mn 0 x (by omega), zero_mn, ih _ e.1]
    rw [List.foldl_cons, wstep_mn a x h0, ih _ (mn_lo h0 e.1), hw]
    exact mn_assoc h0 e.1 (worst_lo l).1
theorem worst_append (l m : List Cv) : worst (l ++ m) = mn (worst l) (worst m) := by
  show (l ++ m).foldl wstep 0 = _
  rw [List.foldl_append]
  exact fold_mn m _ (worst_lo l).1
theorem worst_er (e : Int) (h0 : 0 < e) (h7 : e ≤ 7) : worst [er e] = e := by
  show wstep 0 (er e) = e
  rw [wstep_mn 0 _ (by omega), zero_mn]
  unfold ev
  rw [if_pos ⟨rfl, (Vk.err e (by omega) h7).may⟩]
  rfl
set_option maxRecDepth 100000 in
set_option maxHeartbeats 4000000 in
theorem aworst_any (A : List Ag) (v : Value) (w : World) (hw : Std2 w) (h : Args w v A) (hm : A.length ≤ 1000) (hs : ∀ a ∈ A, a.l.length ≤ 1000 ∧ ∀ x ∈ a.l, x.sm) :
    Calls Tryz.prog 104 #[v] w fun e w' => e = .returned (.int .i64 (worst (A.flatMap (·.l)))) ∧ Q w w' := by
  obtain ⟨⟨ao, cap, rfl, h1, h2, h3⟩, hvs⟩ := h
  obtain ⟨n, hn⟩ : ∃ n, A.length = n := ⟨_, rfl⟩
  have HP := hid hn
  obtain ⟨i0, hi, hz0, hz1, hz2⟩ := inf_of info24
  have HC : Hid (0 < n → ∃ b off, ao = some ⟨b, off, none⟩ ∧ ∀ i (hp : i < A.length), At2 w b (off + i * 2) A[i] ∧ Sl Cv.cells 5 w A[i].s A[i].l ∧ A[i].l.length ≤ 1000 ∧ ∀ x ∈ A[i].l, x.sm) := by
    intro h0
    obtain ⟨b, off, ha, hc⟩ := h3 (by omega)
    exact ⟨b, off, ha, fun i hp => ⟨at2_of (hc i hp), hvs _ (List.getElem_mem hp), hs _ (List.getElem_mem hp)⟩⟩
  have HW := hid hw
  have hbz : i0.bytes = 48 := hz2
  obtain ⟨T, hT⟩ : ∃ T, worst (A.flatMap (·.l)) = T := ⟨_, rfl⟩
  have HT := hid hT
  rw [hn] at h1 hm ⊢
  rw [hT]
  clear hw hs h3 hvs hn hT
  go_enter Tryz.func104, Tryz.ntmps104
  go_wp2_with (at_make; refine wpList_make_own _ rfl _ _ 27 rfl w.heap.size 37 i0 (.agg #[.int .i64 0, .int .i64 0, .string ⟨#[]⟩, .bool false, .int .i64 0]) 5 Tryz.underlying27 hi hz0 hz1 .i64 .i64 _ n rfl rfl (by omega) (by rw [hbz]; omega) (by unfold maxLen; omega) (Nat.le_refl _) ?_; intro w0 hown0 hgrow0)
  have HQ0 : Hid (Q w w0) := Below.grown (Q.refl w) hgrow0 (Nat.le_refl _) (fun k hk => by cases hk)
  have HO0 : Hid (Own Cv.cells 37 5 w.heap.size w0 (.slice (some ⟨w.heap.size, 0, none⟩) 0 n) []) := hown0
  clear hown0 hgrow0
  go_wp2
  go_loopw [3, 12] (fun s i W => ∃ (k : Nat) (L : List Cv), k ≤ n ∧ i = .int .i64 k ∧ Own Cv.cells 37 5 w.heap.size W s L ∧ L.length ≤ k ∧ (∀ x ∈ L, x.sm) ∧ worst L = worst ((A.take k).flatMap (·.l)) ∧ Q w W) (fun _ i _ => n - (intOf i).toNat)
  case atStart => exact ⟨0, [], Nat.zero_le _, rfl, HO0.out, Nat.zero_le _, by simp, by simp, HQ0.out⟩
  case round =>
    obtain ⟨k, L, hk, rfl, hown, hLk, hLs, hLw, hq⟩ := hrel
    by_cases hlt : k < n
    · obtain ⟨b, off, rfl, hc⟩ := HC.out (by omega)
      have hkp : k < A.length := by have := HP.out; omega
      obtain ⟨⟨c0, c1⟩, hsl, hl1, hl2⟩ := hc k hkp
      have hF : Hid (worst ((A.take (k + 1)).flatMap (·.l)) = mn (worst L) (worst A[k].l)) := by
        show _ = _
        rw [hLw, List.take_succ_eq_append_getElem hkp, List.flatMap_append, worst_append]
        simp
      have c0' := (hq.cell (World.block_lt_of_cell? w _ c0)).trans c0
      have c1' := (hq.cell (World.block_lt_of_cell? w _ c1)).trans c1
      have HU := hid (fun W (q : Q w W) => worst_sl A[k].l A[k].s W (HW.out.on q) (hsl.on q) hl1 hl2)
      have he := worst_lo A[k].l
      obtain ⟨ao', cap', hsv, _, _⟩ := hsl.len
      rw [hsv] at c1' HU
      clear hsl hsv
      generalize A[k].l.length = ln at c1' HU
      generalize worst A[k].l = e at HU hF he
      generalize A[k].r = rr at c0'
      have hkl : (k : Int) < (n : Int) := by omega
      have HOW := hid hown
      have HQ := hid hq
      have HX := hid (And.intro hLk hLs)
      clear c0 c1 hc hown hq hl1 hl2 hLk hLs hLw
      by_cases hz : e = 0
      · subst hz
        have hF' : Hid (worst L = worst ((A.take (k + 1)).flatMap (·.l))) := by show _ = _; rw [hF.out, mn_zero]
        clear hF
        go_wp2_with (go_at_call 38; refine (HU.out _ (HQ.out.alloc _)).mono ?_; rintro r w2 ⟨rfl, q2⟩; have Q2 := hid (((Q.refl wr).alloc _).trans q2); clear q2)
        go_roundw
        case rel => exact ⟨k + 1, L, by omega, by go_num, HOW.out.on Q2.out, by have := HX.out.1; omega, HX.out.2, hF'.out, HQ.out.trans Q2.out⟩
        case measure => simp [intOf]; omega
      · have hz' : (e != 0) = true := bne_iff_ne.2 hz
        have HFa := hid (fun W => failure_any e W)
        simp only [Cv.v, vv, er] at HFa
        have hF' : Hid (worst (L ++ [er e]) = worst ((A.take (k + 1)).flatMap (·.l))) := by show _ = _; rw [hF.out, worst_append, worst_er e (by omega) he.2]
        have hLk := HX.out.1
        clear hF
        go_wp2_with (first
          | (go_at_call 38; refine (HU.out _ (HQ.out.alloc _)).mono ?_; rintro r w2 ⟨rfl, q2⟩; have Q2 := hid (((Q.refl wr).alloc _).trans q2); clear q2)
          | (go_at_call 30; refine (HFa.out _).mono ?_; rintro r w3 ⟨rfl, q3⟩; have Q3 := hid (Q2.out.trans q3); clear q3)
          | (at_builtin; refine wpList_append_own _ rfl _ _ 27 rfl w.heap.size 37 i0 (.agg #[.int .i64 0, .int .i64 0, .string ⟨#[]⟩, .bool false, .int .i64 0]) 5 48 Tryz.underlying27 hi hz0 hz1 hz2 rfl (by decide) _ _ _ rfl (World.ownsRow.alloc (Own.on HOW.out Q3.out) _) ⟨w3.heap.size, 0, none⟩ 1 1 [.int .i64 4, .int .i64 0, .string ⟨#[]⟩, .bool false, .int .i64 e] rfl rfl ?c1 ?c2 ?c3 ?c4 ?c5 ?_))
        case c1 => exact news_new w3 [.int .i64 4, .int .i64 0, .string ⟨#[]⟩, .bool false, .int .i64 e] 37
        case c2 =>
          intro u hu
          simp at hu
          rcases hu with rfl | rfl | rfl | rfl | rfl <;> rfl
        case c3 => unfold maxLen; omega
        case c4 => omega
        case c5 => have := (HQ.out.trans Q3.out).size; simp; omega
        · intro v' w4 hown' hgrow _
          have HO2 : Hid (Own Cv.cells 37 5 w.heap.size w4 v' (L ++ [er e])) := own_snoc' (x := er e) hown' rfl
          have HQ2 : Hid (Q w w4) := Below.grown ((HQ.out.trans Q3.out).alloc _) hgrow (by have := (HQ.out.trans Q3.out).size; simp; omega) (Own.blk HOW.out)
          clear hown' hgrow
          go_wp2
          go_roundw
          case rel => exact ⟨k + 1, L ++ [er e], by omega, by go_num, HO2.out, by simp; omega, fun x hx => by rcases List.mem_append.1 hx with h | h; exact HX.out.2 x h; simp at h; subst h; show (((⟨#[]⟩ : ByteArray).size : Nat) : Int) ≤ _; decide, hF'.out, HQ2.out⟩
          case measure => simp [intOf]; omega
    · have hkn : k = n := by omega
      subst hkn
      rw [List.take_of_length_le (by have := HP.out; omega)] at hLw
      have HE : Hid (worst L = T) := hLw.trans HT.out
      have HU := hid (fun W (q : Q w W) (s : Sl Cv.cells 5 W u3 L) => worst_sl L u3 W (HW.out.on q) s (by omega) hLs)
      have HOW : Hid (Sl Cv.cells 5 wr u3 L) := hown.sl Cv.len (by omega)
      have HQ := hid hq
      clear hown hLs hLw hq
      have hkl : ¬ (k : Int) < (k : Int) := by omega
      go_wp2_with (go_at_call 38; refine (HU.out _ HQ.out HOW.out).mono ?_; rintro r w2 ⟨rfl, q2⟩; have Q2 := hid (HQ.out.trans q2); clear q2)
      go_ret
      exact ⟨ret_int HE.out, Q2.out⟩
end Go.Proofs.YtfjpdopmojfchaaGreatDoor
