/- Trees and cells that may be can be told from their bytes, an. -/
import Derived.Test.YtcgddnliiondoaaGreatDoorKp28
import Derived.Test.YtcgddnliiondoaaGreatDoorKp26
import Derived.Test.YtcgddnliiondoaaGreatDoorKp24
import Derived.Test.YtcgddnliiondoaaGreatDoorKp27
import Derived.Test.YtcgddnliiondoaaGreatDoorKp00
set_option linter.unusedVariables false
set_option linter.unusedSimpArgs false
set_option maxRecDepth 100000
set_option maxHeartbeats 8000000
namespace Go.Proofs.YtcgddnliiondoaaGreatDoor
open Go.RowKit
theorem bare_of {n : Int} {t : List UInt8} {b : Bool} {e : Int} {l1 l2 : Nat} (h : bareB n t b e l1 l2 = true) : n = 0 ∧ t = [] ∧ b = false ∧ e = 0 ∧ l1 = 0 ∧ l2 = 0 := of_decide_eq_true h
theorem wfr_of {x : Rf} (h : mayR x.1 x.2.1 x.2.2.1 = true) (hs : x.1.length ≤ 2000000) : wfR x := by
  unfold mayR at h
  simp only [Bool.and_eq_true, decide_eq_true_eq] at h
  exact ⟨hs, ⟨h.2.1.1, by omega⟩, h.2.2.1, by omega⟩
theorem enL_lt {e : Int} (h : enL e ≠ []) : 0 ≤ e ∧ e < 100 := by
  unfold enL at h
  by_cases h1 : e = 1; · omega
  by_cases h2 : e = 2; · omega
  by_cases h3 : e = 3; · omega
  by_cases h4 : e = 4; · omega
  by_cases h5 : e = 5; · omega
  by_cases h6 : e = 6; · omega
  by_cases h7 : e = 7; · omega
  rw [if_neg h1, if_neg h2, if_neg h3, if_neg h4, if_neg h5, if_neg h6, if_neg h7] at h
  exact absurd rfl h
theorem len0 {α : Type} {l : List α} (h : l.length = 0) : l = [] := List.eq_nil_of_length_eq_zero h
theorem okT_of : ∀ X : Ex, mall mayN X = true → Sm X → Rn X → okT X
  | .mk k n t b e rs ks, hm, hs, hn => by
    rw [mall] at hm
    simp only [Bool.and_eq_true] at hm
    obtain ⟨hm, hml⟩ := hm
    rw [Sm] at hs
    rw [Rn] at hn
    obtain ⟨s1, s2, s3⟩ := hs
    rw [okT]
    refine ⟨?_, go ks hml s3 hn.2⟩
    have hn1 := hn.1
    clear hml s3 hn
    unfold mayN at hm
    dsimp only at hm
    by_cases h1 : k = 1
    · subst h1
      rw [if_pos rfl] at hm
      simp only [Bool.and_eq_true, decide_eq_true_eq] at hm
      obtain ⟨_, rfl, rfl, rfl, l1, l2⟩ := bare_of hm.2
      exact .inl ⟨rfl, ⟨hm.1, by omega⟩, rfl, rfl, rfl, len0 l1, len0 l2⟩
    rw [if_neg h1] at hm
    by_cases h2 : k = 2
    · subst h2
      rw [if_pos rfl] at hm
      simp only [Bool.and_eq_true] at hm
      obtain ⟨rfl, _, rfl, rfl, l1, l2⟩ := bare_of hm.2
      exact .inr (.inl ⟨rfl, rfl, s1, rfl, rfl, len0 l1, len0 l2⟩)
    rw [if_neg h2] at hm
    by_cases h3 : k = 3
    · subst h3
      rw [if_pos rfl] at hm
      simp only [Bool.and_eq_true] at hm
      obtain ⟨rfl, rfl, _, rfl, l1, l2⟩ := bare_of hm.2
      exact .inr (.inr (.inl ⟨rfl, rfl, rfl, rfl, len0 l1, len0 l2⟩))
    rw [if_neg h3] at hm
    by_cases h4 : k = 4
    · subst h4
      rw [if_pos rfl] at hm
      simp only [Bool.and_eq_true, decide_eq_true_eq] at hm
      obtain ⟨rfl, rfl, rfl, _, l1, l2⟩ := bare_of hm.2
      exact .inr (.inr (.inr (.inl ⟨rfl, rfl, rfl, rfl, enL_lt hm.1, len0 l1, len0 l2⟩)))
    rw [if_neg h4] at hm
    by_cases h5 : k = 5
    · subst h5
      rw [if_pos rfl] at hm
      simp only [Bool.and_eq_true] at hm
      obtain ⟨rfl, rfl, rfl, rfl, _, l2⟩ := bare_of hm.2
      have hx : ∃ x, rs = [x] ∧ wfR x := by
        match rs, hm.1, s2 with
        | [x], ho, s2 => exact ⟨x, rfl, wfr_of ho (s2 x (by simp))⟩
      exact .inr (.inr (.inr (.inr (.inl ⟨rfl, rfl, rfl, rfl, rfl, hx, len0 l2⟩))))
    rw [if_neg h5] at hm
    by_cases h6 : k = 6
    · subst h6
      rw [if_pos rfl] at hm
      simp only [Bool.and_eq_true] at hm
      obtain ⟨rfl, rfl, rfl, rfl, _, l2⟩ := bare_of hm.2
      have hx : ∃ x y, rs = [x, y] ∧ wfR x ∧ wfR y := by
        match rs, hm.1, s2 with
        | [x, y], ho, s2 =>
          unfold rngB at ho
          simp only [Bool.and_eq_true] at ho
          exact ⟨x, y, rfl, wfr_of ho.1 (s2 x (by simp)), wfr_of ho.2.1 (s2 y (by simp))⟩
      exact .inr (.inr (.inr (.inr (.inr (.inl ⟨rfl, rfl, rfl, rfl, rfl, hx, len0 l2⟩)))))
    rw [if_neg h6] at hm
    by_cases h7 : k = 7
    · subst h7
      rw [if_pos rfl] at hm
      simp only [Bool.and_eq_true, decide_eq_true_eq] at hm
      obtain ⟨rfl, rfl, rfl, rfl, l1, _⟩ := bare_of hm.2
      exact .inr (.inr (.inr (.inr (.inr (.inr (.inl ⟨rfl, rfl, rfl, rfl, rfl, len0 l1, hm.1⟩))))))
    rw [if_neg h7] at hm
    by_cases h8 : k = 8
    · subst h8
      rw [if_pos rfl] at hm
      simp only [Bool.and_eq_true, decide_eq_true_eq] at hm
      obtain ⟨rfl, _, rfl, rfl, l1, _⟩ := bare_of hm.2
      exact .inr (.inr (.inr (.inr (.inr (.inr (.inr (.inl ⟨rfl, rfl, s1, rfl, rfl, len0 l1, hm.1.2⟩)))))))
    rw [if_neg h8] at hm
    by_cases h9 : k = 9
    · subst h9
      rw [if_pos rfl] at hm
      simp only [Bool.and_eq_true, decide_eq_true_eq] at hm
      obtain ⟨rfl, _, rfl, rfl, l1, _⟩ := bare_of hm.2
      exact .inr (.inr (.inr (.inr (.inr (.inr (.inr (.inr ⟨rfl, rfl, s1, rfl, rfl, len0 l1, by have := hm.1.2; omega⟩)))))))
    rw [if_neg h9] at hm
    cases hm
  where
  go : ∀ ks : List Ex, mall.mallL mayN ks = true → Sm.SmL ks → Rn.RnL ks → okT.okTL ks
  | [], _, _, _ => by rw [okT.okTL]; trivial
  | x :: xs, hm, hs, hn => by
    rw [mall.mallL] at hm
    simp only [Bool.and_eq_true] at hm
    rw [Sm.SmL] at hs
    rw [Rn.RnL] at hn
    rw [okT.okTL]
    exact ⟨okT_of x hm.1 hs.1 hn.1, go xs hm.2 hs.2 hn.2⟩
theorem wfT_of : ∀ X : Ex, okT X → WfT X
  | .mk k n t b e rs ks, h => by
    rw [okT] at h
    obtain ⟨h, hl⟩ := h
    rw [WfT]
    refine ⟨?_, go ks hl⟩
    rcases h with ⟨rfl, _, rfl, _, _, _, rfl⟩ | ⟨rfl, _, h3, _, _, _, rfl⟩ | ⟨rfl, _, rfl, _, _, rfl⟩ | ⟨rfl, _, rfl, _, h5, _, rfl⟩ | ⟨rfl, _, rfl, _, _, ⟨x, rfl, h6⟩, rfl⟩ | ⟨rfl, _, rfl, _, _, ⟨x, y, rfl, h6, h7⟩, rfl⟩ | ⟨rfl, _, rfl, _, _, _, h7⟩ | ⟨rfl, _, h3, _, _, _, h7⟩ | ⟨rfl, _, h3, _, _, _, h7⟩
    · exact ⟨by simp, by simp, by simp⟩
    · exact ⟨h3, by simp, by simp⟩
    · exact ⟨by simp, by simp, by simp⟩
    · exact ⟨by simp, by simp, .inr (.inr (.inr (.inl ⟨rfl, h5⟩)))⟩
    · exact ⟨by simp, by simp, .inr (.inr (.inr (.inr (.inl ⟨.inl rfl, fun z hz => by simp at hz; subst hz; exact h6⟩))))⟩
    · exact ⟨by simp, by simp, .inr (.inr (.inr (.inr (.inl ⟨.inr rfl, fun z hz => by
        simp at hz
        rcases hz with rfl | rfl
        · exact h6
        · exact h7⟩))))⟩
    · exact ⟨by simp, by omega, by simp⟩
    · exact ⟨h3, by omega, by simp⟩
    · exact ⟨h3, h7, by simp⟩
  where
  go : ∀ ks : List Ex, okT.okTL ks → WfT.WfTL ks
  | [], _ => by rw [WfT.WfTL]; trivial
  | x :: xs, h => by
    rw [okT.okTL] at h
    rw [WfT.WfTL]
    exact ⟨wfT_of x h.1, go xs h.2⟩
theorem okC_of {f : Bool} {vk vn : Int} {t : List UInt8} {b : Bool} {e : Int} {X : Ex} (h : mcB f vk vn t b e X = true) (ht : t.length ≤ 1000000) (hv : V.fitB vn = true) (hs : Sm X) (hn : Rn X) : okC f vk vn t b e X := by
  have hv' : -9223372036854775808 ≤ vn ∧ vn ≤ 9223372036854775807 := of_decide_eq_true hv
  unfold mcB at h
  cases f with
  | true =>
    rw [if_pos rfl] at h
    simp only [Bool.and_eq_true, decide_eq_true_eq] at h
    obtain ⟨⟨_, hm⟩, rfl, rfl, rfl, rfl, rfl⟩ := h
    exact .inl ⟨rfl, rfl, rfl, rfl, rfl, rfl, okT_of X hm hs hn⟩
  | false =>
    rw [if_neg Bool.false_ne_true] at h
    simp only [Bool.and_eq_true] at h
    obtain ⟨h, hz⟩ := h
    have hX := (isZ_iff X).1 hz
    refine .inr ⟨rfl, hX, ?_⟩
    clear hs hn hz hX
    unfold V.mayB at h
    by_cases h0 : vk = 0
    · subst h0
      rw [if_pos rfl] at h
      simp only [Bool.and_eq_true, decide_eq_true_eq, Bool.not_eq_true'] at h
      exact .inl ⟨rfl, h.1, h.2.1, h.2.2.1, h.2.2.2⟩
    rw [if_neg h0] at h
    by_cases h1 : vk = 1
    · subst h1
      rw [if_pos rfl] at h
      simp only [Bool.and_eq_true, decide_eq_true_eq, Bool.not_eq_true'] at h
      exact .inr (.inl ⟨rfl, ⟨hv'.1, by omega⟩, h.1, h.2.1, h.2.2⟩)
    rw [if_neg h1] at h
    by_cases h2 : vk = 2
    · subst h2
      rw [if_pos rfl] at h
      simp only [Bool.and_eq_true, decide_eq_true_eq, Bool.not_eq_true'] at h
      exact .inr (.inr (.inl ⟨rfl, h.1, ht, h.2.1, h.2.2.1⟩))
    rw [if_neg h2] at h
    by_cases h3 : vk = 3
    · subst h3
      rw [if_pos rfl] at h
      simp only [Bool.and_eq_true, decide_eq_true_eq] at h
      exact .inr (.inr (.inr (.inl ⟨rfl, h.1, h.2.1, h.2.2⟩)))
    rw [if_neg h3] at h
    by_cases h4 : vk = 4
    · subst h4
      rw [if_pos rfl] at h
      simp only [Bool.and_eq_true, decide_eq_true_eq, Bool.not_eq_true'] at h
      exact .inr (.inr (.inr (.inr ⟨rfl, h.1, h.2.1, h.2.2.1, by have := h.2.2.2; omega⟩)))
    rw [if_neg h4] at h
    cases h
theorem lm_of {k a t : Int} (h : lmB k a t = true) : okN k ∧ okN a ∧ okN t := by
  unfold lmB L.mayB at h
  obtain ⟨h1, h2, h3⟩ := of_decide_eq_true h
  unfold okN
  refine ⟨?_, by omega, by omega⟩
  unfold L.Ax.okB at h3
  by_cases e1 : k = 1
  · omega
  rw [if_neg e1] at h3
  by_cases e2 : k = 2
  · omega
  rw [if_neg e2] at h3
  by_cases e3 : k = 3
  · omega
  rw [if_neg e3] at h3
  cases h3
theorem wfRc_of {M : List R.Rg.Rc} (h : MR M true) : ∀ z ∈ M, wfRc z := by
  intro z hz
  obtain ⟨h1, h2, h3, h4, h5, h6⟩ := R.Rg.nf_mays (h.1 rfl).2.2.1 (R.Rg.dif_inn (R.Rg.cnted_mays M)) z hz
  unfold wfRc
  omega
theorem okO_of {x : Rv} {X : Ex} {M : List R.Rg.Rc} {mr : Bool} (h : mayO x X M mr = true) (ok : OK1 x X M) (hmr : MR M mr) : okO x X M := by
  have hvt : x.vt.data.toList.length ≤ 1000000 := by rw [len_data]; exact ok.vt
  have hnm := ok.nm
  have hml := ok.ml
  have hc := fun hm => okC_of (f := x.f) (vk := x.vk) (vn := x.vn) (t := x.vt.data.toList) (b := x.vb) (e := x.ve) (X := X) hm hvt ok.vr ok.sm ok.rn
  have hsh := ok.sh
  have hrc : mr = true → ∀ z ∈ M, wfRc z := fun e => wfRc_of (e ▸ hmr)
  unfold mayO at h
  simp only [Bool.and_eq_true] at h
  replace h := h.2
  clear hmr hvt ok
  by_cases e1 : x.k = 1
  · rw [if_pos e1] at h
    simp only [Bool.and_eq_true, zLine, zFm, zNm, lnB, decide_eq_true_eq, List.isEmpty_iff] at h
    obtain ⟨⟨h1, h2, h3⟩, h4, h5, h6, h7⟩ := h
    refine ⟨by omega, hsh, ?_, ?_, ?_, ?_⟩
    · rw [if_pos e1]; exact ⟨by unfold okN; omega, by unfold okN; omega, hc h3⟩
    · rw [if_neg (by omega)]; exact h4
    · rw [if_neg (by omega)]; exact ⟨h6, h5⟩
    · rw [if_neg (by omega)]; exact h7
  rw [if_neg e1] at h
  simp only [Bool.and_eq_true, zRow, zCell, decide_eq_true_eq] at h
  obtain ⟨⟨⟨r1, r2⟩, ⟨r3, r4, r5, r6, r7, r8⟩, r9⟩, h⟩ := h
  replace r9 := (isZ_iff X).1 r9
  have hrow : if x.k = 1 then okN x.row ∧ okN x.col ∧ okC x.f x.vk x.vn x.vt.data.toList x.vb x.ve X else (x.row = 0 ∧ x.col = 0 ∧ x.f = false ∧ x.vk = 0 ∧ x.vn = 0 ∧ x.vt.data.toList = [] ∧ x.vb = false ∧ x.ve = 0 ∧ X = zeroE) := by
    rw [if_neg e1]; exact ⟨r1, r2, r3, r4, r5, r6, r7, r8, r9⟩
  clear r1 r2 r3 r4 r5 r6 r7 r8 r9 hc
  by_cases e2 : x.k = 2 ∨ x.k = 3
  · rw [if_pos e2] at h
    simp only [Bool.and_eq_true, zFm, zNm, decide_eq_true_eq, List.isEmpty_iff] at h
    obtain ⟨h1, h2, h3, h4⟩ := h
    refine ⟨by omega, hsh, hrow, ?_, ?_, ?_⟩
    · rw [if_pos e2]; exact lm_of h1
    · rw [if_neg (by omega)]; exact ⟨h3, h2⟩
    · rw [if_neg (by omega)]; exact h4
  rw [if_neg e2] at h
  simp only [Bool.and_eq_true, zLine, decide_eq_true_eq] at h
  obtain ⟨hl, h⟩ := h
  by_cases e4 : x.k = 4
  · rw [if_pos e4] at h
    simp only [Bool.and_eq_true, zNm, fmB, decide_eq_true_eq] at h
    obtain ⟨⟨h1, h2⟩, h3⟩ := h
    refine ⟨by omega, hsh, hrow, ?_, ?_, ?_⟩
    · rw [if_neg e2]; exact hl
    · rw [if_pos e4]; exact ⟨by unfold okN; omega, hrc h1, hml⟩
    · rw [if_neg (by omega)]; exact h3
  rw [if_neg e4] at h
  simp only [Bool.and_eq_true, zFm, decide_eq_true_eq, List.isEmpty_iff] at h
  obtain ⟨⟨h1, h2⟩, h⟩ := h
  by_cases e5 : x.k = 5 ∨ x.k = 6
  · refine ⟨by omega, hsh, hrow, ?_, ?_, ?_⟩
    · rw [if_neg e2]; exact hl
    · rw [if_neg e4]; exact ⟨h2, h1⟩
    · rw [if_pos e5]; exact hnm
  rw [if_neg e5] at h
  simp only [Bool.and_eq_true, zNm, decide_eq_true_eq] at h
  refine ⟨by omega, hsh, hrow, ?_, ?_, ?_⟩
  · rw [if_neg e2]; exact hl
  · rw [if_neg e4]; exact ⟨h2, h1⟩
  · rw [if_neg e5]; exact h.1
theorem idB_short (l : List UInt8) (h : idB l = true) : l.length ≤ 32 := by
  unfold idB at h
  have h0 := of_decide_eq_true h
  clear h
  unfold ownK at h0
  split at h0
  · rename_i hp
    have ht : (Lib.trimPrefix l [99]).length + 1 = l.length := by
      have : 1 ≤ l.length := by
        cases l with
        | nil => simp [Lib.hasPrefix] at hp
        | cons c t => simp
      unfold Lib.trimPrefix
      rw [if_pos hp, List.length_drop]
      simp only [List.length_cons, List.length_nil] at this ⊢
      omega
    generalize Lib.trimPrefix l [99] = m at *
    rcases cut_any 110 m with ⟨a, b, rfl, hn⟩ | hn
    · rw [cut_at 110 a b hn] at h0
      unfold ownP at h0
      simp only [List.length_append, List.length_cons] at ht
      split at h0
      · rename_i hc
        simp only [Bool.and_eq_true, true_and] at hc
        have h1 : ¬ 15 < a.length := fun g => by rw [numF_long a 15 g (by omega)] at hc; exact absurd hc.1 (by simp)
        have h2 : ¬ 15 < b.length := fun g => by rw [numF_long b 999999 g (by omega)] at hc; exact absurd hc.2 (by simp)
        omega
      · omega
    · rw [cut_free 110 m hn] at h0
      unfold ownP at h0
      simp at h0
  · omega
theorem lvl_short (t : List UInt8) (h : 1 ≤ lvl t) : t.length ≤ 2 := by
  apply Decidable.byContradiction
  intro hl
  have hne : ∀ s : List UInt8, s.length ≤ 2 → t ≠ s := fun s hs e => by subst e; exact hl hs
  unfold lvl at h
  simp (discharger := decide) only [if_neg (hne _ _)] at h
  simp [hne [61] (by decide), hne [60, 62] (by decide), hne [60] (by decide), hne [60, 61] (by decide), hne [62] (by decide), hne [62, 61] (by decide), hne [38] (by decide), hne [43] (by decide), hne [45] (by decide), hne [42] (by decide), hne [47] (by decide)] at h
theorem mt_short (t : List UInt8) (h : V.mtB t = true) : t.length ≤ 200 := by
  unfold V.mtB at h
  simp only [Bool.and_eq_true, decide_eq_true_eq] at h
  omega
theorem encR_short {x : Rf} (h : mayR x.1 x.2.1 x.2.2.1 = true) : (encR x).length ≤ 72 := by
  unfold mayR at h
  simp only [Bool.and_eq_true, Bool.or_eq_true] at h
  have h1 : x.1.length ≤ 32 := by
    rcases h.1 with h | h
    · simp [List.isEmpty_iff] at h; simp [h]
    · exact idB_short _ h
  have a1 := vn_len x.1.length
  have a2 := vn_len x.2.1.toNat
  have a3 := vn_len x.2.2.1.toNat
  have a4 := vn_len (heldN x.2.2.2.1 x.2.2.2.2)
  simp only [encR, List.length_append]
  omega
theorem encT_short : ∀ X : Ex, mall mayN X = true → (encT X).length ≤ 230 * nodes X
  | .mk k n t b e rs ks, hm => by
    rw [mall] at hm
    simp only [Bool.and_eq_true] at hm
    obtain ⟨hm, hml⟩ := hm
    have hk := go ks hml
    rw [nodes, encT]
    have a0 := vn_len k.toNat
    have a1 := vn_len (u64N n)
    have a2 := vn_len t.length
    have a3 := vn_len (if b then 1 else 0)
    have a4 := vn_len e.toNat
    have a5 := vn_len ks.length
    have H : (if k = 1 then vn (u64N n) else if k = 2 then vn t.length ++ t else if k = 3 then vn (if b then 1 else 0)
    else if k = 4 then vn e.toNat else if k = 5 ∨ k = 6 then rs.flatMap encR else if k = 7 then encT.encTL ks
    else if k = 8 then vn t.length ++ (t ++ encT.encTL ks) else vn t.length ++ (t ++ (vn ks.length ++ encT.encTL ks))).length ≤ 220 + 230 * nodes.nodesL ks := by
      unfold mayN at hm
      dsimp only at hm
      by_cases h1 : k = 1
      · rw [if_pos h1]; omega
      rw [if_neg h1] at hm ⊢
      by_cases h2 : k = 2
      · rw [if_pos h2] at hm ⊢
        simp only [Bool.and_eq_true] at hm
        have h9 := hm.1
        simp only [V.mayB, Int.reduceEq, if_true, if_false, Bool.and_eq_true] at h9
        have := mt_short t h9.2.2.2
        rw [List.length_append]
        omega
      rw [if_neg h2] at hm ⊢
      by_cases h3 : k = 3
      · rw [if_pos h3]; omega
      rw [if_neg h3] at hm ⊢
      by_cases h4 : k = 4
      · rw [if_pos h4]; omega
      rw [if_neg h4] at hm ⊢
      by_cases h5 : k = 5
      · rw [if_pos (.inl h5)]
        rw [if_pos h5] at hm
        simp only [Bool.and_eq_true] at hm
        match rs, hm.1 with
        | [x], ho =>
          have := encR_short (x := x) ho
          simp only [List.flatMap_cons, List.flatMap_nil, List.append_nil]
          omega
      rw [if_neg h5] at hm
      by_cases h6 : k = 6
      · rw [if_pos (.inr h6)]
        rw [if_pos h6] at hm
        simp only [Bool.and_eq_true] at hm
        match rs, hm.1 with
        | [x, y], ho =>
          unfold rngB at ho
          simp only [Bool.and_eq_true] at ho
          have := encR_short (x := x) ho.1
          have := encR_short (x := y) ho.2.1
          simp only [List.flatMap_cons, List.flatMap_nil, List.append_nil, List.length_append]
          omega
      rw [if_neg h6] at hm
      rw [if_neg (by omega)]
      by_cases h7 : k = 7
      · rw [if_pos h7]; omega
      rw [if_neg h7] at hm ⊢
      by_cases h8 : k = 8
      · rw [if_pos h8] at hm ⊢
        simp only [Bool.and_eq_true, decide_eq_true_eq] at hm
        have := lvl_short t hm.1.1
        simp only [List.length_append]
        omega
      rw [if_neg h8] at hm ⊢
      by_cases h9 : k = 9
      · rw [if_pos h9] at hm
        simp only [Bool.and_eq_true, decide_eq_true_eq, namF] at hm
        have := hm.1.1.2.1
        simp only [List.length_append]
        omega
      rw [if_neg h9] at hm
      cases hm
    rw [List.length_append]
    omega
  where
  go : ∀ ks : List Ex, mall.mallL mayN ks = true → (encT.encTL ks).length ≤ 230 * nodes.nodesL ks
  | [], _ => by rw [encT.encTL]; simp
  | x :: xs, hm => by
    rw [mall.mallL] at hm
    simp only [Bool.and_eq_true] at hm
    have h1 := encT_short x hm.1
    have h2 := go xs hm.2
    rw [encT.encTL, nodes.nodesL, List.length_append]
    omega
theorem encC_short {f : Bool} {vk n : Int} {t : List UInt8} {b : Bool} {e : Int} {X : Ex} (h : mcB f vk n t b e X = true) : (encC f vk n t b e X).length ≤ 60000 := by
  have a0 := vn_len vk.toNat
  have a1 := vn_len 5
  have a2 := vn_len (sgN n)
  have a3 := vn_len t.length
  have a4 := vn_len (if b then 1 else 0)
  have a5 := vn_len e.toNat
  unfold mcB at h
  cases f with
  | true =>
    rw [if_pos rfl] at h
    simp only [Bool.and_eq_true, decide_eq_true_eq] at h
    have h1 := encT_short X h.1.2
    have h2 := h.1.1
    unfold fitB at h2
    simp only [Bool.and_eq_true, decide_eq_true_eq] at h2
    have h3 := h2.1
    simp only [encC, if_true, List.length_append]
    omega
  | false =>
    rw [if_neg Bool.false_ne_true] at h
    simp only [Bool.and_eq_true] at h
    obtain ⟨h, _⟩ := h
    have ht : vk = 2 → t.length ≤ 200 := fun e2 => by
      subst e2
      simp only [V.mayB, Int.reduceEq, if_true, if_false, Bool.and_eq_true] at h
      exact mt_short t h.2.2.2
    simp only [encC, Bool.false_eq_true, if_false, List.length_append]
    split
    · omega
    split
    · rename_i e2
      have := ht e2
      simp only [List.length_append]
      omega
    split
    · omega
    split
    · omega
    · simp
      omega
theorem encRc_short (x : R.Rg.Rc) : (encRc x).length ≤ 40 := by
  obtain ⟨xa, xb, xc, xd⟩ := x
  have a0 := vn_len xa.toNat
  have a1 := vn_len xb.toNat
  have a2 := vn_len xc.toNat
  have a3 := vn_len xd.toNat
  unfold encRc
  simp only [List.length_append]
  omega
theorem encRcs_short (M : List R.Rg.Rc) : (M.flatMap encRc).length ≤ 40 * M.length := by
  induction M with
  | nil => simp
  | cons x xs ih =>
    have := encRc_short x
    rw [List.flatMap_cons, List.length_append, List.length_cons]
    omega
theorem encO_short {x : Rv} {X : Ex} {M : List R.Rg.Rc} {mr : Bool} (h : mayO x X M mr = true) (hmr : MR M mr) : (encO x X M).length ≤ 100000 := by
  have a0 := vn_len x.k.toNat
  have a1 := vn_len x.sh.size
  have a2 := vn_len x.row.toNat
  have a3 := vn_len x.col.toNat
  have a4 := vn_len x.lk.toNat
  have a5 := vn_len x.la.toNat
  have a6 := vn_len x.lt.toNat
  have a7 := vn_len M.length
  have a8 := vn_len x.fm.toNat
  have a9 := vn_len x.nm.size
  unfold mayO at h
  simp only [Bool.and_eq_true] at h
  have hs := idB_short _ h.1
  replace h := h.2
  simp only [encO, List.length_append]
  have H : (if x.k = 1 then vn x.row.toNat ++ (vn x.col.toNat ++ encC x.f x.vk x.vn x.vt.data.toList x.vb x.ve X)
  else if x.k = 2 ∨ x.k = 3 then vn x.lk.toNat ++ (vn x.la.toNat ++ vn x.lt.toNat)
  else if x.k = 4 then (vn M.length ++ M.flatMap encRc) ++ vn x.fm.toNat
  else if x.k = 5 ∨ x.k = 6 then vn x.nm.size ++ x.nm.data.toList else []).length ≤ 70000 := by
    by_cases e1 : x.k = 1
    · rw [if_pos e1] at h ⊢
      simp only [Bool.and_eq_true] at h
      have := encC_short h.1.2.2
      simp only [List.length_append]
      omega
    rw [if_neg e1] at h ⊢
    simp only [Bool.and_eq_true] at h
    replace h := h.2
    by_cases e2 : x.k = 2 ∨ x.k = 3
    · rw [if_pos e2]
      simp only [List.length_append]
      omega
    rw [if_neg e2] at h ⊢
    simp only [Bool.and_eq_true] at h
    replace h := h.2
    by_cases e4 : x.k = 4
    · rw [if_pos e4] at h ⊢
      simp only [Bool.and_eq_true] at h
      have h1 := (hmr.1 h.1.1).2.1
      have h2 := encRcs_short M
      simp only [List.length_append]
      omega
    rw [if_neg e4] at h ⊢
    simp only [Bool.and_eq_true] at h
    replace h := h.2
    by_cases e5 : x.k = 5 ∨ x.k = 6
    · rw [if_pos e5] at h ⊢
      unfold nmB at h
      simp only [Bool.and_eq_true, decide_eq_true_eq] at h
      have := h.1.2
      simp only [List.length_append]
      omega
    rw [if_neg e5]
    simp
  omega
set_option maxHeartbeats 8000000 in
theorem wop2 (p : Nat) (L : List UInt8) (sh : ByteArray) (lk la lt : Nat) (x2 x3 x4 x5 x6 x7 x8 x9 x10 x11 x12 x13 x14 x15 x16 x20 x21 x22 : Value) (w : World) (h : Wr p L w) (hL : L.length ≤ 100000000) (hsh : sh.size ≤ 1000000) (hlk : lk < 9223372036854775808) (hla : la < 9223372036854775808) (hlt : lt < 9223372036854775808) :
    Calls Tryz.prog 39 #[.pointer (some ⟨p, 0, none⟩), .agg #[.int .i64 2, .string sh, x2, x3, x4, x5, x6, x7, x8, x9, x10, x11, x12, x13, x14, x15, x16, .int .i64 lk, .int .i64 la, .int .i64 lt, x20, x21, x22]] w fun e W' => e = .returned (.tuple #[]) ∧ Wr p (L ++ (vn 2 ++ (vn sh.size ++ (sh.data.toList ++ (vn lk ++ (vn la ++ vn lt)))))) W' ∧ Ww p w W' := by
  have HB := hid (And.intro hL (And.intro hsh (And.intro (vn_len 2) (And.intro (vn_len sh.size) (And.intro (vn_len lk) (And.intro (vn_len la) (vn_len lt)))))))
  have T1 : Hid True := hid trivial
  have HW := hid h
  have T0 : Hid True := hid trivial
  clear h
  go_enter Tryz.func39, Tryz.ntmps39
  go_upto_region 1 with (with_reducible refine wpl_boxn _ (by with_unfolding_all rfl) (by with_unfolding_all rfl) [.int .i64 2, .string sh, x2, x3, x4, x5, x6, x7, x8, x9, x10, x11, x12, x13, x14, x15, x16, .int .i64 lk, .int .i64 la, .int .i64 lt, x20, x21, x22] (by with_unfolding_all rfl) ?_; intro w1 b0 hZ hQ hN; have HZ := hid hZ; have HNE : Hid (b0 ≠ p) := hid (by have := HW.out.lt; omega); have HQ : Hid (Ww p w w1) := hid (Ww.of hQ (Nat.le_of_lt HW.out.lt)); replace HW := hid (HW.out.on hQ); have d0 := HZ.out.c 0 _ rfl; have d1 := HZ.out.c 1 _ rfl; have d2 := HZ.out.c 2 _ rfl; have d3 := HZ.out.c 3 _ rfl; have d4 := HZ.out.c 4 _ rfl; have d5 := HZ.out.c 5 _ rfl; have d6 := HZ.out.c 6 _ rfl; have d7 := HZ.out.c 7 _ rfl; have d8 := HZ.out.c 8 _ rfl; have d9 := HZ.out.c 9 _ rfl; have d10 := HZ.out.c 10 _ rfl; have d11 := HZ.out.c 11 _ rfl; have d12 := HZ.out.c 12 _ rfl; have d13 := HZ.out.c 13 _ rfl; have d14 := HZ.out.c 14 _ rfl; have d15 := HZ.out.c 15 _ rfl; have d16 := HZ.out.c 16 _ rfl; have d17 := HZ.out.c 17 _ rfl; have d18 := HZ.out.c 18 _ rfl; have d19 := HZ.out.c 19 _ rfl; have d20 := HZ.out.c 20 _ rfl; have d21 := HZ.out.c 21 _ rfl; have d22 := HZ.out.c 22 _ rfl; clear hZ hQ hN)
  go_wp2_with (first
    | (go_at_call 38; clear T0; (refine (wcount_any p 2 _ _ (by decide) HW.out (by (try simp only [List.length_append, len_data]); have := HB.out; omega)).mono ?_; rintro e9 y9 ⟨rfl, hw9, hq9⟩; replace HW := hid hw9; replace HZ := hid (hq9.cq HZ.out HNE.out); replace HQ := hid (HQ.out.trans hq9); have d0 := HZ.out.c 0 _ rfl; have d1 := HZ.out.c 1 _ rfl; have d2 := HZ.out.c 2 _ rfl; have d3 := HZ.out.c 3 _ rfl; have d4 := HZ.out.c 4 _ rfl; have d5 := HZ.out.c 5 _ rfl; have d6 := HZ.out.c 6 _ rfl; have d7 := HZ.out.c 7 _ rfl; have d8 := HZ.out.c 8 _ rfl; have d9 := HZ.out.c 9 _ rfl; have d10 := HZ.out.c 10 _ rfl; have d11 := HZ.out.c 11 _ rfl; have d12 := HZ.out.c 12 _ rfl; have d13 := HZ.out.c 13 _ rfl; have d14 := HZ.out.c 14 _ rfl; have d15 := HZ.out.c 15 _ rfl; have d16 := HZ.out.c 16 _ rfl; have d17 := HZ.out.c 17 _ rfl; have d18 := HZ.out.c 18 _ rfl; have d19 := HZ.out.c 19 _ rfl; have d20 := HZ.out.c 20 _ rfl; have d21 := HZ.out.c 21 _ rfl; have d22 := HZ.out.c 22 _ rfl; clear hw9 hq9))
    | (go_at_call 55; (refine (wtext_any p sh _ _ hsh HW.out (by (try simp only [List.length_append, len_data]); have := HB.out; omega)).mono ?_; rintro e9 y9 ⟨rfl, hw9, hq9⟩; replace HW := hid hw9; replace HZ := hid (hq9.cq HZ.out HNE.out); replace HQ := hid (HQ.out.trans hq9); have d0 := HZ.out.c 0 _ rfl; have d1 := HZ.out.c 1 _ rfl; have d2 := HZ.out.c 2 _ rfl; have d3 := HZ.out.c 3 _ rfl; have d4 := HZ.out.c 4 _ rfl; have d5 := HZ.out.c 5 _ rfl; have d6 := HZ.out.c 6 _ rfl; have d7 := HZ.out.c 7 _ rfl; have d8 := HZ.out.c 8 _ rfl; have d9 := HZ.out.c 9 _ rfl; have d10 := HZ.out.c 10 _ rfl; have d11 := HZ.out.c 11 _ rfl; have d12 := HZ.out.c 12 _ rfl; have d13 := HZ.out.c 13 _ rfl; have d14 := HZ.out.c 14 _ rfl; have d15 := HZ.out.c 15 _ rfl; have d16 := HZ.out.c 16 _ rfl; have d17 := HZ.out.c 17 _ rfl; have d18 := HZ.out.c 18 _ rfl; have d19 := HZ.out.c 19 _ rfl; have d20 := HZ.out.c 20 _ rfl; have d21 := HZ.out.c 21 _ rfl; have d22 := HZ.out.c 22 _ rfl; clear hw9 hq9))
    | (go_at_call 38; (refine (wcount_any p lk _ _ hlk HW.out (by (try simp only [List.length_append, len_data]); have := HB.out; omega)).mono ?_; rintro e9 y9 ⟨rfl, hw9, hq9⟩; replace HW := hid hw9; replace HZ := hid (hq9.cq HZ.out HNE.out); replace HQ := hid (HQ.out.trans hq9); have d0 := HZ.out.c 0 _ rfl; have d1 := HZ.out.c 1 _ rfl; have d2 := HZ.out.c 2 _ rfl; have d3 := HZ.out.c 3 _ rfl; have d4 := HZ.out.c 4 _ rfl; have d5 := HZ.out.c 5 _ rfl; have d6 := HZ.out.c 6 _ rfl; have d7 := HZ.out.c 7 _ rfl; have d8 := HZ.out.c 8 _ rfl; have d9 := HZ.out.c 9 _ rfl; have d10 := HZ.out.c 10 _ rfl; have d11 := HZ.out.c 11 _ rfl; have d12 := HZ.out.c 12 _ rfl; have d13 := HZ.out.c 13 _ rfl; have d14 := HZ.out.c 14 _ rfl; have d15 := HZ.out.c 15 _ rfl; have d16 := HZ.out.c 16 _ rfl; have d17 := HZ.out.c 17 _ rfl; have d18 := HZ.out.c 18 _ rfl; have d19 := HZ.out.c 19 _ rfl; have d20 := HZ.out.c 20 _ rfl; have d21 := HZ.out.c 21 _ rfl; have d22 := HZ.out.c 22 _ rfl; clear hw9 hq9))
    | (go_at_call 72; clear T1; (refine (wline_any p la _ _ hla HW.out (by (try simp only [List.length_append, len_data]); have := HB.out; omega)).mono ?_; rintro e9 y9 ⟨rfl, hw9, hq9⟩; replace HW := hid hw9; replace HZ := hid (hq9.cq HZ.out HNE.out); replace HQ := hid (HQ.out.trans hq9); have d0 := HZ.out.c 0 _ rfl; have d1 := HZ.out.c 1 _ rfl; have d2 := HZ.out.c 2 _ rfl; have d3 := HZ.out.c 3 _ rfl; have d4 := HZ.out.c 4 _ rfl; have d5 := HZ.out.c 5 _ rfl; have d6 := HZ.out.c 6 _ rfl; have d7 := HZ.out.c 7 _ rfl; have d8 := HZ.out.c 8 _ rfl; have d9 := HZ.out.c 9 _ rfl; have d10 := HZ.out.c 10 _ rfl; have d11 := HZ.out.c 11 _ rfl; have d12 := HZ.out.c 12 _ rfl; have d13 := HZ.out.c 13 _ rfl; have d14 := HZ.out.c 14 _ rfl; have d15 := HZ.out.c 15 _ rfl; have d16 := HZ.out.c 16 _ rfl; have d17 := HZ.out.c 17 _ rfl; have d18 := HZ.out.c 18 _ rfl; have d19 := HZ.out.c 19 _ rfl; have d20 := HZ.out.c 20 _ rfl; have d21 := HZ.out.c 21 _ rfl; have d22 := HZ.out.c 22 _ rfl; clear hw9 hq9))
    | (go_at_call 72; (refine (wline_any p lt _ _ hlt HW.out (by (try simp only [List.length_append, len_data]); have := HB.out; omega)).mono ?_; rintro e9 y9 ⟨rfl, hw9, hq9⟩; replace HW := hid hw9; replace HZ := hid (hq9.cq HZ.out HNE.out); replace HQ := hid (HQ.out.trans hq9); have d0 := HZ.out.c 0 _ rfl; have d1 := HZ.out.c 1 _ rfl; have d2 := HZ.out.c 2 _ rfl; have d3 := HZ.out.c 3 _ rfl; have d4 := HZ.out.c 4 _ rfl; have d5 := HZ.out.c 5 _ rfl; have d6 := HZ.out.c 6 _ rfl; have d7 := HZ.out.c 7 _ rfl; have d8 := HZ.out.c 8 _ rfl; have d9 := HZ.out.c 9 _ rfl; have d10 := HZ.out.c 10 _ rfl; have d11 := HZ.out.c 11 _ rfl; have d12 := HZ.out.c 12 _ rfl; have d13 := HZ.out.c 13 _ rfl; have d14 := HZ.out.c 14 _ rfl; have d15 := HZ.out.c 15 _ rfl; have d16 := HZ.out.c 16 _ rfl; have d17 := HZ.out.c 17 _ rfl; have d18 := HZ.out.c 18 _ rfl; have d19 := HZ.out.c 19 _ rfl; have d20 := HZ.out.c 20 _ rfl; have d21 := HZ.out.c 21 _ rfl; have d22 := HZ.out.c 22 _ rfl; clear hw9 hq9)))
  go_end0
  refine ⟨rfl, ?_, HQ.out⟩
  have := HW.out
  simpa [List.append_assoc] using this
set_option maxHeartbeats 8000000 in
theorem wop3 (p : Nat) (L : List UInt8) (sh : ByteArray) (lk la lt : Nat) (x2 x3 x4 x5 x6 x7 x8 x9 x10 x11 x12 x13 x14 x15 x16 x20 x21 x22 : Value) (w : World) (h : Wr p L w) (hL : L.length ≤ 100000000) (hsh : sh.size ≤ 1000000) (hlk : lk < 9223372036854775808) (hla : la < 9223372036854775808) (hlt : lt < 9223372036854775808) :
    Calls Tryz.prog 39 #[.pointer (some ⟨p, 0, none⟩), .agg #[.int .i64 3, .string sh, x2, x3, x4, x5, x6, x7, x8, x9, x10, x11, x12, x13, x14, x15, x16, .int .i64 lk, .int .i64 la, .int .i64 lt, x20, x21, x22]] w fun e W' => e = .returned (.tuple #[]) ∧ Wr p (L ++ (vn 3 ++ (vn sh.size ++ (sh.data.toList ++ (vn lk ++ (vn la ++ vn lt)))))) W' ∧ Ww p w W' := by
  have HB := hid (And.intro hL (And.intro hsh (And.intro (vn_len 3) (And.intro (vn_len sh.size) (And.intro (vn_len lk) (And.intro (vn_len la) (vn_len lt)))))))
  have T1 : Hid True := hid trivial
  have HW := hid h
  have T0 : Hid True := hid trivial
  clear h
  go_enter Tryz.func39, Tryz.ntmps39
  go_upto_region 1 with (with_reducible refine wpl_boxn _ (by with_unfolding_all rfl) (by with_unfolding_all rfl) [.int .i64 3, .string sh, x2, x3, x4, x5, x6, x7, x8, x9, x10, x11, x12, x13, x14, x15, x16, .int .i64 lk, .int .i64 la, .int .i64 lt, x20, x21, x22] (by with_unfolding_all rfl) ?_; intro w1 b0 hZ hQ hN; have HZ := hid hZ; have HNE : Hid (b0 ≠ p) := hid (by have := HW.out.lt; omega); have HQ : Hid (Ww p w w1) := hid (Ww.of hQ (Nat.le_of_lt HW.out.lt)); replace HW := hid (HW.out.on hQ); have d0 := HZ.out.c 0 _ rfl; have d1 := HZ.out.c 1 _ rfl; have d2 := HZ.out.c 2 _ rfl; have d3 := HZ.out.c 3 _ rfl; have d4 := HZ.out.c 4 _ rfl; have d5 := HZ.out.c 5 _ rfl; have d6 := HZ.out.c 6 _ rfl; have d7 := HZ.out.c 7 _ rfl; have d8 := HZ.out.c 8 _ rfl; have d9 := HZ.out.c 9 _ rfl; have d10 := HZ.out.c 10 _ rfl; have d11 := HZ.out.c 11 _ rfl; have d12 := HZ.out.c 12 _ rfl; have d13 := HZ.out.c 13 _ rfl; have d14 := HZ.out.c 14 _ rfl; have d15 := HZ.out.c 15 _ rfl; have d16 := HZ.out.c 16 _ rfl; have d17 := HZ.out.c 17 _ rfl; have d18 := HZ.out.c 18 _ rfl; have d19 := HZ.out.c 19 _ rfl; have d20 := HZ.out.c 20 _ rfl; have d21 := HZ.out.c 21 _ rfl; have d22 := HZ.out.c 22 _ rfl; clear hZ hQ hN)
  go_wp2_with (first
    | (go_at_call 38; clear T0; (refine (wcount_any p 3 _ _ (by decide) HW.out (by (try simp only [List.length_append, len_data]); have := HB.out; omega)).mono ?_; rintro e9 y9 ⟨rfl, hw9, hq9⟩; replace HW := hid hw9; replace HZ := hid (hq9.cq HZ.out HNE.out); replace HQ := hid (HQ.out.trans hq9); have d0 := HZ.out.c 0 _ rfl; have d1 := HZ.out.c 1 _ rfl; have d2 := HZ.out.c 2 _ rfl; have d3 := HZ.out.c 3 _ rfl; have d4 := HZ.out.c 4 _ rfl; have d5 := HZ.out.c 5 _ rfl; have d6 := HZ.out.c 6 _ rfl; have d7 := HZ.out.c 7 _ rfl; have d8 := HZ.out.c 8 _ rfl; have d9 := HZ.out.c 9 _ rfl; have d10 := HZ.out.c 10 _ rfl; have d11 := HZ.out.c 11 _ rfl; have d12 := HZ.out.c 12 _ rfl; have d13 := HZ.out.c 13 _ rfl; have d14 := HZ.out.c 14 _ rfl; have d15 := HZ.out.c 15 _ rfl; have d16 := HZ.out.c 16 _ rfl; have d17 := HZ.out.c 17 _ rfl; have d18 := HZ.out.c 18 _ rfl; have d19 := HZ.out.c 19 _ rfl; have d20 := HZ.out.c 20 _ rfl; have d21 := HZ.out.c 21 _ rfl; have d22 := HZ.out.c 22 _ rfl; clear hw9 hq9))
    | (go_at_call 55; (refine (wtext_any p sh _ _ hsh HW.out (by (try simp only [List.length_append, len_data]); have := HB.out; omega)).mono ?_; rintro e9 y9 ⟨rfl, hw9, hq9⟩; replace HW := hid hw9; replace HZ := hid (hq9.cq HZ.out HNE.out); replace HQ := hid (HQ.out.trans hq9); have d0 := HZ.out.c 0 _ rfl; have d1 := HZ.out.c 1 _ rfl; have d2 := HZ.out.c 2 _ rfl; have d3 := HZ.out.c 3 _ rfl; have d4 := HZ.out.c 4 _ rfl; have d5 := HZ.out.c 5 _ rfl; have d6 := HZ.out.c 6 _ rfl; have d7 := HZ.out.c 7 _ rfl; have d8 := HZ.out.c 8 _ rfl; have d9 := HZ.out.c 9 _ rfl; have d10 := HZ.out.c 10 _ rfl; have d11 := HZ.out.c 11 _ rfl; have d12 := HZ.out.c 12 _ rfl; have d13 := HZ.out.c 13 _ rfl; have d14 := HZ.out.c 14 _ rfl; have d15 := HZ.out.c 15 _ rfl; have d16 := HZ.out.c 16 _ rfl; have d17 := HZ.out.c 17 _ rfl; have d18 := HZ.out.c 18 _ rfl; have d19 := HZ.out.c 19 _ rfl; have d20 := HZ.out.c 20 _ rfl; have d21 := HZ.out.c 21 _ rfl; have d22 := HZ.out.c 22 _ rfl; clear hw9 hq9))
    | (go_at_call 38; (refine (wcount_any p lk _ _ hlk HW.out (by (try simp only [List.length_append, len_data]); have := HB.out; omega)).mono ?_; rintro e9 y9 ⟨rfl, hw9, hq9⟩; replace HW := hid hw9; replace HZ := hid (hq9.cq HZ.out HNE.out); replace HQ := hid (HQ.out.trans hq9); have d0 := HZ.out.c 0 _ rfl; have d1 := HZ.out.c 1 _ rfl; have d2 := HZ.out.c 2 _ rfl; have d3 := HZ.out.c 3 _ rfl; have d4 := HZ.out.c 4 _ rfl; have d5 := HZ.out.c 5 _ rfl; have d6 := HZ.out.c 6 _ rfl; have d7 := HZ.out.c 7 _ rfl; have d8 := HZ.out.c 8 _ rfl; have d9 := HZ.out.c 9 _ rfl; have d10 := HZ.out.c 10 _ rfl; have d11 := HZ.out.c 11 _ rfl; have d12 := HZ.out.c 12 _ rfl; have d13 := HZ.out.c 13 _ rfl; have d14 := HZ.out.c 14 _ rfl; have d15 := HZ.out.c 15 _ rfl; have d16 := HZ.out.c 16 _ rfl; have d17 := HZ.out.c 17 _ rfl; have d18 := HZ.out.c 18 _ rfl; have d19 := HZ.out.c 19 _ rfl; have d20 := HZ.out.c 20 _ rfl; have d21 := HZ.out.c 21 _ rfl; have d22 := HZ.out.c 22 _ rfl; clear hw9 hq9))
    | (go_at_call 72; clear T1; (refine (wline_any p la _ _ hla HW.out (by (try simp only [List.length_append, len_data]); have := HB.out; omega)).mono ?_; rintro e9 y9 ⟨rfl, hw9, hq9⟩; replace HW := hid hw9; replace HZ := hid (hq9.cq HZ.out HNE.out); replace HQ := hid (HQ.out.trans hq9); have d0 := HZ.out.c 0 _ rfl; have d1 := HZ.out.c 1 _ rfl; have d2 := HZ.out.c 2 _ rfl; have d3 := HZ.out.c 3 _ rfl; have d4 := HZ.out.c 4 _ rfl; have d5 := HZ.out.c 5 _ rfl; have d6 := HZ.out.c 6 _ rfl; have d7 := HZ.out.c 7 _ rfl; have d8 := HZ.out.c 8 _ rfl; have d9 := HZ.out.c 9 _ rfl; have d10 := HZ.out.c 10 _ rfl; have d11 := HZ.out.c 11 _ rfl; have d12 := HZ.out.c 12 _ rfl; have d13 := HZ.out.c 13 _ rfl; have d14 := HZ.out.c 14 _ rfl; have d15 := HZ.out.c 15 _ rfl; have d16 := HZ.out.c 16 _ rfl; have d17 := HZ.out.c 17 _ rfl; have d18 := HZ.out.c 18 _ rfl; have d19 := HZ.out.c 19 _ rfl; have d20 := HZ.out.c 20 _ rfl; have d21 := HZ.out.c 21 _ rfl; have d22 := HZ.out.c 22 _ rfl; clear hw9 hq9))
    | (go_at_call 72; (refine (wline_any p lt _ _ hlt HW.out (by (try simp only [List.length_append, len_data]); have := HB.out; omega)).mono ?_; rintro e9 y9 ⟨rfl, hw9, hq9⟩; replace HW := hid hw9; replace HZ := hid (hq9.cq HZ.out HNE.out); replace HQ := hid (HQ.out.trans hq9); have d0 := HZ.out.c 0 _ rfl; have d1 := HZ.out.c 1 _ rfl; have d2 := HZ.out.c 2 _ rfl; have d3 := HZ.out.c 3 _ rfl; have d4 := HZ.out.c 4 _ rfl; have d5 := HZ.out.c 5 _ rfl; have d6 := HZ.out.c 6 _ rfl; have d7 := HZ.out.c 7 _ rfl; have d8 := HZ.out.c 8 _ rfl; have d9 := HZ.out.c 9 _ rfl; have d10 := HZ.out.c 10 _ rfl; have d11 := HZ.out.c 11 _ rfl; have d12 := HZ.out.c 12 _ rfl; have d13 := HZ.out.c 13 _ rfl; have d14 := HZ.out.c 14 _ rfl; have d15 := HZ.out.c 15 _ rfl; have d16 := HZ.out.c 16 _ rfl; have d17 := HZ.out.c 17 _ rfl; have d18 := HZ.out.c 18 _ rfl; have d19 := HZ.out.c 19 _ rfl; have d20 := HZ.out.c 20 _ rfl; have d21 := HZ.out.c 21 _ rfl; have d22 := HZ.out.c 22 _ rfl; clear hw9 hq9)))
  go_end0
  refine ⟨rfl, ?_, HQ.out⟩
  have := HW.out
  simpa [List.append_assoc] using this
set_option maxHeartbeats 8000000 in
theorem wop4 (p : Nat) (L : List UInt8) (sh : ByteArray) (ra : Option Addr) (rl rc fm : Nat) (M : List R.Rg.Rc) (w0 : World) (x2 x3 x4 x5 x6 x7 x8 x9 x10 x11 x12 x13 x14 x15 x16 x17 x18 x19 x22 : Value) (w : World) (h : Wr p L w) (hL : L.length ≤ 100000000) (hsh : sh.size ≤ 1000000) (hfm : fm < 9223372036854775808) (hp : w0.heap.size ≤ p) (hq0 : Q w0 w) (hM : R.Sl R.rc 4 w0 (.slice ra rl rc) M) (hf : ∀ x ∈ M, wfRc x) (hml : M.length ≤ 1000000) (hmb : (M.flatMap encRc).length ≤ 40000000) :
    Calls Tryz.prog 39 #[.pointer (some ⟨p, 0, none⟩), .agg #[.int .i64 4, .string sh, x2, x3, x4, x5, x6, x7, x8, x9, x10, x11, x12, x13, x14, x15, x16, x17, x18, x19, .slice ra rl rc, .int .i64 fm, x22]] w fun e W' => e = .returned (.tuple #[]) ∧ Wr p (L ++ (vn 4 ++ (vn sh.size ++ (sh.data.toList ++ ((vn M.length ++ M.flatMap encRc) ++ vn fm))))) W' ∧ Ww p w W' := by
  have HB := hid (And.intro hL (And.intro hsh (And.intro (vn_len 4) (vn_len sh.size))))
  have HB2 := hid (And.intro HB.out (And.intro hmb (vn_len M.length)))
  have HP := hid hp
  have HQ0 := hid hq0
  have HM := hid hM
  have HF := hid hf
  have HL := hid hml
  clear hM hf hq0 hml hmb
  have HW := hid h
  have T0 : Hid True := hid trivial
  clear h
  go_enter Tryz.func39, Tryz.ntmps39
  go_upto_region 1 with (with_reducible refine wpl_boxn _ (by with_unfolding_all rfl) (by with_unfolding_all rfl) [.int .i64 4, .string sh, x2, x3, x4, x5, x6, x7, x8, x9, x10, x11, x12, x13, x14, x15, x16, x17, x18, x19, .slice ra rl rc, .int .i64 fm, x22] (by with_unfolding_all rfl) ?_; intro w1 b0 hZ hQ hN; have HZ := hid hZ; have HNE : Hid (b0 ≠ p) := hid (by have := HW.out.lt; omega); have HQ : Hid (Ww p w w1) := hid (Ww.of hQ (Nat.le_of_lt HW.out.lt)); replace HW := hid (HW.out.on hQ); have d0 := HZ.out.c 0 _ rfl; have d1 := HZ.out.c 1 _ rfl; have d2 := HZ.out.c 2 _ rfl; have d3 := HZ.out.c 3 _ rfl; have d4 := HZ.out.c 4 _ rfl; have d5 := HZ.out.c 5 _ rfl; have d6 := HZ.out.c 6 _ rfl; have d7 := HZ.out.c 7 _ rfl; have d8 := HZ.out.c 8 _ rfl; have d9 := HZ.out.c 9 _ rfl; have d10 := HZ.out.c 10 _ rfl; have d11 := HZ.out.c 11 _ rfl; have d12 := HZ.out.c 12 _ rfl; have d13 := HZ.out.c 13 _ rfl; have d14 := HZ.out.c 14 _ rfl; have d15 := HZ.out.c 15 _ rfl; have d16 := HZ.out.c 16 _ rfl; have d17 := HZ.out.c 17 _ rfl; have d18 := HZ.out.c 18 _ rfl; have d19 := HZ.out.c 19 _ rfl; have d20 := HZ.out.c 20 _ rfl; have d21 := HZ.out.c 21 _ rfl; have d22 := HZ.out.c 22 _ rfl; clear hZ hQ hN)
  go_wp2_with (first
    | (go_at_call 38; clear T0; (refine (wcount_any p 4 _ _ (by decide) HW.out (by (try simp only [List.length_append, len_data]); have := HB.out; omega)).mono ?_; rintro e9 y9 ⟨rfl, hw9, hq9⟩; replace HW := hid hw9; replace HZ := hid (hq9.cq HZ.out HNE.out); replace HQ := hid (HQ.out.trans hq9); have d0 := HZ.out.c 0 _ rfl; have d1 := HZ.out.c 1 _ rfl; have d2 := HZ.out.c 2 _ rfl; have d3 := HZ.out.c 3 _ rfl; have d4 := HZ.out.c 4 _ rfl; have d5 := HZ.out.c 5 _ rfl; have d6 := HZ.out.c 6 _ rfl; have d7 := HZ.out.c 7 _ rfl; have d8 := HZ.out.c 8 _ rfl; have d9 := HZ.out.c 9 _ rfl; have d10 := HZ.out.c 10 _ rfl; have d11 := HZ.out.c 11 _ rfl; have d12 := HZ.out.c 12 _ rfl; have d13 := HZ.out.c 13 _ rfl; have d14 := HZ.out.c 14 _ rfl; have d15 := HZ.out.c 15 _ rfl; have d16 := HZ.out.c 16 _ rfl; have d17 := HZ.out.c 17 _ rfl; have d18 := HZ.out.c 18 _ rfl; have d19 := HZ.out.c 19 _ rfl; have d20 := HZ.out.c 20 _ rfl; have d21 := HZ.out.c 21 _ rfl; have d22 := HZ.out.c 22 _ rfl; clear hw9 hq9))
    | (go_at_call 55; (refine (wtext_any p sh _ _ hsh HW.out (by (try simp only [List.length_append, len_data]); have := HB.out; omega)).mono ?_; rintro e9 y9 ⟨rfl, hw9, hq9⟩; replace HW := hid hw9; replace HZ := hid (hq9.cq HZ.out HNE.out); replace HQ := hid (HQ.out.trans hq9); have d0 := HZ.out.c 0 _ rfl; have d1 := HZ.out.c 1 _ rfl; have d2 := HZ.out.c 2 _ rfl; have d3 := HZ.out.c 3 _ rfl; have d4 := HZ.out.c 4 _ rfl; have d5 := HZ.out.c 5 _ rfl; have d6 := HZ.out.c 6 _ rfl; have d7 := HZ.out.c 7 _ rfl; have d8 := HZ.out.c 8 _ rfl; have d9 := HZ.out.c 9 _ rfl; have d10 := HZ.out.c 10 _ rfl; have d11 := HZ.out.c 11 _ rfl; have d12 := HZ.out.c 12 _ rfl; have d13 := HZ.out.c 13 _ rfl; have d14 := HZ.out.c 14 _ rfl; have d15 := HZ.out.c 15 _ rfl; have d16 := HZ.out.c 16 _ rfl; have d17 := HZ.out.c 17 _ rfl; have d18 := HZ.out.c 18 _ rfl; have d19 := HZ.out.c 19 _ rfl; have d20 := HZ.out.c 20 _ rfl; have d21 := HZ.out.c 21 _ rfl; have d22 := HZ.out.c 22 _ rfl; clear hw9 hq9))
    | (go_at_call 73; (refine (wrects_any w0 p _ M _ _ HP.out HM.out HF.out HL.out (HQ.out.q HQ0.out HP.out) HW.out (by (try simp only [List.length_append, len_data]); have := HB.out; omega)).mono ?_; rintro e9 y9 ⟨rfl, hw9, hq9⟩; replace HW := hid hw9; replace HZ := hid (hq9.cq HZ.out HNE.out); replace HQ := hid (HQ.out.trans hq9); have d0 := HZ.out.c 0 _ rfl; have d1 := HZ.out.c 1 _ rfl; have d2 := HZ.out.c 2 _ rfl; have d3 := HZ.out.c 3 _ rfl; have d4 := HZ.out.c 4 _ rfl; have d5 := HZ.out.c 5 _ rfl; have d6 := HZ.out.c 6 _ rfl; have d7 := HZ.out.c 7 _ rfl; have d8 := HZ.out.c 8 _ rfl; have d9 := HZ.out.c 9 _ rfl; have d10 := HZ.out.c 10 _ rfl; have d11 := HZ.out.c 11 _ rfl; have d12 := HZ.out.c 12 _ rfl; have d13 := HZ.out.c 13 _ rfl; have d14 := HZ.out.c 14 _ rfl; have d15 := HZ.out.c 15 _ rfl; have d16 := HZ.out.c 16 _ rfl; have d17 := HZ.out.c 17 _ rfl; have d18 := HZ.out.c 18 _ rfl; have d19 := HZ.out.c 19 _ rfl; have d20 := HZ.out.c 20 _ rfl; have d21 := HZ.out.c 21 _ rfl; have d22 := HZ.out.c 22 _ rfl; clear hw9 hq9))
    | (go_at_call 38; (refine (wcount_any p fm _ _ hfm HW.out (by (try simp only [List.length_append, len_data]); have := HB2.out; omega)).mono ?_; rintro e9 y9 ⟨rfl, hw9, hq9⟩; replace HW := hid hw9; replace HZ := hid (hq9.cq HZ.out HNE.out); replace HQ := hid (HQ.out.trans hq9); have d0 := HZ.out.c 0 _ rfl; have d1 := HZ.out.c 1 _ rfl; have d2 := HZ.out.c 2 _ rfl; have d3 := HZ.out.c 3 _ rfl; have d4 := HZ.out.c 4 _ rfl; have d5 := HZ.out.c 5 _ rfl; have d6 := HZ.out.c 6 _ rfl; have d7 := HZ.out.c 7 _ rfl; have d8 := HZ.out.c 8 _ rfl; have d9 := HZ.out.c 9 _ rfl; have d10 := HZ.out.c 10 _ rfl; have d11 := HZ.out.c 11 _ rfl; have d12 := HZ.out.c 12 _ rfl; have d13 := HZ.out.c 13 _ rfl; have d14 := HZ.out.c 14 _ rfl; have d15 := HZ.out.c 15 _ rfl; have d16 := HZ.out.c 16 _ rfl; have d17 := HZ.out.c 17 _ rfl; have d18 := HZ.out.c 18 _ rfl; have d19 := HZ.out.c 19 _ rfl; have d20 := HZ.out.c 20 _ rfl; have d21 := HZ.out.c 21 _ rfl; have d22 := HZ.out.c 22 _ rfl; clear hw9 hq9)))
  go_end0
  refine ⟨rfl, ?_, HQ.out⟩
  have := HW.out
  simpa [List.append_assoc] using this
set_option maxHeartbeats 8000000 in
theorem wop6 (p : Nat) (L : List UInt8) (sh : ByteArray) (nm : ByteArray) (x2 x3 x4 x5 x6 x7 x8 x9 x10 x11 x12 x13 x14 x15 x16 x17 x18 x19 x20 x21 : Value) (w : World) (h : Wr p L w) (hL : L.length ≤ 100000000) (hsh : sh.size ≤ 1000000) (hnm : nm.size ≤ 1000000) :
    Calls Tryz.prog 39 #[.pointer (some ⟨p, 0, none⟩), .agg #[.int .i64 6, .string sh, x2, x3, x4, x5, x6, x7, x8, x9, x10, x11, x12, x13, x14, x15, x16, x17, x18, x19, x20, x21, .string nm]] w fun e W' => e = .returned (.tuple #[]) ∧ Wr p (L ++ (vn 6 ++ (vn sh.size ++ (sh.data.toList ++ (vn nm.size ++ nm.data.toList))))) W' ∧ Ww p w W' := by
  have HB := hid (And.intro hL (And.intro hsh (And.intro hnm (And.intro (vn_len 6) (And.intro (vn_len sh.size) (vn_len nm.size))))))
  have HW := hid h
  have T0 : Hid True := hid trivial
  clear h
  go_enter Tryz.func39, Tryz.ntmps39
  go_upto_region 1 with (with_reducible refine wpl_boxn _ (by with_unfolding_all rfl) (by with_unfolding_all rfl) [.int .i64 6, .string sh, x2, x3, x4, x5, x6, x7, x8, x9, x10, x11, x12, x13, x14, x15, x16, x17, x18, x19, x20, x21, .string nm] (by with_unfolding_all rfl) ?_; intro w1 b0 hZ hQ hN; have HZ := hid hZ; have HNE : Hid (b0 ≠ p) := hid (by have := HW.out.lt; omega); have HQ : Hid (Ww p w w1) := hid (Ww.of hQ (Nat.le_of_lt HW.out.lt)); replace HW := hid (HW.out.on hQ); have d0 := HZ.out.c 0 _ rfl; have d1 := HZ.out.c 1 _ rfl; have d2 := HZ.out.c 2 _ rfl; have d3 := HZ.out.c 3 _ rfl; have d4 := HZ.out.c 4 _ rfl; have d5 := HZ.out.c 5 _ rfl; have d6 := HZ.out.c 6 _ rfl; have d7 := HZ.out.c 7 _ rfl; have d8 := HZ.out.c 8 _ rfl; have d9 := HZ.out.c 9 _ rfl; have d10 := HZ.out.c 10 _ rfl; have d11 := HZ.out.c 11 _ rfl; have d12 := HZ.out.c 12 _ rfl; have d13 := HZ.out.c 13 _ rfl; have d14 := HZ.out.c 14 _ rfl; have d15 := HZ.out.c 15 _ rfl; have d16 := HZ.out.c 16 _ rfl; have d17 := HZ.out.c 17 _ rfl; have d18 := HZ.out.c 18 _ rfl; have d19 := HZ.out.c 19 _ rfl; have d20 := HZ.out.c 20 _ rfl; have d21 := HZ.out.c 21 _ rfl; have d22 := HZ.out.c 22 _ rfl; clear hZ hQ hN)
  go_wp2_with (first
    | (go_at_call 38; (refine (wcount_any p 6 _ _ (by decide) HW.out (by (try simp only [List.length_append, len_data]); have := HB.out; omega)).mono ?_; rintro e9 y9 ⟨rfl, hw9, hq9⟩; replace HW := hid hw9; replace HZ := hid (hq9.cq HZ.out HNE.out); replace HQ := hid (HQ.out.trans hq9); have d0 := HZ.out.c 0 _ rfl; have d1 := HZ.out.c 1 _ rfl; have d2 := HZ.out.c 2 _ rfl; have d3 := HZ.out.c 3 _ rfl; have d4 := HZ.out.c 4 _ rfl; have d5 := HZ.out.c 5 _ rfl; have d6 := HZ.out.c 6 _ rfl; have d7 := HZ.out.c 7 _ rfl; have d8 := HZ.out.c 8 _ rfl; have d9 := HZ.out.c 9 _ rfl; have d10 := HZ.out.c 10 _ rfl; have d11 := HZ.out.c 11 _ rfl; have d12 := HZ.out.c 12 _ rfl; have d13 := HZ.out.c 13 _ rfl; have d14 := HZ.out.c 14 _ rfl; have d15 := HZ.out.c 15 _ rfl; have d16 := HZ.out.c 16 _ rfl; have d17 := HZ.out.c 17 _ rfl; have d18 := HZ.out.c 18 _ rfl; have d19 := HZ.out.c 19 _ rfl; have d20 := HZ.out.c 20 _ rfl; have d21 := HZ.out.c 21 _ rfl; have d22 := HZ.out.c 22 _ rfl; clear hw9 hq9))
    | (go_at_call 55; clear T0; (refine (wtext_any p sh _ _ hsh HW.out (by (try simp only [List.length_append, len_data]); have := HB.out; omega)).mono ?_; rintro e9 y9 ⟨rfl, hw9, hq9⟩; replace HW := hid hw9; replace HZ := hid (hq9.cq HZ.out HNE.out); replace HQ := hid (HQ.out.trans hq9); have d0 := HZ.out.c 0 _ rfl; have d1 := HZ.out.c 1 _ rfl; have d2 := HZ.out.c 2 _ rfl; have d3 := HZ.out.c 3 _ rfl; have d4 := HZ.out.c 4 _ rfl; have d5 := HZ.out.c 5 _ rfl; have d6 := HZ.out.c 6 _ rfl; have d7 := HZ.out.c 7 _ rfl; have d8 := HZ.out.c 8 _ rfl; have d9 := HZ.out.c 9 _ rfl; have d10 := HZ.out.c 10 _ rfl; have d11 := HZ.out.c 11 _ rfl; have d12 := HZ.out.c 12 _ rfl; have d13 := HZ.out.c 13 _ rfl; have d14 := HZ.out.c 14 _ rfl; have d15 := HZ.out.c 15 _ rfl; have d16 := HZ.out.c 16 _ rfl; have d17 := HZ.out.c 17 _ rfl; have d18 := HZ.out.c 18 _ rfl; have d19 := HZ.out.c 19 _ rfl; have d20 := HZ.out.c 20 _ rfl; have d21 := HZ.out.c 21 _ rfl; have d22 := HZ.out.c 22 _ rfl; clear hw9 hq9))
    | (go_at_call 55; (refine (wtext_any p nm _ _ hnm HW.out (by (try simp only [List.length_append, len_data]); have := HB.out; omega)).mono ?_; rintro e9 y9 ⟨rfl, hw9, hq9⟩; replace HW := hid hw9; replace HZ := hid (hq9.cq HZ.out HNE.out); replace HQ := hid (HQ.out.trans hq9); have d0 := HZ.out.c 0 _ rfl; have d1 := HZ.out.c 1 _ rfl; have d2 := HZ.out.c 2 _ rfl; have d3 := HZ.out.c 3 _ rfl; have d4 := HZ.out.c 4 _ rfl; have d5 := HZ.out.c 5 _ rfl; have d6 := HZ.out.c 6 _ rfl; have d7 := HZ.out.c 7 _ rfl; have d8 := HZ.out.c 8 _ rfl; have d9 := HZ.out.c 9 _ rfl; have d10 := HZ.out.c 10 _ rfl; have d11 := HZ.out.c 11 _ rfl; have d12 := HZ.out.c 12 _ rfl; have d13 := HZ.out.c 13 _ rfl; have d14 := HZ.out.c 14 _ rfl; have d15 := HZ.out.c 15 _ rfl; have d16 := HZ.out.c 16 _ rfl; have d17 := HZ.out.c 17 _ rfl; have d18 := HZ.out.c 18 _ rfl; have d19 := HZ.out.c 19 _ rfl; have d20 := HZ.out.c 20 _ rfl; have d21 := HZ.out.c 21 _ rfl; have d22 := HZ.out.c 22 _ rfl; clear hw9 hq9)))
  go_end0
  refine ⟨rfl, ?_, HQ.out⟩
  have := HW.out
  simpa [List.append_assoc] using this
set_option maxHeartbeats 8000000 in
theorem wop7 (p : Nat) (L : List UInt8) (sh : ByteArray)  (x2 x3 x4 x5 x6 x7 x8 x9 x10 x11 x12 x13 x14 x15 x16 x17 x18 x19 x20 x21 x22 : Value) (w : World) (h : Wr p L w) (hL : L.length ≤ 100000000) (hsh : sh.size ≤ 1000000) :
    Calls Tryz.prog 39 #[.pointer (some ⟨p, 0, none⟩), .agg #[.int .i64 7, .string sh, x2, x3, x4, x5, x6, x7, x8, x9, x10, x11, x12, x13, x14, x15, x16, x17, x18, x19, x20, x21, x22]] w fun e W' => e = .returned (.tuple #[]) ∧ Wr p (L ++ (vn 7 ++ (vn sh.size ++ sh.data.toList))) W' ∧ Ww p w W' := by
  have HB := hid (And.intro hL (And.intro hsh (And.intro (vn_len 7) (vn_len sh.size))))
  have HW := hid h
  have T0 : Hid True := hid trivial
  clear h
  go_enter Tryz.func39, Tryz.ntmps39
  go_upto_region 1 with (with_reducible refine wpl_boxn _ (by with_unfolding_all rfl) (by with_unfolding_all rfl) [.int .i64 7, .string sh, x2, x3, x4, x5, x6, x7, x8, x9, x10, x11, x12, x13, x14, x15, x16, x17, x18, x19, x20, x21, x22] (by with_unfolding_all rfl) ?_; intro w1 b0 hZ hQ hN; have HZ := hid hZ; have HNE : Hid (b0 ≠ p) := hid (by have := HW.out.lt; omega); have HQ : Hid (Ww p w w1) := hid (Ww.of hQ (Nat.le_of_lt HW.out.lt)); replace HW := hid (HW.out.on hQ); have d0 := HZ.out.c 0 _ rfl; have d1 := HZ.out.c 1 _ rfl; have d2 := HZ.out.c 2 _ rfl; have d3 := HZ.out.c 3 _ rfl; have d4 := HZ.out.c 4 _ rfl; have d5 := HZ.out.c 5 _ rfl; have d6 := HZ.out.c 6 _ rfl; have d7 := HZ.out.c 7 _ rfl; have d8 := HZ.out.c 8 _ rfl; have d9 := HZ.out.c 9 _ rfl; have d10 := HZ.out.c 10 _ rfl; have d11 := HZ.out.c 11 _ rfl; have d12 := HZ.out.c 12 _ rfl; have d13 := HZ.out.c 13 _ rfl; have d14 := HZ.out.c 14 _ rfl; have d15 := HZ.out.c 15 _ rfl; have d16 := HZ.out.c 16 _ rfl; have d17 := HZ.out.c 17 _ rfl; have d18 := HZ.out.c 18 _ rfl; have d19 := HZ.out.c 19 _ rfl; have d20 := HZ.out.c 20 _ rfl; have d21 := HZ.out.c 21 _ rfl; have d22 := HZ.out.c 22 _ rfl; clear hZ hQ hN)
  go_wp2_with (first
    | (go_at_call 38; (refine (wcount_any p 7 _ _ (by decide) HW.out (by (try simp only [List.length_append, len_data]); have := HB.out; omega)).mono ?_; rintro e9 y9 ⟨rfl, hw9, hq9⟩; replace HW := hid hw9; replace HZ := hid (hq9.cq HZ.out HNE.out); replace HQ := hid (HQ.out.trans hq9); have d0 := HZ.out.c 0 _ rfl; have d1 := HZ.out.c 1 _ rfl; have d2 := HZ.out.c 2 _ rfl; have d3 := HZ.out.c 3 _ rfl; have d4 := HZ.out.c 4 _ rfl; have d5 := HZ.out.c 5 _ rfl; have d6 := HZ.out.c 6 _ rfl; have d7 := HZ.out.c 7 _ rfl; have d8 := HZ.out.c 8 _ rfl; have d9 := HZ.out.c 9 _ rfl; have d10 := HZ.out.c 10 _ rfl; have d11 := HZ.out.c 11 _ rfl; have d12 := HZ.out.c 12 _ rfl; have d13 := HZ.out.c 13 _ rfl; have d14 := HZ.out.c 14 _ rfl; have d15 := HZ.out.c 15 _ rfl; have d16 := HZ.out.c 16 _ rfl; have d17 := HZ.out.c 17 _ rfl; have d18 := HZ.out.c 18 _ rfl; have d19 := HZ.out.c 19 _ rfl; have d20 := HZ.out.c 20 _ rfl; have d21 := HZ.out.c 21 _ rfl; have d22 := HZ.out.c 22 _ rfl; clear hw9 hq9))
    | (go_at_call 55; (refine (wtext_any p sh _ _ hsh HW.out (by (try simp only [List.length_append, len_data]); have := HB.out; omega)).mono ?_; rintro e9 y9 ⟨rfl, hw9, hq9⟩; replace HW := hid hw9; replace HZ := hid (hq9.cq HZ.out HNE.out); replace HQ := hid (HQ.out.trans hq9); have d0 := HZ.out.c 0 _ rfl; have d1 := HZ.out.c 1 _ rfl; have d2 := HZ.out.c 2 _ rfl; have d3 := HZ.out.c 3 _ rfl; have d4 := HZ.out.c 4 _ rfl; have d5 := HZ.out.c 5 _ rfl; have d6 := HZ.out.c 6 _ rfl; have d7 := HZ.out.c 7 _ rfl; have d8 := HZ.out.c 8 _ rfl; have d9 := HZ.out.c 9 _ rfl; have d10 := HZ.out.c 10 _ rfl; have d11 := HZ.out.c 11 _ rfl; have d12 := HZ.out.c 12 _ rfl; have d13 := HZ.out.c 13 _ rfl; have d14 := HZ.out.c 14 _ rfl; have d15 := HZ.out.c 15 _ rfl; have d16 := HZ.out.c 16 _ rfl; have d17 := HZ.out.c 17 _ rfl; have d18 := HZ.out.c 18 _ rfl; have d19 := HZ.out.c 19 _ rfl; have d20 := HZ.out.c 20 _ rfl; have d21 := HZ.out.c 21 _ rfl; have d22 := HZ.out.c 22 _ rfl; clear hw9 hq9)))
  go_end0
  refine ⟨rfl, ?_, HQ.out⟩
  have := HW.out
  simpa [List.append_assoc] using this
theorem wcell_any (w0 : World) (p : Nat) (f : Bool) (vk n : Int) (t : ByteArray) (b : Bool) (e : Int) (x6 x7 x8 x9 x10 x11 x12 : Value) (X : Ex) (hp : w0.heap.size ≤ p) (h : okC f vk n t.data.toList b e X) (ht : f = true → TreeC w0 p X (.agg #[x6, x7, x8, x9, x10, x11, x12])) :
    CellC w0 p (encC f vk n t.data.toList b e X) (.agg #[.bool f, .int .i64 vk, .int .i64 n, .string t, .bool b, .int .i64 e, x6, x7, x8, x9, x10, x11, x12]) := by
  rcases h with ⟨rfl, rfl, rfl, h4, rfl, rfl, h7⟩ | ⟨rfl, _, ⟨rfl, rfl, _, rfl, rfl⟩ | ⟨rfl, hn, _, rfl, rfl⟩ | ⟨rfl, rfl, h3, rfl, rfl⟩ | ⟨rfl, rfl, _, rfl⟩ | ⟨rfl, rfl, _, rfl, he⟩⟩
  · exact wcell_f w0 p _ _ _ _ _ x6 x7 x8 x9 x10 x11 x12 X hp (ht rfl)
  · exact wcell_0 w0 p _ _ _ _ x6 x7 x8 x9 x10 x11 x12 hp
  · exact wcell_1 w0 p n t _ _ x6 x7 x8 x9 x10 x11 x12 hp hn.1 hn.2
  · rw [len_data] at h3
    have := wcell_2 w0 p 0 t false 0 x6 x7 x8 x9 x10 x11 x12 hp h3
    rw [show encC false 2 0 t.data.toList false 0 X = vn 2 ++ (vn t.size ++ t.data.toList) by simp [encC]]
    exact this
  · exact wcell_3 w0 p 0 t b _ 0 x6 x7 x8 x9 x10 x11 x12 hp rfl
  · obtain ⟨m, rfl⟩ := Int.eq_ofNat_of_zero_le he.1
    exact wcell_4 w0 p 0 t false m x6 x7 x8 x9 x10 x11 x12 hp (by omega)
set_option maxHeartbeats 4000000 in
theorem wop_any (w0 : World) (p : Nat) (x : Rv) (X : Ex) (M : List R.Rg.Rc) (hp : w0.heap.size ≤ p) (ok : okO x X M) (hr : RO w0 x X M) (hb : (encO x X M).length ≤ 100000) : WOp w0 p x (encO x X M) := by
  intro L V hq0 hw hL
  obtain ⟨⟨k1, k7⟩, hsh, hrow, hline, hfmt, hnm⟩ := ok
  obtain ⟨hrt, hrr⟩ := hr
  obtain ⟨k, sh, row, col, f, vk, n9, vt, vb, ve, tk, tm, tt, tb, te, a1, l1, c1, a2, l2, c2, lk, la, lt, ra, rl, rc, fm, nm⟩ := x
  simp only at k1 k7 hsh hrow hline hfmt hnm hrt hrr
  rcases (by omega : k = 1 ∨ k = 2 ∨ k = 3 ∨ k = 4 ∨ k = 5 ∨ k = 6 ∨ k = 7) with rfl | rfl | rfl | rfl | rfl | rfl | rfl
  all_goals
    simp only [Int.reduceEq, if_true, if_false, or_true, true_or, or_false, false_or, or_self] at hrow hline hfmt hnm
    simp only [encO, Int.reduceEq, if_true, if_false, or_true, true_or, or_false, false_or, or_self] at hb ⊢
  · obtain ⟨⟨r1, r2⟩, ⟨r3, r4⟩, hc⟩ := hrow
    obtain ⟨r, rfl⟩ := Int.eq_ofNat_of_zero_le r1
    obtain ⟨c, rfl⟩ := Int.eq_ofNat_of_zero_le r3
    refine wop1 p L sh r c _ _ _ _ _ _ _ _ _ _ _ _ _ _ _ _ _ _ _ (encC f vk n9 vt.data.toList vb ve X) V hw hL hsh (by omega) (by omega) ?_
    intro L' W hw' hq' hl'
    have hcc := wcell_any w0 p f vk n9 vt vb ve (.int .i64 tk) (.int .i64 tm) (.string tt) (.bool tb) (.int .i64 te) (.slice a1 l1 c1) (.slice a2 l2 c2) X hp hc (fun hf => wtree_all w0 p hp X _ hrt (wfT_of X (by
      rcases hc with h | h
      · exact h.2.2.2.2.2.2
      · rw [h.1] at hf; exact absurd hf Bool.false_ne_true)))
    exact hcc L' W (hq'.q hq0 hp) hw' (by simp only [List.length_append] at hb; omega)
  · obtain ⟨⟨r1, r2⟩, ⟨r3, r4⟩, r5, r6⟩ := hline
    obtain ⟨x1, rfl⟩ := Int.eq_ofNat_of_zero_le r1
    obtain ⟨x2, rfl⟩ := Int.eq_ofNat_of_zero_le r3
    obtain ⟨x3, rfl⟩ := Int.eq_ofNat_of_zero_le r5
    exact wop2 p L sh x1 x2 x3 _ _ _ _ _ _ _ _ _ _ _ _ _ _ _ _ _ _ V hw hL hsh (by omega) (by omega) (by omega)
  · obtain ⟨⟨r1, r2⟩, ⟨r3, r4⟩, r5, r6⟩ := hline
    obtain ⟨x1, rfl⟩ := Int.eq_ofNat_of_zero_le r1
    obtain ⟨x2, rfl⟩ := Int.eq_ofNat_of_zero_le r3
    obtain ⟨x3, rfl⟩ := Int.eq_ofNat_of_zero_le r5
    exact wop3 p L sh x1 x2 x3 _ _ _ _ _ _ _ _ _ _ _ _ _ _ _ _ _ _ V hw hL hsh (by omega) (by omega) (by omega)
  · obtain ⟨⟨r1, r2⟩, hf, hl⟩ := hfmt
    obtain ⟨x1, rfl⟩ := Int.eq_ofNat_of_zero_le r1
    exact wop4 p L sh ra rl rc x1 M w0 _ _ _ _ _ _ _ _ _ _ _ _ _ _ _ _ _ _ _ V hw hL hsh (by omega) hp hq0 hrr hf hl (by simp only [List.length_append] at hb; omega)
  · exact wop5 p L sh nm _ _ _ _ _ _ _ _ _ _ _ _ _ _ _ _ _ _ _ _ V hw hL hsh hnm
  · exact wop6 p L sh nm _ _ _ _ _ _ _ _ _ _ _ _ _ _ _ _ _ _ _ _ V hw hL hsh hnm
  · simp only [List.append_nil]
    exact wop7 p L sh _ _ _ _ _ _ _ _ _ _ _ _ _ _ _ _ _ _ _ _ _ V hw hL hsh
theorem ods_of (W : World) (ys : List Rv) (h : ∀ y ∈ ys, ∃ b, OpG W y b) : ∃ (cX : Rv → Ex) (cM : Rv → List R.Rg.Rc) (cm : Rv → Bool), ∀ y ∈ ys, RO W y (cX y) (cM y) ∧ OK1 y (cX y) (cM y) ∧ MR (cM y) (cm y) := by
  have h2 : ∀ y : Rv, ∃ p : Ex × List R.Rg.Rc × Bool, y ∈ ys → RO W y p.1 p.2.1 ∧ OK1 y p.1 p.2.1 ∧ MR p.2.1 p.2.2 := fun y => by
    rcases Classical.em (y ∈ ys) with hy | hy
    · obtain ⟨b, X, M, mr, h1, h2, h3, h4⟩ := h y hy
      exact ⟨(X, M, mr), fun _ => ⟨h1, h2, h3⟩⟩
    · exact ⟨(zeroE, [], false), fun e => absurd e hy⟩
  obtain ⟨c, hc⟩ := Classical.axiomOfChoice h2
  exact ⟨fun y => (c y).1, fun y => (c y).2.1, fun y => (c y).2.2, hc⟩
structure EncL (w : World) (v : Value) (l : List Od) (ok : Bool) : Prop where
  s : Sl Rv.L 23 w v (l.map (·.x))
  r : ∀ o ∈ l, RO w o.x o.X o.M ∧ o.M.length ≤ 1000000
  k : ok = true → l.length ≤ 32 ∧ ∀ o ∈ l, okO o.x o.X o.M
  c : ∀ V, Q w V → Calls Tryz.prog 10 #[v] V fun e V' => EncP V ok (encB l) e V'
theorem encode_cut (v : Value) (ys : List Rv) (w : World) (hg : Gd w) (h : Sl Rv.L 23 w v ys) (ho : ∀ y ∈ ys, ∃ b, OpG w y b) : ∃ l ok, EncL w v l ok := by
  obtain ⟨cX, cM, cm, hc⟩ := ods_of w ys ho
  have hl : (ys.map fun y => (⟨y, cX y, cM y⟩ : Od)).map (·.x) = ys := by
    rw [List.map_map]
    exact (List.map_congr_left fun y hy => rfl).trans (List.map_id ys)
  have hmem : ∀ o ∈ ys.map fun y => (⟨y, cX y, cM y⟩ : Od), o.x ∈ ys ∧ o.X = cX o.x ∧ o.M = cM o.x := fun o hm => by
    obtain ⟨y, hy, rfl⟩ := List.mem_map.1 hm
    exact ⟨hy, rfl, rfl⟩
  refine ⟨ys.map fun y => ⟨y, cX y, cM y⟩, decide (ys.length ≤ 32) && ys.all fun y => mayO y (cX y) (cM y) (cm y), ?_, ?_, ?_, ?_⟩
  · rw [hl]; exact h
  · intro o hm
    obtain ⟨h1, h2, h3⟩ := hmem o hm
    rw [h2, h3]
    exact ⟨(hc _ h1).1, (hc _ h1).2.1.ml⟩
  · intro e
    simp only [Bool.and_eq_true, decide_eq_true_eq, List.all_eq_true] at e
    refine ⟨by rw [List.length_map]; exact e.1, fun o hm => ?_⟩
    obtain ⟨h1, h2, h3⟩ := hmem o hm
    rw [h2, h3]
    exact okO_of (e.2 _ h1) (hc _ h1).2.1 (hc _ h1).2.2
  · intro V q
    have hE := encode_any v ys (fun y => mayO y (cX y) (cM y) (cm y)) (fun y => if mayO y (cX y) (cM y) (cm y) then encO y (cX y) (cM y) else []) V (h.on q) (fun y hy U u => opmay_g y _ U (hg.on (q.trans u)) ⟨cX y, cM y, cm y, (hc y hy).1.on (q.trans u), (hc y hy).2.1, (hc y hy).2.2, rfl⟩) (fun y hy => by
      cases e : mayO y (cX y) (cM y) (cm y)
      · simp
      · simpa [e] using encO_short e (hc y hy).2.2) (fun ha y hy p hp => by
      have e := List.all_eq_true.1 ha y hy
      simp only [e, if_true]
      exact wop_any V p y _ _ hp (okO_of e (hc y hy).2.1 (hc y hy).2.2) ((hc y hy).1.on q) (encO_short e (hc y hy).2.2))
    refine hE.mono ?_
    rintro e V' ⟨h1, h2, h3⟩
    refine ⟨h1, fun hk => ?_, h3⟩
    have hk2 := hk
    simp only [Bool.and_eq_true, decide_eq_true_eq, List.all_eq_true] at hk2
    have hbs : vn ys.length ++ ys.flatMap (fun y => if mayO y (cX y) (cM y) (cm y) then encO y (cX y) (cM y) else []) = encB (ys.map fun y => ⟨y, cX y, cM y⟩) := by
      unfold encB
      rw [List.length_map]
      congr 1
      have : ∀ zs : List Rv, (∀ z ∈ zs, mayO z (cX z) (cM z) (cm z) = true) → zs.flatMap (fun y => if mayO y (cX y) (cM y) (cm y) then encO y (cX y) (cM y) else []) = (zs.map fun y => (⟨y, cX y, cM y⟩ : Od)).flatMap fun o => encO o.x o.X o.M := by
        intro zs
        induction zs with
        | nil => intro _; rfl
        | cons z zs ih =>
          intro hz
          rw [List.flatMap_cons, List.map_cons, List.flatMap_cons, ih (fun u hu => hz u (List.mem_cons_of_mem _ hu)), if_pos (hz z (List.mem_cons_self ..))]
      exact this ys hk2.2
    rw [← hbs]
    exact h2 hk
end Go.Proofs.YtcgddnliiondoaaGreatDoor
namespace Go.Proofs.YtcgddnliiondoaaGreatDoor
open Go.RowKit
open IV
set_option linter.unusedVariables false
set_option linter.unusedSimpArgs false
section
variable {ops : Array Oper} {Q : Exit → Act → World → Prop} {a0 : Act} {ds : List Nat} {J : (Nat → Value) → World → Prop} {v : Nat → Value} {w : World} {i : Nat} {o : Oper} {d t b off : Nat} {z : Rv}
theorem opw_loadE (ho : ops[i]? = some o) (hg : o.guard = none) (hop : o.op = .load 54 (.tmp t)) (hd : o.dst = some d) (hm : d ∈ ds) (ht : t ∈ ds) (hts : (a0.tmps[t]?).isSome = true) (hv : v t = .pointer (some ⟨b, off, none⟩)) (hr : w.rangeAt b off z.L) (hI : J (up v d (.agg z.L.toArray)) w) :
    WO Tryz.prog ops Q i (Ks a0 ds J) (frm a0 ds v) w :=
  opw_wp ho hg (wp_load_mid 54 (.tmp t) hop b off ((frm_eval ht hts).trans hv) z.L _ hr Tryz.underlying54 rfl info35 (ks_put hd hm hI))
end
theorem up_same9 {v : Nat → Value} {d : Nat} {x : Value} : up v d x d = x := if_pos rfl
theorem up_ne9 {v : Nat → Value} {d t : Nat} {x : Value} (h : t ≠ d) : up v d x t = v t := if_neg h
theorem ul_ne9 {L : Nat → Bool} {i j : Nat} (h : j ≠ i) : ul L i j = L j := if_neg h
theorem oe_ex9 (x y : Rv) (X Y : Ex) (L M : List R.Rg.Rc) : ∃ b : Bool, (b = true ↔ oE x y X Y L M) := by
  by_cases h : oE x y X Y L M
  · exact ⟨true, fun _ => h, fun _ => rfl⟩
  · exact ⟨false, fun e => absurd e Bool.false_ne_true, fun e => absurd e h⟩
theorem sameOs_iff : ∀ (l m : List Od), sameOs l m ↔ (l.length = m.length ∧ ∀ i (h1 : i < l.length) (h2 : i < m.length), oE l[i].x m[i].x l[i].X m[i].X l[i].M m[i].M)
  | [], [] => ⟨fun _ => ⟨rfl, fun i h => absurd h (by simp)⟩, fun _ => trivial⟩
  | [], b :: m => ⟨(fun h => (by cases h)), (fun h => absurd h.1 (by simp))⟩
  | a :: l, [] => ⟨(fun h => (by cases h)), (fun h => absurd h.1 (by simp))⟩
  | a :: l, b :: m => by
    have ih := sameOs_iff l m
    constructor
    · intro h
      have h2 := ih.1 h.2
      refine ⟨by simp [h2.1], fun i h1 h3 => ?_⟩
      cases i with
      | zero => exact h.1
      | succ i => exact h2.2 i (by simpa using h1) (by simpa using h3)
    · intro h
      refine ⟨h.2 0 (by simp) (by simp), ih.2 ⟨by simpa using h.1, fun i h1 h3 => ?_⟩⟩
      exact h.2 (i + 1) (by simpa using h1) (by simpa using h3)
def valE (a b : Value) (i ga oa gb ob : Nat) (x y : Rv) (c : Bool) (j : Nat) : Value :=
  if j = 0 then a else if j = 1 then .int .i64 i else if j = 2 then .pointer (some ⟨ga, oa + i * 23, none⟩) else if j = 3 then .agg x.L.toArray
  else if j = 4 then b else if j = 5 then .int .i64 i else if j = 6 then .pointer (some ⟨gb, ob + i * 23, none⟩) else if j = 7 then .agg y.L.toArray
  else if j = 8 then .bool c else .bool (!c)
structure EI (w : World) (val : Nat → Value) (L : Nat → Bool) (v : Nat → Value) (W : World) : Prop where
  q : Q w W
  mv : ∀ j, j < 10 → L j = true → v (17 + j) = val j
theorem EI.m {w W W' : World} {val : Nat → Value} {L : Nat → Bool} {v : Nat → Value} (J : EI w val L v W) (q : Q W W') (j : Nat) (hj : j < 10) : EI w val (ul L j) (up v (17 + j) (val j)) W' := by
  refine ⟨J.q.trans q, fun i hi h => ?_⟩
  by_cases e : i = j
  · subst e; exact up_same9
  · rw [ul_ne9 e] at h
    rw [up_ne9 (by omega)]
    exact J.mv i hi h
set_option maxHeartbeats 16000000 in
theorem eqops_any (u v : Value) (l m : List Od) (w : World) (hu : Sl Rv.L 23 w u (l.map (·.x))) (hv : Sl Rv.L 23 w v (m.map (·.x))) (hl : ∀ o ∈ l, RO w o.x o.X o.M ∧ o.M.length ≤ 1000000) (hm : ∀ o ∈ m, RO w o.x o.X o.M ∧ o.M.length ≤ 1000000) (b : Bool) (hb : b = true ↔ sameOs l m) :
    Calls Tryz.prog 13 #[u, v] w fun e W' => e = .returned (.bool b) ∧ Q w W' := by
  have HU := hid hu
  have HV := hid hv
  have HL := hid hl
  have HM := hid hm
  rw [sameOs_iff] at hb
  have HB := hid hb
  obtain ⟨ao, ca, rfl, a1, a2⟩ := hu.len
  obtain ⟨bo, cb, rfl, b1, b2⟩ := hv.len
  simp only [List.length_map] at a1 b1 HU HV ⊢
  clear hu hv hl hm hb
  by_cases hlen : l.length = m.length
  · have hmx : l.length ≤ 9223372036854775807 := by unfold maxLen at a2; omega
    rw [← hlen] at b1 HV ⊢
    have HLE := hid hlen
    have HA9 : Hid (l.length ≤ ca ∧ ca ≤ maxLen ∧ l.length ≤ cb ∧ cb ≤ maxLen) := hid ⟨a1, a2, b1, b2⟩
    clear a1 a2 b1 b2 hlen
    generalize hn : l.length = n at HU HV hmx HA9 ⊢
    have HN := hid hn
    clear hn
    go_enter Tryz.func13, Tryz.ntmps13
    go_wp2_with fail
    go_loopw [4, 5] (fun r s W => r = .bool false ∧ ∃ (i : Nat), i ≤ n ∧ s = .int .i64 i ∧ Hid (∀ j (h1 : j < l.length) (h2 : j < m.length), j < i → oE l[j].x m[j].x l[j].X m[j].X l[j].M m[j].M) ∧ Hid (Q w W)) (fun _ s _ => n - (intOf s).toNat)
    case atStart => exact ⟨rfl, 0, Nat.zero_le _, rfl, hid (fun j _ _ h => absurd h (by omega)), hid (Q.refl _)⟩
    case round =>
      obtain ⟨rfl, i, hi, rfl, hall, hq9⟩ := hrel
      have HALL := hall
      have HQ := hq9
      clear hall hq9
      by_cases hlt : i < n
      · have hlt' : (i : Int) < (n : Int) := by omega
        have hi1 : i < l.length := by have := HN.out; omega
        have hi2 : i < m.length := by have := HN.out; have := HLE.out; omega
        obtain ⟨ga, oa, ca', ea, _, _, ha⟩ := HU.out.at (i := i) (by simpa using hi1)
        obtain ⟨gb, ob, cb', eb, _, _, hb9⟩ := HV.out.at (i := i) (by simpa using hi2)
        injection ea with ea1 ea2 ea3
        injection eb with eb1 eb2 eb3
        subst ea1 eb1
        clear ea2 ea3 eb2 eb3
        rw [List.getElem_map] at ha hb9
        have HX := hid (HL.out _ (List.getElem_mem hi1))
        have HY := hid (HM.out _ (List.getElem_mem hi2))
        have HRx := hid (fun W (q : Q w W) => show W.rangeAt ga (oa + i * 23) (l[i].x).L from fun j u hu => (ha.on q) j u hu)
        have HRy := hid (fun W (q : Q w W) => show W.rangeAt gb (ob + i * 23) (m[i].x).L from fun j u hu => (hb9.on q) j u hu)
        obtain ⟨c, hc⟩ := oe_ex9 l[i].x m[i].x l[i].X m[i].X l[i].M m[i].M
        have HC := hid (fun W (q : Q w W) => eqop_any l[i].x m[i].x l[i].X m[i].X l[i].M m[i].M c W (HX.out.1.on q) (HY.out.1.on q) (by have := HX.out.2; omega) (by have := HY.out.2; omega) hc)
        have HCC := hid hc
        generalize hx9 : l[i].x = x at HRx HC
        generalize hy9 : m[i].x = y at HRy HC
        clear ha hb9 hc HX HY
        go_upto_region 6 with fail
        refine wp_region_invw (by kernel_rfl) [17, 18, 19, 20, 21, 22, 23, 24, 25, 26] (EI w (valE (.slice (some ⟨ga, oa, none⟩) n ca) (.slice (some ⟨gb, ob, none⟩) n cb) i ga oa gb ob x y c)) (by kernel_rfl) (steps_list ⟨?o0, ?o1, ?o2, ?o3, ?o4, ?o5, ?o6, ?o7, ?o8, ?o9, trivial⟩) ⟨HQ.out.drew, fun j _ h => (by cases h)⟩ ?_
        case o0 =>
          intro L v W J hL hd
          refine opw_val rfl rfl rfl (by decide) (by simp only [frm, List.foldl_cons, List.foldl_nil, List.setIfInBounds_toArray, List.set_cons_zero, List.set_cons_succ]; (go_simp) <;> (first | exact ⟨⟨rfl, rfl⟩, rfl⟩ | exact ⟨rfl, rfl⟩ | with_reducible rfl)) ?_
          exact J.m (Q.refl _) 0 (by decide)
        case o1 =>
          intro L v W J hL hd
          refine opw_val rfl rfl rfl (by decide) (by simp only [frm, List.foldl_cons, List.foldl_nil, List.setIfInBounds_toArray, List.set_cons_zero, List.set_cons_succ]; (go_simp) <;> (first | exact ⟨⟨rfl, rfl⟩, rfl⟩ | exact ⟨rfl, rfl⟩ | with_reducible rfl)) ?_
          exact J.m (Q.refl _) 1 (by decide)
        case o4 =>
          intro L v W J hL hd
          refine opw_val rfl rfl rfl (by decide) (by simp only [frm, List.foldl_cons, List.foldl_nil, List.setIfInBounds_toArray, List.set_cons_zero, List.set_cons_succ]; (go_simp) <;> (first | exact ⟨⟨rfl, rfl⟩, rfl⟩ | exact ⟨rfl, rfl⟩ | with_reducible rfl)) ?_
          exact J.m (Q.refl _) 4 (by decide)
        case o5 =>
          intro L v W J hL hd
          refine opw_val rfl rfl rfl (by decide) (by simp only [frm, List.foldl_cons, List.foldl_nil, List.setIfInBounds_toArray, List.set_cons_zero, List.set_cons_succ]; (go_simp) <;> (first | exact ⟨⟨rfl, rfl⟩, rfl⟩ | exact ⟨rfl, rfl⟩ | with_reducible rfl)) ?_
          exact J.m (Q.refl _) 5 (by decide)
        case o2 =>
          intro L v W J hL hd
          have h0 : v 17 = .slice (some ⟨ga, oa, none⟩) n ca := J.mv 0 (by decide) (hd 0 (by decide))
          have h1 : v 18 = .int .i64 i := J.mv 1 (by decide) (hd 1 (by decide))
          refine opw_val rfl rfl rfl (by decide) (by simp only [frm, List.foldl_cons, List.foldl_nil, List.setIfInBounds_toArray, List.set_cons_zero, List.set_cons_succ]; (go_simp) <;> (first | exact ⟨⟨rfl, rfl⟩, rfl⟩ | exact ⟨rfl, rfl⟩ | with_reducible rfl)) ?_
          exact J.m (Q.refl _) 2 (by decide)
        case o6 =>
          intro L v W J hL hd
          have h0 : v 21 = .slice (some ⟨gb, ob, none⟩) n cb := J.mv 4 (by decide) (hd 4 (by decide))
          have h1 : v 22 = .int .i64 i := J.mv 5 (by decide) (hd 5 (by decide))
          refine opw_val rfl rfl rfl (by decide) (by simp only [frm, List.foldl_cons, List.foldl_nil, List.setIfInBounds_toArray, List.set_cons_zero, List.set_cons_succ]; (go_simp) <;> (first | exact ⟨⟨rfl, rfl⟩, rfl⟩ | exact ⟨rfl, rfl⟩ | with_reducible rfl)) ?_
          exact J.m (Q.refl _) 6 (by decide)
        case o3 =>
          intro L v W J hL hd
          have h0 : v 19 = .pointer (some ⟨ga, oa + i * 23, none⟩) := J.mv 2 (by decide) (hd 2 (by decide))
          exact opw_loadE rfl rfl rfl rfl (by decide) (by decide) (by rfl) h0 (HRx.out W J.q) (J.m (Q.refl _) 3 (by decide))
        case o7 =>
          intro L v W J hL hd
          have h0 : v 23 = .pointer (some ⟨gb, ob + i * 23, none⟩) := J.mv 6 (by decide) (hd 6 (by decide))
          exact opw_loadE rfl rfl rfl rfl (by decide) (by decide) (by rfl) h0 (HRy.out W J.q) (J.m (Q.refl _) 7 (by decide))
        case o8 =>
          intro L v W J hL hd
          have h0 : v 20 = .agg x.L.toArray := J.mv 3 (by decide) (hd 3 (by decide))
          have h1 : v 24 = .agg y.L.toArray := J.mv 7 (by decide) (hd 7 (by decide))
          refine opw_call rfl rfl rfl (by decide) (by simp only [frm, List.foldl_cons, List.foldl_nil, List.setIfInBounds_toArray, List.set_cons_zero, List.set_cons_succ]; (go_simp) <;> (first | exact ⟨⟨rfl, rfl⟩, rfl⟩ | exact ⟨rfl, rfl⟩ | with_reducible rfl)) ?_
          refine (HC.out W J.q).mono ?_
          rintro e W1 ⟨rfl, q1⟩
          exact ⟨_, rfl, J.m q1 8 (by decide)⟩
        case o9 =>
          intro L v W J hL hd
          have h0 : v 25 = .bool c := J.mv 8 (by decide) (hd 8 (by decide))
          refine opw_val rfl rfl rfl (by decide) (by simp only [frm, List.foldl_cons, List.foldl_nil, List.setIfInBounds_toArray, List.set_cons_zero, List.set_cons_succ]; (go_simp) <;> (first | exact ⟨⟨rfl, rfl⟩, rfl⟩ | exact ⟨rfl, rfl⟩ | with_reducible rfl)) ?_
          exact J.m (Q.refl _) 9 (by decide)
        intro L v W hall J
        have h9 : v 26 = .bool (!c) := J.mv 9 (by decide) (hall 9 (by decide))
        have HQ2 := hid J.q
        simp only [frm, List.foldl_cons, List.foldl_nil, List.setIfInBounds_toArray, List.set_cons_zero, List.set_cons_succ]
        simp only [h9]
        clear hall J h9
        cases c with
        | false =>
          have hb0 : b = false := by
            cases b
            · rfl
            · have h1 := (HB.out.1 rfl).2 i hi1 hi2
              exact absurd (HCC.out.2 h1) Bool.false_ne_true
          subst hb0
          clear HB HL HM HU HV HC HCC HRx HRy HALL
          go_wp2_with fail
          go_ret
          exact ⟨rfl, HQ2.out⟩
        | true =>
          have hoe : oE l[i].x m[i].x l[i].X m[i].X l[i].M m[i].M := by
            exact HCC.out.1 rfl
          have HALL2 : Hid (∀ (j : Nat) (h1 : j < l.length) (h2 : j < m.length), j < i + 1 → oE l[j].x m[j].x l[j].X m[j].X l[j].M m[j].M) := by
            refine hid fun j h1 h2 hj => ?_
            by_cases e : j = i
            · subst e; exact hoe
            · exact HALL.out j h1 h2 (by omega)
          clear hoe HALL
          go_wp2_with fail
          refine ⟨⟨rfl, i + 1, by omega, by rw [Int.natCast_add]; rfl, HALL2, HQ2⟩, ?_⟩
          show n - ((i : Int) + 1).toNat < n - (i : Int).toNat
          clear HALL2 HQ2 HL HM HB HU HV HCC HC HRx HRy HN HLE HA9
          omega
      · have hin : i = n := by omega
        subst hin
        have hge : ¬ (i : Int) < (i : Int) := by omega
        have hb1 : b = true := HB.out.2 ⟨HLE.out, fun j h1 h2 => HALL.out j h1 h2 (by have := HN.out; omega)⟩
        subst hb1
        clear HB HL HM HU HV HALL
        go_wp2_with fail
        go_ret
        exact ⟨rfl, HQ.out⟩
  · have hne : ¬ (l.length : Int) = (m.length : Int) := by omega
    have hb0 : b = false := by
      cases b
      · rfl
      · exact absurd (HB.out.1 rfl).1 hlen
    subst hb0
    clear HB HL HM HU HV
    generalize l.length = n at hne ⊢
    generalize m.length = n2 at hne ⊢
    go_enter Tryz.func13, Tryz.ntmps13
    go_wp2_with fail
    go_ret
    exact ⟨rfl, Q.refl _⟩
end Go.Proofs.YtcgddnliiondoaaGreatDoor
