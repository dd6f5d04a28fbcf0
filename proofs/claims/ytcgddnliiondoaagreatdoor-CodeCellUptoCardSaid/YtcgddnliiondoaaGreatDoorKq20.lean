/- Trees and cells that may be can be told from their bytes, an. -/
import Derived.Test.YtcgddnliiondoaaGreatDoorKq19
import Derived.Test.YtcgddnliiondoaaGreatDoorKq16
import Derived.Test.YtcgddnliiondoaaGreatDoorKq14
set_option linter.unusedVariables false
set_option linter.unusedSimpArgs false
set_option maxRecDepth 100000
set_option maxHeartbeats 8000000
namespace Go.Proofs.YtcgddnliiondoaaGreatDoor
open Go.RowKit
theorem bare_of {n : Int} {t : List UInt8} {b : Bool} {e : Int} {l1 l2 : Nat} (h : bareB n t b e l1 l2 = true) : n = 0 ∧ t = [] ∧ b = false ∧ e = 0 ∧ l1 = 0 ∧ l2 = 0 := of_decide_eq_true h
theorem wfr_of {x : Rf} (h : mayR x.1 x.2.1 x.2.2.1 = true) (hs : x.1.length ≤ 2000000) : wfR x := by
  unfold mayR at h
  simp only [Bool.and_eq_true, decide_eq_true_eq] at h
  exact ⟨hs, ⟨h.2.1.1, by omega⟩, h.2.2.1, by omega⟩
theorem enL_lt {e : Int} (h : enL e ≠ []) : 0 ≤ e ∧ e < 100 := by
  unfold enL at h
  by_cases h1 : e = 1; · omega
  by_cases h2 : e = 2; · omega
  by_cases h3 : e = 3; · omega
  by_cases h4 : e = 4; · omega
  by_cases h5 : e = 5; · omega
  by_cases h6 : e = 6; · omega
  by_cases h7 : e = 7; · omega
  rw [if_neg h1, if_neg h2, if_neg h3, if_neg h4, if_neg h5, if_neg h6, if_neg h7] at h
  exact absurd rfl h
theorem len0 {α : Type} {l : List α} (h : l.length = 0) : l = [] := List.eq_nil_of_length_eq_zero h
theorem okT_of : ∀ X : Ex, mall mayN X = true → Sm X → Rn X → okT X
  | .mk k n t b e rs ks, hm, hs, hn => by
    rw [mall] at hm
    simp only [Bool.and_eq_true] at hm
    obtain ⟨hm, hml⟩ := hm
    rw [Sm] at hs
    rw [Rn] at hn
    obtain ⟨s1, s2, s3⟩ := hs
    rw [okT]
    refine ⟨?_, go ks hml s3 hn.2⟩
    have hn1 := hn.1
    clear hml s3 hn
    unfold mayN at hm
    dsimp only at hm
    by_cases h1 : k = 1
    · subst h1
      rw [if_pos rfl] at hm
      simp only [Bool.and_eq_true, decide_eq_true_eq] at hm
      obtain ⟨_, rfl, rfl, rfl, l1, l2⟩ := bare_of hm.2
      exact .inl ⟨rfl, ⟨hm.1, by omega⟩, rfl, rfl, rfl, len0 l1, len0 l2⟩
    rw [if_neg h1] at hm
    by_cases h2 : k = 2
    · subst h2
      rw [if_pos rfl] at hm
      simp only [Bool.and_eq_true] at hm
      obtain ⟨rfl, _, rfl, rfl, l1, l2⟩ := bare_of hm.2
      exact .inr (.inl ⟨rfl, rfl, s1, rfl, rfl, len0 l1, len0 l2⟩)
    rw [if_neg h2] at hm
    by_cases h3 : k = 3
    · subst h3
      rw [if_pos rfl] at hm
      simp only [Bool.and_eq_true] at hm
      obtain ⟨rfl, rfl, _, rfl, l1, l2⟩ := bare_of hm.2
      exact .inr (.inr (.inl ⟨rfl, rfl, rfl, rfl, len0 l1, len0 l2⟩))
    rw [if_neg h3] at hm
    by_cases h4 : k = 4
    · subst h4
      rw [if_pos rfl] at hm
      simp only [Bool.and_eq_true, decide_eq_true_eq] at hm
      obtain ⟨rfl, rfl, rfl, _, l1, l2⟩ := bare_of hm.2
      exact .inr (.inr (.inr (.inl ⟨rfl, rfl, rfl, rfl, enL_lt hm.1, len0 l1, len0 l2⟩)))
    rw [if_neg h4] at hm
    by_cases h5 : k = 5
    · subst h5
      rw [if_pos rfl] at hm
      simp only [Bool.and_eq_true] at hm
      obtain ⟨rfl, rfl, rfl, rfl, _, l2⟩ := bare_of hm.2
      have hx : ∃ x, rs = [x] ∧ wfR x := by
        match rs, hm.1, s2 with
        | [x], ho, s2 => exact ⟨x, rfl, wfr_of ho (s2 x (by simp))⟩
      exact .inr (.inr (.inr (.inr (.inl ⟨rfl, rfl, rfl, rfl, rfl, hx, len0 l2⟩))))
    rw [if_neg h5] at hm
    by_cases h6 : k = 6
    · subst h6
      rw [if_pos rfl] at hm
      simp only [Bool.and_eq_true] at hm
      obtain ⟨rfl, rfl, rfl, rfl, _, l2⟩ := bare_of hm.2
      have hx : ∃ x y, rs = [x, y] ∧ wfR x ∧ wfR y := by
        match rs, hm.1, s2 with
        | [x, y], ho, s2 =>
          unfold rngB at ho
          simp only [Bool.and_eq_true] at ho
          exact ⟨x, y, rfl, wfr_of ho.1 (s2 x (by simp)), wfr_of ho.2.1 (s2 y (by simp))⟩
      exact .inr (.inr (.inr (.inr (.inr (.inl ⟨rfl, rfl, rfl, rfl, rfl, hx, len0 l2⟩)))))
    rw [if_neg h6] at hm
    by_cases h7 : k = 7
    · subst h7
      rw [if_pos rfl] at hm
      simp only [Bool.and_eq_true, decide_eq_true_eq] at hm
      obtain ⟨rfl, rfl, rfl, rfl, l1, _⟩ := bare_of hm.2
      exact .inr (.inr (.inr (.inr (.inr (.inr (.inl ⟨rfl, rfl, rfl, rfl, rfl, len0 l1, hm.1⟩))))))
    rw [if_neg h7] at hm
    by_cases h8 : k = 8
    · subst h8
      rw [if_pos rfl] at hm
      simp only [Bool.and_eq_true, decide_eq_true_eq] at hm
      obtain ⟨rfl, _, rfl, rfl, l1, _⟩ := bare_of hm.2
      exact .inr (.inr (.inr (.inr (.inr (.inr (.inr (.inl ⟨rfl, rfl, s1, rfl, rfl, len0 l1, hm.1.2⟩)))))))
    rw [if_neg h8] at hm
    by_cases h9 : k = 9
    · subst h9
      rw [if_pos rfl] at hm
      simp only [Bool.and_eq_true, decide_eq_true_eq] at hm
      obtain ⟨rfl, _, rfl, rfl, l1, _⟩ := bare_of hm.2
      exact .inr (.inr (.inr (.inr (.inr (.inr (.inr (.inr ⟨rfl, rfl, s1, rfl, rfl, len0 l1, by have := hm.1.2; omega⟩)))))))
    rw [if_neg h9] at hm
    cases hm
  where
  go : ∀ ks : List Ex, mall.mallL mayN ks = true → Sm.SmL ks → Rn.RnL ks → okT.okTL ks
  | [], _, _, _ => by rw [okT.okTL]; trivial
  | x :: xs, hm, hs, hn => by
    rw [mall.mallL] at hm
    simp only [Bool.and_eq_true] at hm
    rw [Sm.SmL] at hs
    rw [Rn.RnL] at hn
    rw [okT.okTL]
    exact ⟨okT_of x hm.1 hs.1 hn.1, go xs hm.2 hs.2 hn.2⟩
theorem wfT_of : ∀ X : Ex, okT X → WfT X
  | .mk k n t b e rs ks, h => by
    rw [okT] at h
    obtain ⟨h, hl⟩ := h
    rw [WfT]
    refine ⟨?_, go ks hl⟩
    rcases h with ⟨rfl, _, rfl, _, _, _, rfl⟩ | ⟨rfl, _, h3, _, _, _, rfl⟩ | ⟨rfl, _, rfl, _, _, rfl⟩ | ⟨rfl, _, rfl, _, h5, _, rfl⟩ | ⟨rfl, _, rfl, _, _, ⟨x, rfl, h6⟩, rfl⟩ | ⟨rfl, _, rfl, _, _, ⟨x, y, rfl, h6, h7⟩, rfl⟩ | ⟨rfl, _, rfl, _, _, _, h7⟩ | ⟨rfl, _, h3, _, _, _, h7⟩ | ⟨rfl, _, h3, _, _, _, h7⟩
    · exact ⟨by simp, by simp, by simp⟩
    · exact ⟨h3, by simp, by simp⟩
    · exact ⟨by simp, by simp, by simp⟩
    · exact ⟨by simp, by simp, .inr (.inr (.inr (.inl ⟨rfl, h5⟩)))⟩
    · exact ⟨by simp, by simp, .inr (.inr (.inr (.inr (.inl ⟨.inl rfl, fun z hz => by simp at hz; subst hz; exact h6⟩))))⟩
    · exact ⟨by simp, by simp, .inr (.inr (.inr (.inr (.inl ⟨.inr rfl, fun z hz => by
        simp at hz
        rcases hz with rfl | rfl
        · exact h6
        · exact h7⟩))))⟩
    · exact ⟨by simp, by omega, by simp⟩
    · exact ⟨h3, by omega, by simp⟩
    · exact ⟨h3, h7, by simp⟩
  where
  go : ∀ ks : List Ex, okT.okTL ks → WfT.WfTL ks
  | [], _ => by rw [WfT.WfTL]; trivial
  | x :: xs, h => by
    rw [okT.okTL] at h
    rw [WfT.WfTL]
    exact ⟨wfT_of x h.1, go xs h.2⟩
theorem okC_of {f : Bool} {vk vn : Int} {t : List UInt8} {b : Bool} {e : Int} {X : Ex} (h : mcB f vk vn t b e X = true) (ht : t.length ≤ 1000000) (hv : V.fitB vn = true) (hs : Sm X) (hn : Rn X) : okC f vk vn t b e X := by
  have hv' : -9223372036854775808 ≤ vn ∧ vn ≤ 9223372036854775807 := of_decide_eq_true hv
  unfold mcB at h
  cases f with
  | true =>
    rw [if_pos rfl] at h
    simp only [Bool.and_eq_true, decide_eq_true_eq] at h
    obtain ⟨⟨_, hm⟩, rfl, rfl, rfl, rfl, rfl⟩ := h
    exact .inl ⟨rfl, rfl, rfl, rfl, rfl, rfl, okT_of X hm hs hn⟩
  | false =>
    rw [if_neg Bool.false_ne_true] at h
    simp only [Bool.and_eq_true] at h
    obtain ⟨h, hz⟩ := h
    have hX := (isZ_iff X).1 hz
    refine .inr ⟨rfl, hX, ?_⟩
    clear hs hn hz hX
    unfold V.mayB at h
    by_cases h0 : vk = 0
    · subst h0
      rw [if_pos rfl] at h
      simp only [Bool.and_eq_true, decide_eq_true_eq, Bool.not_eq_true'] at h
      exact .inl ⟨rfl, h.1, h.2.1, h.2.2.1, h.2.2.2⟩
    rw [if_neg h0] at h
    by_cases h1 : vk = 1
    · subst h1
      rw [if_pos rfl] at h
      simp only [Bool.and_eq_true, decide_eq_true_eq, Bool.not_eq_true'] at h
      exact .inr (.inl ⟨rfl, ⟨hv'.1, by omega⟩, h.1, h.2.1, h.2.2⟩)
    rw [if_neg h1] at h
    by_cases h2 : vk = 2
    · subst h2
      rw [if_pos rfl] at h
      simp only [Bool.and_eq_true, decide_eq_true_eq, Bool.not_eq_true'] at h
      exact .inr (.inr (.inl ⟨rfl, h.1, ht, h.2.1, h.2.2.1⟩))
    rw [if_neg h2] at h
    by_cases h3 : vk = 3
    · subst h3
      rw [if_pos rfl] at h
      simp only [Bool.and_eq_true, decide_eq_true_eq] at h
      exact .inr (.inr (.inr (.inl ⟨rfl, h.1, h.2.1, h.2.2⟩)))
    rw [if_neg h3] at h
    by_cases h4 : vk = 4
    · subst h4
      rw [if_pos rfl] at h
      simp only [Bool.and_eq_true, decide_eq_true_eq, Bool.not_eq_true'] at h
      exact .inr (.inr (.inr (.inr ⟨rfl, h.1, h.2.1, h.2.2.1, by have := h.2.2.2; omega⟩)))
    rw [if_neg h4] at h
    cases h
theorem idB_short (l : List UInt8) (h : idB l = true) : l.length ≤ 32 := by
  unfold idB at h
  have h0 := of_decide_eq_true h
  clear h
  unfold ownK at h0
  split at h0
  · rename_i hp
    have ht : (Lib.trimPrefix l [99]).length + 1 = l.length := by
      have : 1 ≤ l.length := by
        cases l with
        | nil => simp [Lib.hasPrefix] at hp
        | cons c t => simp
      unfold Lib.trimPrefix
      rw [if_pos hp, List.length_drop]
      simp only [List.length_cons, List.length_nil] at this ⊢
      omega
    generalize Lib.trimPrefix l [99] = m at *
    rcases cut_any 110 m with ⟨a, b, rfl, hn⟩ | hn
    · rw [cut_at 110 a b hn] at h0
      unfold ownP at h0
      simp only [List.length_append, List.length_cons] at ht
      split at h0
      · rename_i hc
        simp only [Bool.and_eq_true, true_and] at hc
        have h1 : ¬ 15 < a.length := fun g => by rw [numF_long a 15 g (by omega)] at hc; exact absurd hc.1 (by simp)
        have h2 : ¬ 15 < b.length := fun g => by rw [numF_long b 999999 g (by omega)] at hc; exact absurd hc.2 (by simp)
        omega
      · omega
    · rw [cut_free 110 m hn] at h0
      unfold ownP at h0
      simp at h0
  · omega
theorem lvl_short (t : List UInt8) (h : 1 ≤ lvl t) : t.length ≤ 2 := by
  apply Decidable.byContradiction
  intro hl
  have hne : ∀ s : List UInt8, s.length ≤ 2 → t ≠ s := fun s hs e => by subst e; exact hl hs
  unfold lvl at h
  simp (discharger := decide) only [if_neg (hne _ _)] at h
  simp [hne [61] (by decide), hne [60, 62] (by decide), hne [60] (by decide), hne [60, 61] (by decide), hne [62] (by decide), hne [62, 61] (by decide), hne [38] (by decide), hne [43] (by decide), hne [45] (by decide), hne [42] (by decide), hne [47] (by decide)] at h
theorem mt_short (t : List UInt8) (h : V.mtB t = true) : t.length ≤ 200 := by
  unfold V.mtB at h
  simp only [Bool.and_eq_true, decide_eq_true_eq] at h
  omega
theorem encR_short {x : Rf} (h : mayR x.1 x.2.1 x.2.2.1 = true) : (encR x).length ≤ 72 := by
  unfold mayR at h
  simp only [Bool.and_eq_true, Bool.or_eq_true] at h
  have h1 : x.1.length ≤ 32 := by
    rcases h.1 with h | h
    · simp [List.isEmpty_iff] at h; simp [h]
    · exact idB_short _ h
  have a1 := vn_len x.1.length
  have a2 := vn_len x.2.1.toNat
  have a3 := vn_len x.2.2.1.toNat
  have a4 := vn_len (heldN x.2.2.2.1 x.2.2.2.2)
  simp only [encR, List.length_append]
  omega
theorem encT_short : ∀ X : Ex, mall mayN X = true → (encT X).length ≤ 230 * nodes X
  | .mk k n t b e rs ks, hm => by
    rw [mall] at hm
    simp only [Bool.and_eq_true] at hm
    obtain ⟨hm, hml⟩ := hm
    have hk := go ks hml
    rw [nodes, encT]
    have a0 := vn_len k.toNat
    have a1 := vn_len (u64N n)
    have a2 := vn_len t.length
    have a3 := vn_len (if b then 1 else 0)
    have a4 := vn_len e.toNat
    have a5 := vn_len ks.length
    have H : (if k = 1 then vn (u64N n) else if k = 2 then vn t.length ++ t else if k = 3 then vn (if b then 1 else 0)
    else if k = 4 then vn e.toNat else if k = 5 ∨ k = 6 then rs.flatMap encR else if k = 7 then encT.encTL ks
    else if k = 8 then vn t.length ++ (t ++ encT.encTL ks) else vn t.length ++ (t ++ (vn ks.length ++ encT.encTL ks))).length ≤ 220 + 230 * nodes.nodesL ks := by
      unfold mayN at hm
      dsimp only at hm
      by_cases h1 : k = 1
      · rw [if_pos h1]; omega
      rw [if_neg h1] at hm ⊢
      by_cases h2 : k = 2
      · rw [if_pos h2] at hm ⊢
        simp only [Bool.and_eq_true] at hm
        have h9 := hm.1
        simp only [V.mayB, Int.reduceEq, if_true, if_false, Bool.and_eq_true] at h9
        have := mt_short t h9.2.2.2
        rw [List.length_append]
        omega
      rw [if_neg h2] at hm ⊢
      by_cases h3 : k = 3
      · rw [if_pos h3]; omega
      rw [if_neg h3] at hm ⊢
      by_cases h4 : k = 4
      · rw [if_pos h4]; omega
      rw [if_neg h4] at hm ⊢
      by_cases h5 : k = 5
      · rw [if_pos (.inl h5)]
        rw [if_pos h5] at hm
        simp only [Bool.and_eq_true] at hm
        match rs, hm.1 with
        | [x], ho =>
          have := encR_short (x := x) ho
          simp only [List.flatMap_cons, List.flatMap_nil, List.append_nil]
          omega
      rw [if_neg h5] at hm
      by_cases h6 : k = 6
      · rw [if_pos (.inr h6)]
        rw [if_pos h6] at hm
        simp only [Bool.and_eq_true] at hm
        match rs, hm.1 with
        | [x, y], ho =>
          unfold rngB at ho
          simp only [Bool.and_eq_true] at ho
          have := encR_short (x := x) ho.1
          have := encR_short (x := y) ho.2.1
          simp only [List.flatMap_cons, List.flatMap_nil, List.append_nil, List.length_append]
          omega
      rw [if_neg h6] at hm
      rw [if_neg (by omega)]
      by_cases h7 : k = 7
      · rw [if_pos h7]; omega
      rw [if_neg h7] at hm ⊢
      by_cases h8 : k = 8
      · rw [if_pos h8] at hm ⊢
        simp only [Bool.and_eq_true, decide_eq_true_eq] at hm
        have := lvl_short t hm.1.1
        simp only [List.length_append]
        omega
      rw [if_neg h8] at hm ⊢
      by_cases h9 : k = 9
      · rw [if_pos h9] at hm
        simp only [Bool.and_eq_true, decide_eq_true_eq, namF] at hm
        have := hm.1.1.2.1
        simp only [List.length_append]
        omega
      rw [if_neg h9] at hm
      cases hm
    rw [List.length_append]
    omega
  where
  go : ∀ ks : List Ex, mall.mallL mayN ks = true → (encT.encTL ks).length ≤ 230 * nodes.nodesL ks
  | [], _ => by rw [encT.encTL]; simp
  | x :: xs, hm => by
    rw [mall.mallL] at hm
    simp only [Bool.and_eq_true] at hm
    have h1 := encT_short x hm.1
    have h2 := go xs hm.2
    rw [encT.encTL, nodes.nodesL, List.length_append]
    omega
theorem encC_short {f : Bool} {vk n : Int} {t : List UInt8} {b : Bool} {e : Int} {X : Ex} (h : mcB f vk n t b e X = true) : (encC f vk n t b e X).length ≤ 60000 := by
  have a0 := vn_len vk.toNat
  have a1 := vn_len 5
  have a2 := vn_len (sgN n)
  have a3 := vn_len t.length
  have a4 := vn_len (if b then 1 else 0)
  have a5 := vn_len e.toNat
  unfold mcB at h
  cases f with
  | true =>
    rw [if_pos rfl] at h
    simp only [Bool.and_eq_true, decide_eq_true_eq] at h
    have h1 := encT_short X h.1.2
    have h2 := h.1.1
    unfold fitB at h2
    simp only [Bool.and_eq_true, decide_eq_true_eq] at h2
    have h3 := h2.1
    simp only [encC, if_true, List.length_append]
    omega
  | false =>
    rw [if_neg Bool.false_ne_true] at h
    simp only [Bool.and_eq_true] at h
    obtain ⟨h, _⟩ := h
    have ht : vk = 2 → t.length ≤ 200 := fun e2 => by
      subst e2
      simp only [V.mayB, Int.reduceEq, if_true, if_false, Bool.and_eq_true] at h
      exact mt_short t h.2.2.2
    simp only [encC, Bool.false_eq_true, if_false, List.length_append]
    split
    · omega
    split
    · rename_i e2
      have := ht e2
      simp only [List.length_append]
      omega
    split
    · omega
    split
    · omega
    · simp
      omega
theorem wcell_any (w0 : World) (p : Nat) (f : Bool) (vk n : Int) (t : ByteArray) (b : Bool) (e : Int) (x6 x7 x8 x9 x10 x11 x12 : Value) (X : Ex) (hp : w0.heap.size ≤ p) (h : okC f vk n t.data.toList b e X) (ht : f = true → TreeC w0 p X (.agg #[x6, x7, x8, x9, x10, x11, x12])) :
    CellC w0 p (encC f vk n t.data.toList b e X) (.agg #[.bool f, .int .i64 vk, .int .i64 n, .string t, .bool b, .int .i64 e, x6, x7, x8, x9, x10, x11, x12]) := by
  rcases h with ⟨rfl, rfl, rfl, h4, rfl, rfl, h7⟩ | ⟨rfl, _, ⟨rfl, rfl, _, rfl, rfl⟩ | ⟨rfl, hn, _, rfl, rfl⟩ | ⟨rfl, rfl, h3, rfl, rfl⟩ | ⟨rfl, rfl, _, rfl⟩ | ⟨rfl, rfl, _, rfl, he⟩⟩
  · exact wcell_f w0 p _ _ _ _ _ x6 x7 x8 x9 x10 x11 x12 X hp (ht rfl)
  · exact wcell_0 w0 p _ _ _ _ x6 x7 x8 x9 x10 x11 x12 hp
  · exact wcell_1 w0 p n t _ _ x6 x7 x8 x9 x10 x11 x12 hp hn.1 hn.2
  · rw [len_data] at h3
    have := wcell_2 w0 p 0 t false 0 x6 x7 x8 x9 x10 x11 x12 hp h3
    rw [show encC false 2 0 t.data.toList false 0 X = vn 2 ++ (vn t.size ++ t.data.toList) by simp [encC]]
    exact this
  · exact wcell_3 w0 p 0 t b _ 0 x6 x7 x8 x9 x10 x11 x12 hp rfl
  · obtain ⟨m, rfl⟩ := Int.eq_ofNat_of_zero_le he.1
    exact wcell_4 w0 p 0 t false m x6 x7 x8 x9 x10 x11 x12 hp (by omega)
end Go.Proofs.YtcgddnliiondoaaGreatDoor
