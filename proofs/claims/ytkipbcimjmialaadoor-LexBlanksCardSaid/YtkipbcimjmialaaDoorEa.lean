/- A word hangs on no more than itself and the byte behind it. -/
import Derived.Test.YtkipbcimjmialaaDoorLw
import Derived.Test.YtkipbcimjmialaaDoorBc
namespace Go.Proofs.YtkipbcimjmialaaDoor
open Go.RowKit
set_option linter.unusedVariables false
set_option linter.unusedSimpArgs false


theorem hp_head {c : UInt8} {l : List UInt8} : Lib.hasPrefix l [c] = decide (l.head? = some c) := by
  cases l with
  | nil => rfl
  | cons a r =>
    unfold Lib.hasPrefix
    simp [List.isPrefixOf]
    rw [Bool.eq_iff_iff]
    simp
    exact ⟨fun h => h.symm, fun h => h.symm⟩
theorem quoF_loc : ∀ (l acc : List UInt8) (n : Nat) (t : List UInt8) (m : Nat), quoF l acc n = some (t, m) → ∀ X : List UInt8, X.head? ≠ some 34 → quoF (l.take (m - n) ++ X) acc n = some (t, m)
  | [], _, _, _, _, h => by simp [quoF] at h
  | [c], acc, n, t, m, h => by
    intro X hX
    have hp : Lib.hasPrefix X [34] = false := by rw [hp_head, decide_eq_false hX]
    unfold quoF at h
    split at h
    · rename_i hc
      simp only [Option.some.injEq, Prod.mk.injEq] at h
      obtain ⟨rfl, rfl⟩ := h
      subst hc
      rw [show n + 1 - n = 1 by omega]
      exact quoF_end hp
    · cases h
  | c :: d :: r, acc, n, t, m, h => by
    intro X hX
    have hp : Lib.hasPrefix X [34] = false := by rw [hp_head, decide_eq_false hX]
    unfold quoF at h
    split at h
    · rename_i hc
      subst hc
      split at h
      · rename_i hd
        subst hd
        have hle := quoF_le _ _ _ _ _ h
        have ih := quoF_loc r _ _ _ _ h X hX
        rw [show m - n = (m - (n + 2)) + 1 + 1 by omega, List.take_succ_cons, List.take_succ_cons, List.cons_append, List.cons_append, quoF_two]
        exact ih
      · simp only [Option.some.injEq, Prod.mk.injEq] at h
        obtain ⟨rfl, rfl⟩ := h
        rw [show n + 1 - n = 0 + 1 by omega, List.take_succ_cons, List.take_zero]
        exact quoF_end hp
    · rename_i hc
      have hle := quoF_le _ _ _ _ _ h
      have ih := quoF_loc (d :: r) _ _ _ _ h X hX
      rw [show m - n = (m - (n + 1)) + 1 by omega, List.take_succ_cons, List.cons_append, quoF_not hc]
      exact ih
theorem quoF_beh : ∀ (l acc : List UInt8) (n : Nat) (t : List UInt8) (m : Nat), quoF l acc n = some (t, m) → (l.drop (m - n)).head? ≠ some 34
  | [], _, _, _, _, h => by simp [quoF] at h
  | [c], acc, n, t, m, h => by
    unfold quoF at h
    split at h
    · simp only [Option.some.injEq, Prod.mk.injEq] at h
      obtain ⟨rfl, rfl⟩ := h
      rw [show n + 1 - n = 0 + 1 by omega]
      simp
    · cases h
  | c :: d :: r, acc, n, t, m, h => by
    unfold quoF at h
    split at h
    · split at h
      · have hle := quoF_le _ _ _ _ _ h
        have ih := quoF_beh r _ _ _ _ h
        rw [show m - n = (m - (n + 2)) + 1 + 1 by omega, List.drop_succ_cons, List.drop_succ_cons]
        exact ih
      · rename_i hd
        simp only [Option.some.injEq, Prod.mk.injEq] at h
        obtain ⟨rfl, rfl⟩ := h
        rw [show n + 1 - n = 0 + 1 by omega, List.drop_succ_cons, List.drop_zero]
        simpa using hd
    · have hle := quoF_le _ _ _ _ _ h
      have ih := quoF_beh (d :: r) _ _ _ _ h
      rw [show m - n = (m - (n + 1)) + 1 by omega, List.drop_succ_cons]
      exact ih
theorem tw_app {p : UInt8 → Bool} {X : List UInt8} (hX : ∀ c, X.head? = some c → p c = false) : ∀ (W : List UInt8), (∀ x ∈ W, p x = true) → (W ++ X).takeWhile p = W ∧ (W ++ X).dropWhile p = X
  | [], _ => by
    cases X with
    | nil => exact ⟨rfl, rfl⟩
    | cons c r =>
      have hc := hX c rfl
      constructor
      · rw [List.nil_append, List.takeWhile_cons, if_neg (by simp [hc])]
      · rw [List.nil_append, List.dropWhile_cons, if_neg (by simp [hc])]
  | w :: W, h => by
    have hw := h w (by simp)
    have ih := tw_app hX W (fun x hx => h x (by simp [hx]))
    rw [List.cons_append, List.takeWhile_cons, List.dropWhile_cons, if_pos hw, if_pos hw, ih.1, ih.2]
    exact ⟨rfl, rfl⟩
theorem tw_all {p : UInt8 → Bool} {x : UInt8} : ∀ {l : List UInt8}, x ∈ l.takeWhile p → p x = true
  | [], h => by simp at h
  | c :: r, h => by
    rw [List.takeWhile_cons] at h
    split at h
    · rename_i hc
      rcases List.mem_cons.1 h with rfl | h'
      · exact hc
      · exact tw_all h'
    · simp at h
theorem dw_head {p : UInt8 → Bool} {c : UInt8} : ∀ {l : List UInt8}, (l.dropWhile p).head? = some c → p c = false
  | [], h => by simp at h
  | d :: r, h => by
    rw [List.dropWhile_cons] at h
    split at h
    · exact dw_head h
    · rename_i hd
      simp only [List.head?_cons, Option.some.injEq] at h
      subst h
      simpa using hd
theorem pre_eq {l p : List UInt8} (h : Lib.hasPrefix l p = true) : l.take p.length = p := by
  unfold Lib.hasPrefix at h
  rw [List.isPrefixOf_iff_prefix] at h
  exact (List.prefix_iff_eq_take.1 h).symm
theorem err_loc {e : Int} (h : e ∈ ([1, 2, 3, 4, 5, 6, 7] : List Int)) (X : List UInt8) : errF (enL e ++ X) = some e := by
  simp only [List.mem_cons, List.not_mem_nil, or_false] at h
  rcases h with rfl | rfl | rfl | rfl | rfl | rfl | rfl <;> rfl
theorem sig_loc {t rest X : List UInt8} (h : sigF (t ++ rest) = some t) (hx : X.head? = rest.head? ∨ X.head? = some 32) : sigF (t ++ X) = some t := by
  have hm := List.mem_of_find?_eq_some h
  unfold sgL at hm
  simp only [List.mem_cons, List.not_mem_nil, or_false] at hm
  rcases hm with rfl | rfl | rfl | rfl | rfl | rfl | rfl | rfl | rfl | rfl | rfl | rfl | rfl | rfl | rfl
  case inr.inr.inr.inl =>
    cases X with
    | nil => rfl
    | cons x X' =>
      have h1 : x ≠ 62 ∧ x ≠ 61 := by
        rcases hx with hx | hx
        · cases rest with
          | nil => simp at hx
          | cons y r =>
            simp only [List.head?_cons, Option.some.injEq] at hx
            subst hx
            constructor
            · intro e; subst e; exact absurd h (by show some _ ≠ some _; decide)
            · intro e; subst e; exact absurd h (by show some _ ≠ some _; decide)
        · simp only [List.head?_cons, Option.some.injEq] at hx
          subst hx
          decide
      have n1 : ((62 : UInt8) == x) = false := by rw [beq_eq_false_iff_ne]; exact fun e => h1.1 e.symm
      have n2 : ((61 : UInt8) == x) = false := by rw [beq_eq_false_iff_ne]; exact fun e => h1.2 e.symm
      simp [sigF, sgL, Lib.hasPrefix, List.isPrefixOf, n1, n2]
  case inr.inr.inr.inr.inl =>
    cases X with
    | nil => rfl
    | cons x X' =>
      have h1 : x ≠ 61 := by
        rcases hx with hx | hx
        · cases rest with
          | nil => simp at hx
          | cons y r =>
            simp only [List.head?_cons, Option.some.injEq] at hx
            subst hx
            intro e; subst e; exact absurd h (by show some _ ≠ some _; decide)
        · simp only [List.head?_cons, Option.some.injEq] at hx
          subst hx
          decide
      have n2 : ((61 : UInt8) == x) = false := by rw [beq_eq_false_iff_ne]; exact fun e => h1 e.symm
      simp [sigF, sgL, Lib.hasPrefix, List.isPrefixOf, n2]
  all_goals rfl
theorem kind_called {W : List UInt8} {c c' : Bool} (h4 : kindJ W c ≠ 4) (h0 : kindJ W c ≠ 0) : kindJ W c' = kindJ W c := by
  unfold kindJ at *
  split at h4
  · rename_i h
    rw [if_pos h, if_pos h]
  · rename_i h
    rw [if_neg h] at h0 ⊢
    split at h4
    · rename_i h2
      rw [if_pos h2, if_neg h, if_pos h2]
    · rename_i h2
      rw [if_neg h2] at h0
      split at h4
      · exact absurd rfl h4
      · rename_i h3
        rw [if_neg h3] at h0
        exact absurd rfl h0
/-- a word hangs on no more than itself and the byte behind it -/
theorem word_loc {rem X t : List UInt8} {k m : Nat} (h : wordF rem = (k, t, m)) (hm : m ≠ 0) (hx : X.head? = (rem.drop m).head? ∨ (k ≠ 4 ∧ X.head? = some 32)) : wordF (rem.take m ++ X) = (k, t, m) := by
  have hlen := word_len rem
  rw [h] at hlen
  simp only at hlen
  obtain ⟨c, r, rfl⟩ : ∃ c r, rem = c :: r := by
    cases rem with
    | nil => simp at hlen; omega
    | cons c r => exact ⟨c, r, rfl⟩
  obtain ⟨m', rfl⟩ : ∃ m', m = m' + 1 := ⟨m - 1, by omega⟩
  have hh : ((c :: r).take (m' + 1) ++ X).headD 0 = c := by rw [List.take_succ_cons]; rfl
  unfold wordF at h ⊢
  rw [hh]
  rw [List.headD_cons] at h
  split at h
  · rename_i hc
    rw [if_pos hc]
    unfold quoW at h ⊢
    rw [List.drop_succ_cons, List.drop_zero] at h
    rw [List.take_succ_cons, List.cons_append, List.drop_succ_cons, List.drop_zero]
    cases hq : quoF r [] 1 with
    | none => rw [hq] at h; simp [quoP, bad] at h
    | some p =>
      obtain ⟨t', n'⟩ := p
      rw [hq] at h
      simp only [quoP] at h
      split at h
      · rename_i hmt
        simp only [Prod.mk.injEq] at h
        obtain ⟨rfl, rfl, rfl⟩ := h
        have hb := quoF_beh _ _ _ _ _ hq
        rw [Nat.add_sub_cancel] at hb
        rw [List.drop_succ_cons] at hx
        have hX : X.head? ≠ some 34 := by
          rcases hx with hx | ⟨_, hx⟩
          · rw [hx]; exact hb
          · rw [hx]; decide
        have := quoF_loc _ _ _ _ _ hq X hX
        rw [Nat.add_sub_cancel] at this
        rw [this]
        simp only [quoP, hmt, if_true]
      · simp [bad] at h
  · rename_i hc
    rw [if_neg hc]
    split at h
    · rename_i hc2
      rw [if_pos hc2]
      unfold errW at h ⊢
      cases he : errF (c :: r) with
      | none => rw [he] at h; simp [errP, bad] at h
      | some e =>
        rw [he] at h
        simp only [errP, Prod.mk.injEq] at h
        obtain ⟨rfl, rfl, hlen2⟩ := h
        have he2 := he
        unfold errF at he2
        have hp2 := List.find?_some he2
        have hp := pre_eq hp2
        rw [← hlen2, hp, err_loc (List.mem_of_find?_eq_some he2)]
        rfl
    · rename_i hc2
      rw [if_neg hc2]
      split at h
      · rename_i hj
        rw [if_pos hj]
        unfold joinW at h
        split at h
        · simp [bad] at h
        · rename_i hk0
          simp only [Prod.mk.injEq] at h
          obtain ⟨hk, ht, hl⟩ := h
          have htake : (c :: r).take (m' + 1) = (c :: r).takeWhile joinB := by rw [← hl]; exact tw_take _ _
          have hdrop : (c :: r).drop (m' + 1) = (c :: r).dropWhile joinB := by rw [← hl]; exact tw_drop _ _
          rw [hdrop] at hx
          rw [htake]
          have hX : ∀ d, X.head? = some d → joinB d = false := by
            intro d hd
            rcases hx with hx | ⟨_, hx⟩
            · rw [hx] at hd; exact dw_head hd
            · rw [hx] at hd; cases hd; rfl
          have hap := tw_app hX ((c :: r).takeWhile joinB) (fun x hx => tw_all hx)
          unfold joinW
          rw [hap.1, hap.2]
          have hkk : kindJ ((c :: r).takeWhile joinB) (Lib.hasPrefix X [40]) = k := by
            rcases hx with hx | ⟨h4, hx⟩
            · rw [hp_head, hx, ← hp_head]; exact hk
            · rw [← hk] at h4 ⊢
              exact kind_called h4 hk0
          rw [hkk, if_neg (by rw [← hk]; exact hk0), ← ht, hl]
      · rename_i hj
        rw [if_neg hj]
        unfold sigW at h ⊢
        cases he : sigF (c :: r) with
        | none => rw [he] at h; simp [sigP, bad] at h
        | some e =>
          rw [he] at h
          simp only [sigP, Prod.mk.injEq] at h
          obtain ⟨rfl, rfl, hlen2⟩ := h
          have hp := pre_eq (List.find?_some he : Lib.hasPrefix (c :: r) e = true)
          rw [← hlen2] at hx ⊢
          rw [hp]
          have e2 : c :: r = e ++ (c :: r).drop e.length := by
            have := List.take_append_drop e.length (c :: r)
            rw [hp] at this
            exact this.symm
          rw [e2] at he
          rw [sig_loc (rest := (c :: r).drop e.length) he (by
            rcases hx with hx | ⟨_, hx⟩
            · exact .inl hx
            · exact .inr hx)]
          rfl
end Go.Proofs.YtkipbcimjmialaaDoor
