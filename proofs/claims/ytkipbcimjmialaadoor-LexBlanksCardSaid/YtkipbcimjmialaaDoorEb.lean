/- Blanks behind the words change nothing but places. -/
import Derived.Test.YtkipbcimjmialaaDoorEa
namespace Go.Proofs.YtkipbcimjmialaaDoor
open Go.RowKit
set_option linter.unusedVariables false
set_option linter.unusedSimpArgs false


/-- the end -/
abbrev endW (n : Nat) : Wd := ⟨7, [], n⟩
/-- the text with blanks behind its words -/
def bt (l : List UInt8) (n : Nat) : List Wd → List UInt8
  | a :: b :: r => (l.drop a.p).take (b.p - a.p) ++ ((if a.k = 4 then [] else List.replicate n 32) ++ bt l n (b :: r))
  | _ => []
/-- the places grow, within the text -/
def okP (m : Nat) : List Wd → Prop
  | a :: b :: r => a.p ≤ b.p ∧ b.p ≤ m ∧ okP m (b :: r)
  | _ => True
theorem scanF_rep (j : Nat) (Y : List UInt8) (c : Nat) (acc : List Wd) : scanF (List.replicate j 32 ++ Y) c acc = scanF Y (c + j) acc := by
  induction j generalizing c with
  | zero => rfl
  | succ j ih =>
    rw [List.replicate_succ, List.cons_append, scanF_blank, ih, show c + 1 + j = c + (j + 1) by omega]
theorem take_blk (l : List UInt8) : l.take (blk l) = List.replicate (blk l) 32 := by
  induction l with
  | nil => rfl
  | cons c r ih =>
    by_cases h : c = 32
    · subst h
      rw [blk_succ, List.take_succ_cons, ih, List.replicate_succ]
    · rw [blk_zero (by simpa using h)]
      rfl
theorem head_rep {j : Nat} {X : List UInt8} (h : 0 < j) : (List.replicate j (32 : UInt8) ++ X).head? = some 32 := by
  obtain ⟨j', rfl⟩ : ∃ j', j = j' + 1 := ⟨j - 1, by omega⟩
  rw [List.replicate_succ]
  rfl
/-- what is scanned of a text, and of the same with blanks behind its words -/
theorem blanks_main (l : List UInt8) (n : Nat) : ∀ (f a : Nat) (acc M : List Wd) (z : Nat), l.length - a ≤ f → a ≤ l.length → (a < l.length → (l.drop a).headD 0 ≠ 32) → scanF (l.drop a) a acc = (some M, z) →
    ∃ L1 : List Wd, M = acc ++ L1 ∧ ((L1 ++ [endW l.length]).head?).map Wd.p = some a ∧ okP l.length (L1 ++ [endW l.length]) ∧ L1.length ≤ l.length - a ∧
      (bt l n (L1 ++ [endW l.length])).head? = (l.drop a).head? ∧ (bt l n (L1 ++ [endW l.length])).length ≤ l.length - a + n * L1.length ∧
      ∀ b acc', ∃ L2 : List Wd, scanF (bt l n (L1 ++ [endW l.length])) b acc' = (some (acc' ++ L2), 0) ∧ L2.map (fun x => (x.k, x.t)) = L1.map (fun x => (x.k, x.t)) := by
  intro f
  induction f with
  | zero =>
    intro a acc M z hf ha _ hs
    have e : a = l.length := by omega
    subst e
    rw [List.drop_length, scanF_nil] at hs
    simp only [Prod.mk.injEq, Option.some.injEq] at hs
    refine ⟨[], by simp [hs.1], rfl, trivial, by simp, by simp [bt], by simp [bt], fun b acc' => ⟨[], ?_, rfl⟩⟩
    simp [bt, scanF_nil]
  | succ f ih =>
    intro a acc M z hf ha hh hs
    by_cases hlt : a < l.length
    · have hne : l.drop a ≠ [] := by
        intro e
        have := congrArg List.length e
        simp at this
        omega
      have h32 := hh hlt
      obtain ⟨⟨k, t, m⟩, hw⟩ : ∃ q, wordF (l.drop a) = q := ⟨_, rfl⟩
      have hwl := word_len (l.drop a)
      rw [hw, List.length_drop] at hwl
      simp only at hwl
      by_cases hm : m = 0
      · subst hm
        rw [scanF_bad a acc hne h32 (by rw [hw])] at hs
        cases hs
      · rw [scanF_word a acc hne h32 (by rw [hw]; exact hm), hw] at hs
        simp only at hs
        rw [List.drop_drop, scanF_blk, List.drop_drop] at hs
        have hb := blk_le (l.drop (a + m))
        have htb := take_blk (l.drop (a + m))
        have hhb := head_blk (l.drop (a + m))
        rw [List.length_drop] at hb hhb
        rw [List.drop_drop] at hhb
        generalize hbb : blk (l.drop (a + m)) = bb at hs hb htb hhb
        obtain ⟨L1, hM, hp, hok, hlen, hhd, hbl, hsc⟩ := ih (a + m + bb) _ M z (by omega) (by omega) (fun h => hhb (by omega)) hs
        have eR : l.drop a = (l.drop a).take m ++ (List.replicate bb 32 ++ l.drop (a + m + bb)) := by
          have e1 := (List.take_append_drop m (l.drop a)).symm
          rw [List.drop_drop] at e1
          have e2 := (List.take_append_drop bb (l.drop (a + m))).symm
          rw [List.drop_drop, htb] at e2
          rw [← e2]
          exact e1
        obtain ⟨x, r, hxr⟩ : ∃ x r, L1 ++ [endW l.length] = x :: r := by
          cases L1 with
          | nil => exact ⟨_, _, rfl⟩
          | cons y L => exact ⟨_, _, rfl⟩
        have hxp : x.p = a + m + bb := by rw [hxr] at hp; simpa using hp
        have hbt : bt l n ((⟨k, t, a⟩ :: L1) ++ [endW l.length]) = (l.drop a).take m ++ (List.replicate bb 32 ++ ((if k = 4 then [] else List.replicate n 32) ++ bt l n (L1 ++ [endW l.length]))) := by
          rw [List.cons_append, hxr, bt, hxp, show a + m + bb - a = m + bb by omega, List.take_add, List.drop_drop, htb, List.append_assoc]
        have hWl : ((l.drop a).take m).length = m := by rw [List.length_take, List.length_drop]; omega
        have hpad : (if k = 4 then [] else List.replicate n (32 : UInt8)).length ≤ n := by split <;> simp
        refine ⟨⟨k, t, a⟩ :: L1, by rw [hM]; simp, rfl, ?_, by simp; omega, ?_, ?_, fun b acc' => ?_⟩
        · rw [List.cons_append, hxr]
          rw [hxr] at hok
          exact ⟨by rw [hxp]; simp; omega, by rw [hxp]; omega, hok⟩
        · rw [hbt]
          obtain ⟨m', rfl⟩ : ∃ m', m = m' + 1 := ⟨m - 1, by omega⟩
          cases hla : l.drop a with
          | nil => exact absurd hla hne
          | cons c q => rw [List.take_succ_cons]; rfl
        · rw [hbt, List.length_append, List.length_append, List.length_append, hWl, List.length_replicate, List.length_cons, Nat.mul_succ]
          omega
        · have hloc : wordF ((l.drop a).take m ++ (List.replicate bb 32 ++ ((if k = 4 then [] else List.replicate n 32) ++ bt l n (L1 ++ [endW l.length])))) = (k, t, m) := by
            refine word_loc hw hm ?_
            rw [List.drop_drop]
            have eD : l.drop (a + m) = List.replicate bb 32 ++ l.drop (a + m + bb) := by
              have e2 := (List.take_append_drop bb (l.drop (a + m))).symm
              rw [List.drop_drop, htb] at e2
              exact e2
            rw [eD]
            rcases Nat.eq_zero_or_pos bb with hb0 | hb0
            · rw [hb0, List.replicate_zero, List.nil_append, List.nil_append]
              by_cases h4 : k = 4
              · left
                rw [if_pos h4, List.nil_append, hhd, hb0]
              · rw [if_neg h4]
                rcases Nat.eq_zero_or_pos n with hn0 | hn0
                · left
                  rw [hn0] at hhd ⊢
                  rw [List.replicate_zero, List.nil_append, hhd, hb0]
                · right
                  exact ⟨h4, head_rep hn0⟩
            · left
              rw [head_rep hb0, head_rep hb0]
          rw [hbt]
          have hne2 : (l.drop a).take m ++ (List.replicate bb 32 ++ ((if k = 4 then [] else List.replicate n 32) ++ bt l n (L1 ++ [endW l.length]))) ≠ [] := by
            intro e
            have := congrArg List.length e
            rw [List.length_append, hWl] at this
            simp at this
            omega
          have hh2 : ((l.drop a).take m ++ (List.replicate bb 32 ++ ((if k = 4 then [] else List.replicate n 32) ++ bt l n (L1 ++ [endW l.length])))).headD 0 ≠ 32 := by
            obtain ⟨m', rfl⟩ : ∃ m', m = m' + 1 := ⟨m - 1, by omega⟩
            cases hla : l.drop a with
            | nil => exact absurd hla hne
            | cons c q =>
              rw [hla] at h32
              rw [List.take_succ_cons]
              exact h32
          rw [scanF_word b acc' hne2 hh2 (by rw [hloc]; exact hm), hloc]
          simp only
          rw [List.drop_append_of_le_length (by omega), List.drop_of_length_le (by omega), List.nil_append, scanF_rep]
          have hrep : (if k = 4 then [] else List.replicate n (32 : UInt8)) = List.replicate (if k = 4 then 0 else n) 32 := by split <;> rfl
          rw [hrep, scanF_rep]
          obtain ⟨L2, h1, h2⟩ := hsc (b + m + bb + if k = 4 then 0 else n) (acc' ++ [⟨k, t, b⟩])
          refine ⟨⟨k, t, b⟩ :: L2, ?_, by simp [h2]⟩
          rw [h1]
          simp
    · have e : a = l.length := by omega
      subst e
      rw [List.drop_length, scanF_nil] at hs
      simp only [Prod.mk.injEq, Option.some.injEq] at hs
      refine ⟨[], by simp [hs.1], rfl, trivial, by simp, by simp [bt], by simp [bt], fun b acc' => ⟨[], ?_, rfl⟩⟩
      simp [bt, scanF_nil]
end Go.Proofs.YtkipbcimjmialaaDoor
