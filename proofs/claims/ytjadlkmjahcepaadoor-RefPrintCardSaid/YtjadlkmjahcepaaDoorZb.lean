/- What is printed of a reference is read again; the next column's name, plainly. -/
import Derived.Test.YtjadlkmjahcepaaDoorG0
namespace Go.Proofs.YtjadlkmjahcepaaDoor
open Go
set_option linter.unusedVariables false
set_option linter.unusedSimpArgs false

theorem numF_all {l : List UInt8} {m : Nat} (h : numF l m = true) : allD l = true := by
  unfold numF at h
  simp only [Bool.and_eq_true] at h
  exact h.1.2
/-- an id has no sign ! -/
theorem id_no33 {l : List UInt8} (h : idB l = true) : (33 : UInt8) ∉ l := by
  unfold idB at h
  have h' := of_decide_eq_true h
  unfold ownK at h'
  split at h'
  · rename_i hp
    have e1 : l = 99 :: Lib.trimPrefix l [99] := by
      match l, hp with
      | [], hp => unfold Lib.hasPrefix at hp; simp at hp
      | c :: l, hp =>
        have hc : c = 99 := by
          have h2 := hp
          unfold Lib.hasPrefix at h2
          simp at h2
          exact h2.symm
        unfold Lib.trimPrefix
        rw [if_pos hp, hc]
        rfl
    generalize Lib.trimPrefix l [99] = t at *
    rcases cut_any 110 t with ⟨a, b, rfl, hn⟩ | hn
    · rw [cut_at 110 a b hn] at h'
      unfold ownP at h'
      cases ha : numF a 15 with
      | false => rw [ha] at h'; simp at h'
      | true =>
        cases hb : numF b 999999 with
        | false => rw [ha, hb] at h'; simp at h'
        | true =>
          have da := numF_all ha
          have db := numF_all hb
          rw [e1]
          intro hm
          simp only [List.mem_cons, List.mem_append] at hm
          have e33 : (33 : UInt8).toNat = 33 := rfl
          rcases hm with hm | hm | hm | hm
          · exact absurd hm (by decide)
          · have := allD_mem da hm; omega
          · exact absurd hm (by decide)
          · have := allD_mem db hm; omega
    · rw [cut_free 110 t hn] at h'
      unfold ownP at h'
      simp at h'
  · omega

theorem tw_app (a r : List UInt8) (ha : allL a = true) (hr : ∀ c x, r = c :: x → let1 c = false) : (a ++ r).takeWhile let1 = a ∧ (a ++ r).dropWhile let1 = r := by
  match r, hr with
  | [], _ =>
    rw [List.append_nil, ← take_lead, ← drop_lead, lead_all a ha, List.take_length, List.drop_length]
    exact ⟨rfl, rfl⟩
  | c :: r, hr =>
    rw [← take_lead, ← drop_lead, lead_at a r c ha (hr c r rfl)]
    exact ⟨by rw [List.take_left], by rw [List.drop_left]⟩

theorem no33_L {l : List UInt8} (h : allL l = true) : (33 : UInt8) ∉ l := fun hm => by
  have := allL_mem h hm
  have e : (33 : UInt8).toNat = 33 := rfl
  omega
theorem no33_D {l : List UInt8} (h : allD l = true) : (33 : UInt8) ∉ l := fun hm => by
  have := allD_mem h hm
  have e : (33 : UInt8).toNat = 33 := rfl
  omega
theorem no33_S (b : Bool) : (33 : UInt8) ∉ sgL b := by cases b <;> decide
theorem hp_sg (b : Bool) (r : List UInt8) (hr : ∀ c x, r = c :: x → c ≠ 36) : Lib.hasPrefix (sgL b ++ r) [36] = b ∧ Lib.trimPrefix (sgL b ++ r) [36] = r := by
  cases b
  · have e : sgL false ++ r = r := rfl
    rw [e]
    have hp : Lib.hasPrefix r [36] = false := by
      unfold Lib.hasPrefix
      match r, hr with
      | [], _ => rfl
      | c :: r, hr =>
        have h36 := hr c r rfl
        show ((36 : UInt8) == c && List.isPrefixOf [] r) = false
        rw [beq_eq_false_iff_ne.2 (Ne.symm h36)]
        rfl
    refine ⟨hp, ?_⟩
    unfold Lib.trimPrefix
    rw [hp]
    rfl
  · have e : sgL true ++ r = 36 :: r := rfl
    rw [e]
    have hp : Lib.hasPrefix (36 :: r) [36] = true := by unfold Lib.hasPrefix; simp
    refine ⟨hp, ?_⟩
    unfold Lib.trimPrefix
    rw [hp]
    rfl
theorem dec_cons (u : Nat) : ∃ c x, Lib.decDigits u = c :: x ∧ 48 ≤ c.toNat ∧ c.toNat ≤ 57 := by
  have h1 := dec_ne u
  have h2 := dec_all u
  match e : Lib.decDigits u with
  | [] => exact absurd e h1
  | c :: x =>
    rw [e] at h2
    exact ⟨c, x, rfl, allD_mem h2 (by simp)⟩
theorem nm_cons (u : Nat) (h : 0 < u) : ∃ c x, nmL u = c :: x ∧ 65 ≤ c.toNat ∧ c.toNat ≤ 90 := by
  have h1 := nm_ne u h
  have h2 := nm_all u
  match e : nmL u with
  | [] => exact absurd e h1
  | c :: x =>
    rw [e] at h2
    exact ⟨c, x, rfl, allL_mem h2 (by simp)⟩
/-- the text behind the sheet's: what is read of it -/
theorem tail_read (sh : List UInt8) (row col : Int) (ra ca : Bool) (r0 : 0 ≤ row) (r1 : row < 2199023255552) (c0 : 0 ≤ col) (c1 : col < 2199023255552) :
    tailF (sgL ca ++ (cnL col ++ (sgL ra ++ Lib.decDigits (row + 1).toNat))) = true ∧ tailT sh (sgL ca ++ (cnL col ++ (sgL ra ++ Lib.decDigits (row + 1).toNat))) = (sh, row, col, ra, ca) := by
  have ecn : cnL col = nmL (col + 1).toNat := by unfold cnL; rw [if_pos ⟨c0, c1⟩]
  rw [ecn]
  obtain ⟨d, dx, ed, d0, d1⟩ := dec_cons (row + 1).toNat
  obtain ⟨n, nx, en, n0, n1⟩ := nm_cons (col + 1).toNat (by omega)
  have a1 := hp_sg ca (nmL (col + 1).toNat ++ (sgL ra ++ Lib.decDigits (row + 1).toNat)) (by
    intro c x e
    rw [en, List.cons_append] at e
    have e2 := (List.cons.inj e).1
    rw [← e2]
    intro h
    rw [h] at n0
    exact absurd n0 (by decide))
  have a3 := hp_sg ra (Lib.decDigits (row + 1).toNat) (by
    intro c x e
    rw [ed] at e
    have e2 := (List.cons.inj e).1
    rw [← e2]
    intro h
    rw [h] at d0
    exact absurd d0 (by decide))
  have a2 := tw_app (nmL (col + 1).toNat) (sgL ra ++ Lib.decDigits (row + 1).toNat) (nm_all _) (by
    intro c x e
    cases ra
    · have e' : Lib.decDigits (row + 1).toNat = c :: x := e
      rw [ed] at e'
      have e2 := (List.cons.inj e').1
      rw [← e2]
      unfold let1
      simp
      omega
    · have e' : 36 :: Lib.decDigits (row + 1).toNat = c :: x := e
      have e2 := (List.cons.inj e').1
      rw [← e2]
      decide)
  unfold tailF tailT
  rw [a1.1, a1.2, a2.1, a2.2, a3.1, a3.2, nm_colF _ (by omega) (by omega), dec_numF _ _ (by omega) (by omega), dec_val, nm_val, decide_eq_true (by omega)]
  refine ⟨rfl, ?_⟩
  have x1 : (((row + 1).toNat : Nat) : Int) - 1 = row := by omega
  have x2 : (((col + 1).toNat : Nat) : Int) - 1 = col := by omega
  rw [x1, x2]
theorem cn_all (n : Int) : allL (cnL n) = true := by
  unfold cnL
  split
  · exact nm_all _
  · rfl
/-- what is printed is read again -/
theorem read_yes (sh : List UInt8) (row col : Int) (ra ca : Bool) (h : mayR sh row col = true) :
    refF (prR sh row col ra ca) = true ∧ refT (prR sh row col ra ca) = (sh, row, col, ra, ca) := by
  have h' := h
  unfold mayR at h'
  simp only [Bool.and_eq_true, decide_eq_true_eq] at h'
  obtain ⟨hi, ⟨r0, r1⟩, c0, c1⟩ := h'
  have e : prR sh row col ra ca = shX sh ++ (sgL ca ++ (cnL col ++ (sgL ra ++ Lib.decDigits (row + 1).toNat))) := by
    unfold prR prL
    rw [h]
    simp only [if_true, List.append_assoc]
  rw [e]
  have ht := tail_read sh row col ra ca r0 r1 c0 c1
  have hno : (33 : UInt8) ∉ sgL ca ++ (cnL col ++ (sgL ra ++ Lib.decDigits (row + 1).toNat)) := by
    simp only [List.mem_append]
    intro hm
    rcases hm with hm | hm | hm | hm
    · exact no33_S ca hm
    · exact no33_L (cn_all col) hm
    · exact no33_S ra hm
    · exact no33_D (dec_all _) hm
  generalize sgL ca ++ (cnL col ++ (sgL ra ++ Lib.decDigits (row + 1).toNat)) = c at *
  cases he : sh.isEmpty
  · have hi' : idB sh = true := by rw [he] at hi; simpa using hi
    have ex : shX sh ++ c = sh ++ 33 :: c := by unfold shX; rw [he]; simp
    rw [ex]
    obtain ⟨f1, f2⟩ := ref_other (cut_at 33 sh c (id_no33 hi'))
    rw [f1, f2, hi', ht.1]
    exact ⟨rfl, ht.2⟩
  · have hs : sh = [] := by cases sh; rfl; cases he
    subst hs
    have ex : shX [] ++ c = c := rfl
    rw [ex]
    obtain ⟨f1, f2⟩ := ref_free (cut_free 33 c hno)
    rw [f1, f2, ht.1]
    exact ⟨rfl, ht.2⟩
theorem read_no (sh : List UInt8) (row col : Int) (ra ca : Bool) (h : mayR sh row col = false) : prR sh row col ra ca = [] ∧ refF [] = false := by
  refine ⟨?_, by decide +kernel⟩
  unfold prR
  rw [h]
  rfl
/-- a column's name is read again as that column -/
theorem col_read (n : Int) : colF (cnL n) = decide (0 ≤ n ∧ n < 2199023255552) ∧ (0 ≤ n ∧ n < 2199023255552 → colK (cnL n) = n) := by
  by_cases h : 0 ≤ n ∧ n < 2199023255552
  · have e : cnL n = nmL (n + 1).toNat := by unfold cnL; rw [if_pos h]
    have f := nm_colF (n + 1).toNat (by omega) (by omega)
    rw [e, f, decide_eq_true h]
    refine ⟨rfl, fun _ => ?_⟩
    unfold colK
    rw [f, nm_val]
    simp only [if_true]
    omega
  · have e : cnL n = [] := by unfold cnL; rw [if_neg h]
    rw [e, decide_eq_false h]
    exact ⟨rfl, fun g => absurd g h⟩
end Go.Proofs.YtjadlkmjahcepaaDoor
