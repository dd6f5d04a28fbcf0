/- The order of values, plainly: it goes both ways and through. -/
import Derived.Test.YtfjpdopmojfchaaGreatDoorV7
import Derived.Test.YtfjpdopmojfchaaGreatDoorV5
namespace Go.Proofs.YtfjpdopmojfchaaGreatDoor
open Go
set_option linter.unusedVariables false
set_option linter.unusedSimpArgs false
theorem bl_cons (a b : UInt8) (x y : List UInt8) : Op.bytesLess (a :: x) (b :: y) = true ↔ a.toNat < b.toNat ∨ (a = b ∧ Op.bytesLess x y = true) := by
  have e : Op.bytesLess (a :: x) (b :: y) = (decide (a < b) || (a == b && Op.bytesLess x y)) := rfl
  rw [e]
  simp [UInt8.lt_iff_toNat_lt]
theorem bl_irrefl : ∀ s : List UInt8, Op.bytesLess s s = false
  | [] => rfl
  | a :: s => by
    cases h : Op.bytesLess (a :: s) (a :: s) with
    | false => rfl
    | true =>
      rcases (bl_cons _ _ _ _).1 h with h | ⟨_, h⟩
      · omega
      · rw [bl_irrefl s] at h; cases h
theorem bl_nil (s : List UInt8) : Op.bytesLess s [] = false := by cases s <;> rfl
theorem bl_trans : ∀ {s t u : List UInt8}, Op.bytesLess s t = true → Op.bytesLess t u = true → Op.bytesLess s u = true
  | _, [], _, h, _ => by rw [bl_nil] at h; cases h
  | _, _ :: _, [], _, h => by rw [bl_nil] at h; cases h
  | [], _ :: _, _ :: _, _, _ => rfl
  | a :: s, b :: t, c :: u, h, g => by
    rw [bl_cons] at *
    rcases h with h | ⟨rfl, h⟩
    · rcases g with g | ⟨rfl, g⟩
      · exact .inl (by omega)
      · exact .inl h
    · rcases g with g | ⟨rfl, g⟩
      · exact .inl g
      · exact .inr ⟨rfl, bl_trans h g⟩
theorem bl_tri : ∀ {s t : List UInt8}, Op.bytesLess s t = false → s ≠ t → Op.bytesLess t s = true
  | [], [], _, h => absurd rfl h
  | [], _ :: _, h, _ => by cases h
  | _ :: _, [], _, _ => rfl
  | a :: s, b :: t, h, g => by
    rw [bl_cons]
    have h' : ¬ (a.toNat < b.toNat ∨ (a = b ∧ Op.bytesLess s t = true)) := fun x => by rw [(bl_cons _ _ _ _).2 x] at h; cases h
    by_cases e : a = b
    · subst e
      refine .inr ⟨rfl, bl_tri ?_ ?_⟩
      · cases hh : Op.bytesLess s t with
        | false => rfl
        | true => exact absurd (.inr ⟨rfl, hh⟩) h'
      · intro e; exact g (by rw [e])
    · left
      have : a.toNat ≠ b.toNat := fun x => e (UInt8.toNat_inj.1 x)
      have : ¬ a.toNat < b.toNat := fun x => h' (.inl x)
      omega
theorem bl_asymm {s t : List UInt8} (h : Op.bytesLess s t = true) : Op.bytesLess t s = false := by
  cases g : Op.bytesLess t s with
  | false => rfl
  | true => have := bl_trans h g; rw [bl_irrefl] at this; cases this
/-- -1, 0 or 1, as an order has it -/
structure Cmp {α : Type} (c : α → α → Int) : Prop where
  refl : ∀ a, c a a = 0
  eq : ∀ {a b}, c a b = 0 → a = b
  anti : ∀ a b, c b a = - c a b
  trans : ∀ {a b d}, c a b ≤ 0 → c b d ≤ 0 → c a d ≤ 0
theorem cmpI_c : Cmp cmpI := by
  constructor
  · intro a; unfold cmpI; rw [if_neg (by omega), if_neg (by omega)]
  · intro a b h; unfold cmpI at h; split at h; cases h; split at h; cases h; omega
  · intro a b; unfold cmpI; repeat' split
    all_goals omega
  · intro a b d h g; unfold cmpI at *
    repeat' split at h
    all_goals repeat' split at g
    all_goals repeat' split
    all_goals omega
theorem cmpT_c : Cmp cmpT := by
  constructor
  · intro a; unfold cmpT; rw [bl_irrefl]; simp
  · intro a b h
    unfold cmpT at h
    split at h
    · cases h
    · split at h
      · assumption
      · cases h
  · intro a b
    unfold cmpT
    by_cases e : a = b
    · subst e; rw [bl_irrefl]; simp
    · cases h : Op.bytesLess a b with
      | true => rw [bl_asymm h]; simp [Ne.symm e]
      | false => rw [bl_tri h e]; simp [e]
  · intro a b d h g
    unfold cmpT at *
    by_cases e : a = b
    · subst e; exact g
    · by_cases e' : b = d
      · subst e'; exact h
      · rw [if_neg e] at h
        rw [if_neg e'] at g
        cases ha : Op.bytesLess a b with
        | false => rw [ha] at h; simp at h
        | true =>
          cases hb : Op.bytesLess b d with
          | false => rw [hb] at g; simp at g
          | true => rw [bl_trans ha hb]; simp
theorem cmpTn_c : Cmp (fun a b : Bool => cmpI (tn a) (tn b)) := by
  constructor
  · intro a; exact cmpI_c.refl _
  · intro a b h; have := cmpI_c.eq h; cases a <;> cases b <;> simp [tn] at this ⊢
  · intro a b; exact cmpI_c.anti _ _
  · intro a b d h g; exact cmpI_c.trans h g
/-- one order, and another one behind it -/
def lexC {α β : Type} (c : α → α → Int) (d : β → β → Int) (x y : α × β) : Int := if c x.1 y.1 = 0 then d x.2 y.2 else c x.1 y.1
theorem lex_c {α β : Type} {c : α → α → Int} {d : β → β → Int} (hc : Cmp c) (hd : Cmp d) : Cmp (lexC c d) := by
  constructor
  · intro a; unfold lexC; rw [if_pos (hc.refl _)]; exact hd.refl _
  · rintro ⟨a, a'⟩ ⟨b, b'⟩ h
    unfold lexC at h
    split at h
    · rename_i h1
      have e1 := hc.eq h1
      have e2 := hd.eq h
      simp only at e1 e2
      rw [e1, e2]
    · rename_i h1; exact absurd h h1
  · rintro ⟨a, a'⟩ ⟨b, b'⟩
    unfold lexC
    simp only
    by_cases h : c a b = 0
    · rw [if_pos h, if_pos (by rw [hc.anti a b, h]; rfl)]; exact hd.anti _ _
    · rw [if_neg h, if_neg (by rw [hc.anti a b]; omega)]; exact hc.anti _ _
  · rintro ⟨a, a'⟩ ⟨b, b'⟩ ⟨e, e'⟩ h g
    unfold lexC at *
    simp only at *
    by_cases h1 : c a b = 0
    · have := hc.eq h1
      subst this
      rw [if_pos h1] at h
      by_cases g1 : c a e = 0
      · rw [if_pos g1] at g ⊢; exact hd.trans h g
      · rw [if_neg g1] at g ⊢; exact g
    · rw [if_neg h1] at h
      by_cases g1 : c b e = 0
      · have := hc.eq g1
        subst this
        rw [if_neg h1]; exact h
      · rw [if_neg g1] at g
        have ht := hc.trans h g
        have h0 : c a e ≠ 0 := fun z => by
          have := hc.eq z
          subst this
          have := hc.anti a b
          omega
        rw [if_neg h0]; exact ht
abbrev V5 := Int × Int × List UInt8 × Bool × Int
def cmp5 : V5 → V5 → Int := lexC cmpI (lexC cmpI (lexC cmpT (lexC (fun a b : Bool => cmpI (tn a) (tn b)) cmpI)))
theorem cmp5_c : Cmp cmp5 := lex_c cmpI_c (lex_c cmpI_c (lex_c cmpT_c (lex_c cmpTn_c cmpI_c)))
theorem cmp5_or (k n : Int) (t : List UInt8) (b : Bool) (e : Int) (k' n' : Int) (t' : List UInt8) (b' : Bool) (e' : Int) :
    orI [cmpI k k', cmpI n n', cmpT t t', cmpI (tn b) (tn b'), cmpI e e'] = cmp5 (k, n, t, b, e) (k', n', t', b', e') := by
  unfold cmp5 lexC
  simp only [orI]
  by_cases h5 : cmpI e e' = 0
  · simp [h5]
  · simp [h5]
def may5 (x : V5) : Bool := mayB x.1 x.2.1 x.2.2.1 x.2.2.2.1 x.2.2.2.2
/-- the order of two values -/
def cv (x y : V5) : Int := cmpV x.1 x.2.1 x.2.2.1 x.2.2.2.1 x.2.2.2.2 y.1 y.2.1 y.2.2.1 y.2.2.2.1 y.2.2.2.2
theorem cv_eq (x y : V5) : cv x y = if may5 x && may5 y then cmp5 x y else cmpI (tn (!may5 x)) (tn (!may5 y)) := by
  unfold cv cmpV
  rw [cmp5_or]
  rfl
theorem cv_refl (x : V5) : cv x x = 0 := by
  rw [cv_eq]
  cases may5 x
  · rfl
  · exact cmp5_c.refl x
theorem cv_anti (x y : V5) : cv y x = - cv x y := by
  rw [cv_eq, cv_eq]
  cases may5 x <;> cases may5 y
  · rfl
  · rfl
  · rfl
  · exact cmp5_c.anti x y
theorem cv_nt {x y : V5} (h : may5 x = false) (g : may5 y = true) : cv x y = 1 := by rw [cv_eq, h, g]; rfl
theorem cv_tn {x y : V5} (h : may5 x = true) (g : may5 y = false) : cv x y = -1 := by rw [cv_eq, h, g]; rfl
theorem cv_nn {x y : V5} (h : may5 x = false) (g : may5 y = false) : cv x y = 0 := by rw [cv_eq, h, g]; rfl
theorem cv_tt {x y : V5} (h : may5 x = true) (g : may5 y = true) : cv x y = cmp5 x y := by rw [cv_eq, h, g]; rfl
theorem cv_trans {x y z : V5} (h : cv x y ≤ 0) (g : cv y z ≤ 0) : cv x z ≤ 0 := by
  cases hy : may5 y with
  | false =>
    cases hz : may5 z with
    | true => rw [cv_nt hy hz] at g; omega
    | false =>
      cases hx : may5 x with
      | true => rw [cv_tn hx hz]; omega
      | false => rw [cv_nn hx hz]; omega
  | true =>
    cases hx : may5 x with
    | false => rw [cv_nt hx hy] at h; omega
    | true =>
      cases hz : may5 z with
      | false => rw [cv_tn hx hz]; omega
      | true =>
        rw [cv_tt hx hy] at h
        rw [cv_tt hy hz] at g
        rw [cv_tt hx hz]
        exact cmp5_c.trans h g

/-! ### by kinds -/
theorem cmpV_ff {k n : Int} {t : List UInt8} {b : Bool} {e k' n' : Int} {t' : List UInt8} {b' : Bool} {e' : Int} (h : mayB k n t b e = false) (h' : mayB k' n' t' b' e' = false) : 0 = cmpV k n t b e k' n' t' b' e' := by
  unfold cmpV; rw [h, h']; rfl
theorem cmpV_ft {k n : Int} {t : List UInt8} {b : Bool} {e k' n' : Int} {t' : List UInt8} {b' : Bool} {e' : Int} (h : mayB k n t b e = false) (h' : mayB k' n' t' b' e' = true) : 1 = cmpV k n t b e k' n' t' b' e' := by
  unfold cmpV; rw [h, h']; rfl
theorem cmpV_tf {k n : Int} {t : List UInt8} {b : Bool} {e k' n' : Int} {t' : List UInt8} {b' : Bool} {e' : Int} (h : mayB k n t b e = true) (h' : mayB k' n' t' b' e' = false) : -1 = cmpV k n t b e k' n' t' b' e' := by
  unfold cmpV; rw [h, h']; rfl
theorem cmpV_ne {k n : Int} {t : List UInt8} {b : Bool} {e k' n' : Int} {t' : List UInt8} {b' : Bool} {e' : Int} (h : mayB k n t b e = true) (h' : mayB k' n' t' b' e' = true) (hk : k ≠ k') : cmpI k k' = cmpV k n t b e k' n' t' b' e' := by
  unfold cmpV; rw [h, h']
  have : cmpI k k' ≠ 0 := fun z => hk (cmpI_c.eq z)
  simp [orI, this]
theorem may_lo {k n : Int} {t : ByteArray} {b : Bool} {e : Int} (h : mayB k n t.toList b e = true) : 0 ≤ k ∧ k ≤ 4 := by
  rcases vk_of h with ⟨rfl, _⟩ | ⟨rfl, _⟩ | ⟨rfl, _⟩ | ⟨rfl, _⟩ | ⟨rfl, _⟩ <;> omega
theorem orI_z (l : List Int) : orI (0 :: l) = orI l := rfl
theorem orI_last (a : Int) : orI (a :: 0 :: 0 :: []) = a := by simp only [orI]; by_cases h : a = 0 <;> simp [h]
theorem orI_1 (a : Int) : orI [a] = a := by simp only [orI]; by_cases h : a = 0 <;> simp [h]
theorem orI_2 (a : Int) : orI [a, 0] = a := by simp only [orI]; by_cases h : a = 0 <;> simp [h]
theorem orI_4 (a : Int) : orI [a, 0, 0, 0] = a := by simp only [orI]; by_cases h : a = 0 <;> simp [h]
theorem cI (a : Int) : cmpI a a = 0 := cmpI_c.refl a
theorem cT (a : List UInt8) : cmpT a a = 0 := cmpT_c.refl a
theorem cmpV_0 {n : Int} {t : ByteArray} {b : Bool} {e n' : Int} {t' : ByteArray} {b' : Bool} {e' : Int} (h : mayB 0 n t.toList b e = true) (h' : mayB 0 n' t'.toList b' e' = true) : 0 = cmpV 0 n t.toList b e 0 n' t'.toList b' e' := by
  unfold cmpV; rw [h, h']
  obtain ⟨rfl, rfl, rfl, rfl⟩ := vk0 (vk_of h)
  obtain ⟨rfl, rfl, rfl, rfl⟩ := vk0 (vk_of h')
  rw [cI, cT, cI, cI]; rfl
theorem cmpV_1 {n : Int} {t : ByteArray} {b : Bool} {e n' : Int} {t' : ByteArray} {b' : Bool} {e' : Int} (h : mayB 1 n t.toList b e = true) (h' : mayB 1 n' t'.toList b' e' = true) : cmpI n n' = cmpV 1 n t.toList b e 1 n' t'.toList b' e' := by
  unfold cmpV; rw [h, h']
  obtain ⟨rfl, rfl, rfl⟩ := vk1 (vk_of h)
  obtain ⟨rfl, rfl, rfl⟩ := vk1 (vk_of h')
  rw [cI 1, cT, cI (tn false), cI 0]; exact (orI_4 _).symm
theorem cmpV_2 {n : Int} {t : ByteArray} {b : Bool} {e n' : Int} {t' : ByteArray} {b' : Bool} {e' : Int} (h : mayB 2 n t.toList b e = true) (h' : mayB 2 n' t'.toList b' e' = true) : cmpT t.toList t'.toList = cmpV 2 n t.toList b e 2 n' t'.toList b' e' := by
  unfold cmpV; rw [h, h']
  obtain ⟨rfl, rfl, rfl, _⟩ := vk2 (vk_of h)
  obtain ⟨rfl, rfl, rfl, _⟩ := vk2 (vk_of h')
  rw [cI 2, cI 0, cI (tn false)]; exact (orI_last _).symm
theorem cmpV_3 {n : Int} {t : ByteArray} {b : Bool} {e n' : Int} {t' : ByteArray} {b' : Bool} {e' : Int} (h : mayB 3 n t.toList b e = true) (h' : mayB 3 n' t'.toList b' e' = true) : cmpI (tn b) (tn b') = cmpV 3 n t.toList b e 3 n' t'.toList b' e' := by
  unfold cmpV; rw [h, h']
  obtain ⟨rfl, rfl, rfl⟩ := vk3 (vk_of h)
  obtain ⟨rfl, rfl, rfl⟩ := vk3 (vk_of h')
  rw [cI 3, cI 0, cT]; exact (orI_2 _).symm
theorem cmpV_4 {n : Int} {t : ByteArray} {b : Bool} {e n' : Int} {t' : ByteArray} {b' : Bool} {e' : Int} (h : mayB 4 n t.toList b e = true) (h' : mayB 4 n' t'.toList b' e' = true) : cmpI e e' = cmpV 4 n t.toList b e 4 n' t'.toList b' e' := by
  unfold cmpV; rw [h, h']
  obtain ⟨rfl, rfl, rfl⟩ := vk4 (vk_of h)
  obtain ⟨rfl, rfl, rfl⟩ := vk4 (vk_of h')
  rw [cI 4, cI 0, cT, cI (tn false)]; exact (orI_1 _).symm
end Go.Proofs.YtfjpdopmojfchaaGreatDoor
