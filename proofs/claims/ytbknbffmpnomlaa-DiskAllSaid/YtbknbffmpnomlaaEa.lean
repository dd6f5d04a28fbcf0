/- What the reference says of files, plainly. -/
import Derived.Test.YtbknbffmpnomlaaDp
namespace Go.Proofs.Ytbknbffmpnomlaa
open Go.RowKit
set_option linter.unusedVariables false
set_option linter.unusedSimpArgs false

/-- what was done -/
structure Re where
  k : Int
  x : ByteArray
  y : ByteArray
  L : List UInt8
abbrev Fl := List (ByteArray × List UInt8)
def look : Fl → Fs
  | [], _ => none
  | e :: l, x => if e.1 = x then some e.2 else look l x
def wo (l : Fl) (x : ByteArray) : Fl := l.filter fun e => decide (e.1 ≠ x)
def stp (l : Fl) (d : Re) : Fl :=
  if d.k = 0 then wo l d.x ++ [(d.x, gd (look l) d.x ++ d.L)]
  else if d.k = 1 then wo l d.x ++ [(d.x, [])]
  else if d.k = 2 then (if (look l d.x).isSome then wo (wo l d.x) d.y ++ [(d.y, gd (look l) d.x)] else l)
  else wo l d.x
def rf (R : List Re) : Fl := R.foldl stp []
def ru1 (d : Re) : Nat := if d.k = 0 then d.L.length else 1
def ru : List Re → Nat
  | [] => 0
  | d :: R => ru1 d + ru R
def rcut : List Re → Nat → List Re
  | [], _ => []
  | d :: R, n => if n = 0 then [] else if d.k = 0 then ⟨d.k, d.x, d.y, d.L.take n⟩ :: rcut R (n - (d.L.take n).length) else d :: rcut R (n - 1)
theorem rcut_cons (d : Re) (R : List Re) (n : Nat) : rcut (d :: R) n = if n = 0 then [] else if d.k = 0 then ⟨d.k, d.x, d.y, d.L.take n⟩ :: rcut R (n - (d.L.take n).length) else d :: rcut R (n - 1) := rfl
theorem ru_cons (d : Re) (R : List Re) : ru (d :: R) = ru1 d + ru R := rfl
theorem look_wo (l : Fl) (x : ByteArray) : look (wo l x) = upd (look l) x none := by
  funext y
  induction l with
  | nil =>
    show none = upd (fun _ => none) x none y
    unfold upd
    split <;> rfl
  | cons e l ih =>
    unfold wo at ih ⊢
    by_cases h : e.1 = x
    · rw [List.filter_cons_of_neg (by simp [h]), ih]
      unfold upd
      by_cases hy : y = x
      · rw [if_pos hy, if_pos hy]
      · rw [if_neg hy, if_neg hy]
        show _ = if e.1 = y then some e.2 else look l y
        rw [if_neg (fun he => hy (he.symm.trans h))]
    · rw [List.filter_cons_of_pos (by simp [h])]
      show (if e.1 = y then some e.2 else look _ y) = _
      rw [ih]
      unfold upd
      by_cases hy : y = x
      · rw [if_pos hy, if_pos hy, if_neg (fun he => h (he.trans hy))]
      · rw [if_neg hy, if_neg hy]
        rfl
theorem look_snoc (l : Fl) (x : ByteArray) (b : List UInt8) (h : look l x = none) : look (l ++ [(x, b)]) = upd (look l) x (some b) := by
  funext y
  induction l with
  | nil =>
    show (if x = y then some b else none) = upd (fun _ => none) x (some b) y
    unfold upd
    by_cases hy : y = x
    · rw [if_pos hy, if_pos hy.symm]
    · rw [if_neg hy, if_neg (fun h => hy h.symm)]
  | cons e l ih =>
    have h : (if e.1 = x then some e.2 else look l x) = none := h
    have hx : e.1 ≠ x := fun k => by rw [if_pos k] at h; cases h
    rw [if_neg hx] at h
    show (if e.1 = y then some e.2 else look (l ++ [(x, b)]) y) = _
    rw [ih h]
    unfold upd
    show _ = if y = x then some b else if e.1 = y then some e.2 else look l y
    by_cases hy : e.1 = y
    · rw [if_pos hy, if_pos hy, if_neg (fun k => hx (hy.trans k))]
    · rw [if_neg hy, if_neg hy]
theorem look_put (l : Fl) (x : ByteArray) (b : List UInt8) : look (wo l x ++ [(x, b)]) = upd (look l) x (some b) := by
  rw [look_snoc _ _ _ (by rw [look_wo, upd_same]), look_wo]
  funext y
  unfold upd
  split <;> rfl
/-- each is found -/
def Uq (l : Fl) : Prop := ∀ e ∈ l, look l e.1 = some e.2
theorem uq_wo {l : Fl} (h : Uq l) (x : ByteArray) : Uq (wo l x) := fun e he => by
  obtain ⟨h1, h2⟩ := List.mem_filter.1 he
  rw [look_wo, upd_other _ _ (by simpa using h2)]
  exact h e h1
theorem uq_put {l : Fl} (h : Uq l) (x : ByteArray) (b : List UInt8) : Uq (wo l x ++ [(x, b)]) := fun e he => by
  rw [look_put]
  rcases List.mem_append.1 he with he | he
  · obtain ⟨h1, h2⟩ := List.mem_filter.1 he
    rw [upd_other _ _ (by simpa using h2)]
    exact h e h1
  · obtain rfl : e = (x, b) := by simpa using he
    rw [upd_same]
theorem uq_stp {l : Fl} (h : Uq l) (d : Re) : Uq (stp l d) := by
  unfold stp
  split
  · exact uq_put h _ _
  · split
    · exact uq_put h _ _
    · split
      · split
        · exact uq_put (uq_wo h _) _ _
        · exact h
      · exact uq_wo h _
theorem uq_fold (R : List Re) : ∀ l, Uq l → Uq (R.foldl stp l) := by
  induction R with
  | nil => exact fun l h => h
  | cons d R ih => exact fun l h => ih _ (uq_stp h d)
theorem uq_rf (R : List Re) : Uq (rf R) := uq_fold R [] (fun e h => by cases h)
theorem rf_snoc (R : List Re) (d : Re) : rf (R ++ [d]) = stp (rf R) d := by unfold rf; rw [List.foldl_append]; rfl
theorem ru_app (R T : List Re) : ru (R ++ T) = ru R + ru T := by
  induction R with
  | nil => simp [ru]
  | cons d R ih =>
    show ru1 d + ru (R ++ T) = ru1 d + ru R + ru T
    omega
theorem rcut_zero (R : List Re) : rcut R 0 = [] := by cases R <;> simp [rcut]
theorem rcut_app (R T : List Re) : ∀ n, rcut (R ++ T) n = rcut R n ++ rcut T (n - ru R) := by
  induction R with
  | nil => intro n; simp [rcut, ru]
  | cons d R ih =>
    intro n
    by_cases h0 : n = 0
    · subst h0
      rw [rcut_zero, rcut_zero, Nat.zero_sub, rcut_zero]
      rfl
    · show rcut (d :: (R ++ T)) n = _
      rw [rcut_cons, rcut_cons, ru_cons, if_neg h0, if_neg h0]
      unfold ru1
      by_cases hk : d.k = 0
      · rw [if_pos hk, if_pos hk, if_pos hk, ih]
        have e : n - (List.take n d.L).length - ru R = n - (d.L.length + ru R) := by rw [List.length_take]; omega
        rw [e]
        rfl
      · rw [if_neg hk, if_neg hk, if_neg hk, ih]
        have e : n - 1 - ru R = n - (1 + ru R) := by omega
        rw [e]
        rfl
def K0 (R : List Re) : Prop := ∀ d ∈ R, d.k = 0 → d.L ≠ []
theorem rcut_all (R : List Re) (h : K0 R) : ∀ n, ru R ≤ n → rcut R n = R := by
  induction R with
  | nil => intro n _; rfl
  | cons d R ih =>
    intro n hn
    have hR : K0 R := fun e he => h e (List.mem_cons_of_mem _ he)
    have h1 : 0 < ru1 d := by
      unfold ru1
      split
      · rename_i hk
        have := h d (List.mem_cons_self ..) hk
        exact List.length_pos_iff.2 this
      · omega
    have hn : ru1 d + ru R ≤ n := hn
    unfold rcut
    rw [if_neg (by omega)]
    unfold ru1 at hn h1
    by_cases hk : d.k = 0
    · rw [if_pos hk] at hn h1 ⊢
      rw [List.take_of_length_le (by omega), ih hR _ (by omega)]
    · rw [if_neg hk] at hn h1 ⊢
      rw [ih hR _ (by omega)]
theorem k0_rcut (R : List Re) (h : K0 R) : ∀ n, K0 (rcut R n) := by
  induction R with
  | nil => intro n d hd; cases hd
  | cons d R ih =>
    intro n
    have hR : K0 R := fun e he => h e (List.mem_cons_of_mem _ he)
    unfold rcut
    split
    · intro d hd; cases hd
    · rename_i h0
      split
      · rename_i hk
        intro e he
        rcases List.mem_cons.1 he with rfl | he
        · intro _ hL
          have := h d (List.mem_cons_self ..) hk
          rcases List.take_eq_nil_iff.1 hL with h' | h'
          · exact h0 h'
          · exact this h'
        · exact ih hR _ e he
      · rename_i hk
        intro e he
        rcases List.mem_cons.1 he with rfl | he
        · intro hk'; exact absurd hk' hk
        · exact ih hR _ e he
theorem ru_rcut (R : List Re) : ∀ n, ru (rcut R n) = min n (ru R) := by
  induction R with
  | nil => intro n; simp [rcut, ru]
  | cons d R ih =>
    intro n
    unfold rcut
    by_cases h0 : n = 0
    · rw [if_pos h0, h0]
      simp [ru]
    · rw [if_neg h0]
      by_cases hk : d.k = 0
      · rw [if_pos hk]
        show ru1 _ + ru _ = min n (ru1 d + ru R)
        rw [ih]
        unfold ru1
        rw [if_pos hk]
        simp only [hk, if_true, List.length_take]
        omega
      · rw [if_neg hk]
        show ru1 _ + ru _ = min n (ru1 d + ru R)
        rw [ih]
        unfold ru1
        rw [if_neg hk]
        omega
end Go.Proofs.Ytbknbffmpnomlaa
