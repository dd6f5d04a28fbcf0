/- Spans, bands and rectangles, plainly: a list in normal form is one, for a set of cells. -/
namespace Go.Proofs.Ytkbpdgghnlnakaa
namespace Rg
set_option linter.unusedVariables false
set_option linter.unusedSimpArgs false

structure Sp where
  f : Int
  t : Int
structure Bd where
  f : Int
  t : Int
  cs : List Sp
structure Rc where
  a : Int
  b : Int
  c : Int
  d : Int

def inS : List Sp → Int → Bool
  | [], _ => false
  | s :: l, i => decide (s.f ≤ i ∧ i < s.t) || inS l i
def Sep : Int → List Sp → Prop
  | _, [] => True
  | lo, s :: l => lo ≤ s.f ∧ s.f < s.t ∧ Sep (s.t + 1) l

theorem sep_mono : ∀ {l : List Sp} {lo lo' : Int}, Sep lo l → lo' ≤ lo → Sep lo' l
  | [], _, _, _, _ => trivial
  | s :: l, lo, lo', ⟨h1, h2, h3⟩, h => ⟨Int.le_trans h h1, h2, h3⟩
theorem inS_below : ∀ {l : List Sp} {lo i : Int}, Sep lo l → i < lo → inS l i = false
  | [], _, _, _, _ => rfl
  | s :: l, lo, i, ⟨h1, h2, h3⟩, h => by
    have h4 := inS_below h3 (i := i) (by omega)
    have h5 : ¬ (s.f ≤ i ∧ i < s.t) := by omega
    simp only [inS, h4, h5, decide_false, Bool.or_false]
theorem inS_cons_in {s : Sp} {l : List Sp} {i : Int} (h : s.f ≤ i ∧ i < s.t) : inS (s :: l) i = true := by
  simp only [inS, h, and_self, decide_true, Bool.true_or]
theorem inS_cons_out {s : Sp} {l : List Sp} {i : Int} (h : ¬ (s.f ≤ i ∧ i < s.t)) : inS (s :: l) i = inS l i := by
  simp only [inS, h, decide_false, Bool.false_or]
theorem inS_append (l l' : List Sp) (i : Int) : inS (l ++ l') i = (inS l i || inS l' i) := by
  induction l with
  | nil => simp [inS]
  | cons s l ih => simp only [List.cons_append, inS, ih, Bool.or_assoc]
theorem sep_uniq : ∀ {l l' : List Sp} {lo : Int}, Sep lo l → Sep lo l' → (∀ i, inS l i = inS l' i) → l = l'
  | [], [], _, _, _, _ => rfl
  | [], s' :: m', lo, _, ⟨h1, h2, h3⟩, h => by
    have := h s'.f
    rw [inS_cons_in ⟨Int.le_refl _, h2⟩] at this
    simp [inS] at this
  | s :: m, [], lo, ⟨h1, h2, h3⟩, _, h => by
    have := h s.f
    rw [inS_cons_in ⟨Int.le_refl _, h2⟩] at this
    simp [inS] at this
  | s :: m, s' :: m', lo, ⟨h1, h2, h3⟩, ⟨k1, k2, k3⟩, h => by
    have hf : s.f = s'.f := by
      rcases Int.lt_trichotomy s.f s'.f with g | g | g
      · have := h s.f
        rw [inS_cons_in ⟨Int.le_refl _, h2⟩, inS_below (l := s' :: m') (lo := s'.f) ⟨Int.le_refl _, k2, k3⟩ g] at this
        cases this
      · exact g
      · have := h s'.f
        rw [inS_cons_in (s := s') ⟨Int.le_refl _, k2⟩, inS_below (l := s :: m) (lo := s.f) ⟨Int.le_refl _, h2, h3⟩ g] at this
        cases this
    have ht : s.t = s'.t := by
      rcases Int.lt_trichotomy s.t s'.t with g | g | g
      · have := h s.t
        rw [inS_cons_in (s := s') ⟨by omega, g⟩, inS_cons_out (by omega), inS_below h3 (by omega)] at this
        cases this
      · exact g
      · have := h s'.t
        rw [inS_cons_in (s := s) ⟨by omega, g⟩, inS_cons_out (s := s') (by omega), inS_below k3 (by omega)] at this
        cases this
    have hm : m = m' := by
      refine sep_uniq (lo := s.t + 1) h3 (by rw [ht]; exact k3) fun i => ?_
      by_cases g : i < s.t + 1
      · rw [inS_below h3 g, inS_below k3 (by omega)]
      · have := h i
        rw [inS_cons_out (by omega), inS_cons_out (by omega)] at this
        exact this
    obtain ⟨sf, st⟩ := s
    obtain ⟨sf', st'⟩ := s'
    simp only at hf ht
    subst hf ht hm
    rfl

def eqL : List Sp → List Sp → Bool
  | [], [] => true
  | s :: l, s' :: l' => decide (s.f = s'.f ∧ s.t = s'.t) && eqL l l'
  | [], _ :: _ => false
  | _ :: _, [] => false
theorem eqL_iff : ∀ {l l' : List Sp}, eqL l l' = true ↔ l = l'
  | [], [] => by simp [eqL]
  | [], _ :: _ => by simp [eqL]
  | _ :: _, [] => by simp [eqL]
  | ⟨f, t⟩ :: l, ⟨f', t'⟩ :: l' => by
    simp only [eqL, Bool.and_eq_true, decide_eq_true_eq, eqL_iff, List.cons.injEq, Sp.mk.injEq]

def valB : List Bd → Int → List Sp
  | [], _ => []
  | b :: l, i => if b.f ≤ i ∧ i < b.t then b.cs else valB l i
def Rl : Int → List Sp → List Bd → Prop
  | _, _, [] => True
  | lo, pv, b :: l => lo ≤ b.f ∧ (b.f = lo → b.cs ≠ pv) ∧ b.f < b.t ∧ b.cs ≠ [] ∧ Rl b.t b.cs l
theorem rl_mono : ∀ {l : List Bd} {lo lo' : Int}, Rl lo [] l → lo' ≤ lo → Rl lo' [] l
  | [], _, _, _, _ => trivial
  | b :: l, lo, lo', ⟨h1, h2, h3, h4, h5⟩, h => ⟨Int.le_trans h h1, fun _ => h4, h3, h4, h5⟩
theorem rl_below : ∀ {l : List Bd} {lo i : Int} {pv : List Sp}, Rl lo pv l → i < lo → valB l i = []
  | [], _, _, _, _, _ => rfl
  | b :: l, lo, i, pv, ⟨h1, h2, h3, h4, h5⟩, h => by
    have h6 := rl_below h5 (i := i) (by omega)
    rw [valB, if_neg (by omega), h6]
theorem rl_at : ∀ {l : List Bd} {lo : Int} {pv : List Sp}, Rl lo pv l → pv ≠ [] → valB l lo ≠ pv
  | [], _, _, _, h => fun e => h e.symm
  | b :: l, lo, pv, ⟨h1, h2, h3, h4, h5⟩, h => by
    by_cases g : b.f = lo
    · rw [valB, if_pos (by omega)]
      exact h2 g
    · rw [valB, if_neg (by omega), rl_below h5 (by omega)]
      exact fun e => h e.symm
theorem rl_uniq : ∀ {l l' : List Bd} {lo : Int} {pv : List Sp}, Rl lo pv l → Rl lo pv l' → (∀ i, lo ≤ i → valB l i = valB l' i) → l = l'
  | [], [], _, _, _, _, _ => rfl
  | [], b :: m, lo, pv, _, ⟨h1, h2, h3, h4, h5⟩, h => by
    have := h b.f h1
    rw [valB, valB, if_pos (by omega)] at this
    exact absurd this.symm h4
  | b :: m, [], lo, pv, ⟨h1, h2, h3, h4, h5⟩, _, h => by
    have := h b.f h1
    have e : valB (b :: m) b.f = b.cs := by rw [valB, if_pos (by omega)]
    rw [e] at this
    exact absurd this h4
  | b :: m, b' :: m', lo, pv, ⟨h1, h2, h3, h4, h5⟩, ⟨k1, k2, k3, k4, k5⟩, h => by
    have hf : b.f = b'.f := by
      rcases Int.lt_trichotomy b.f b'.f with g | g | g
      · have := h b.f h1
        rw [valB, if_pos (by omega), rl_below (l := b' :: m') (lo := b'.f) (pv := []) ⟨Int.le_refl _, fun _ => k4, k3, k4, k5⟩ g] at this
        exact absurd this h4
      · exact g
      · have := h b'.f k1
        rw [rl_below (l := b :: m) (lo := b.f) (pv := []) ⟨Int.le_refl _, fun _ => h4, h3, h4, h5⟩ g, valB, if_pos (by omega)] at this
        exact absurd this.symm k4
    have hc : b.cs = b'.cs := by
      have := h b.f h1
      rw [valB, if_pos (by omega), valB, if_pos (by omega)] at this
      exact this
    have ht : b.t = b'.t := by
      rcases Int.lt_trichotomy b.t b'.t with g | g | g
      · have := h b.t (by omega)
        rw [valB, if_neg (by omega), valB, if_pos (by omega), ← hc] at this
        exact absurd this (rl_at h5 h4)
      · exact g
      · have := h b'.t (by omega)
        rw [valB, if_pos (by omega), valB, if_neg (by omega), hc] at this
        exact absurd this.symm (rl_at k5 k4)
    have hm : m = m' := by
      refine rl_uniq (lo := b.t) (pv := b.cs) h5 (by rw [ht, hc]; exact k5) fun i hi => ?_
      have := h i (by omega)
      rw [valB, if_neg (by omega), valB, if_neg (by omega)] at this
      exact this
    obtain ⟨f, t, cs⟩ := b
    obtain ⟨f', t', cs'⟩ := b'
    simp only at hf ht hc
    subst hf ht hc hm
    rfl

def rows (b : Bd) : List Rc := b.cs.map fun s => ⟨b.f, s.f, b.t, s.t⟩
def flatB (B : List Bd) : List Rc := B.flatMap rows
theorem flatB_cons (b : Bd) (B : List Bd) : flatB (b :: B) = rows b ++ flatB B := by simp [flatB]
theorem flatB_append (B B' : List Bd) : flatB (B ++ B') = flatB B ++ flatB B' := by simp [flatB]
theorem flatB_nil : flatB [] = [] := rfl

/-- the list is the normal form of the set -/
def Nf (S : Int → Int → Bool) (l : List Rc) : Prop :=
  ∃ (B : List Bd) (lo : Int), Rl lo [] B ∧ l = flatB B ∧ ∀ r, (∃ lo, Sep lo (valB B r)) ∧ ∀ c, inS (valB B r) c = S r c
theorem nf_uniq {S : Int → Int → Bool} {l l' : List Rc} (h : Nf S l) (h' : Nf S l') : l = l' := by
  obtain ⟨B, lo, hr, rfl, hv⟩ := h
  obtain ⟨B', lo', hr', rfl, hv'⟩ := h'
  have : B = B' := by
    refine rl_uniq (lo := min lo lo') (pv := []) (rl_mono hr (Int.min_le_left _ _)) (rl_mono hr' (Int.min_le_right _ _)) fun i _ => ?_
    obtain ⟨⟨a, ha⟩, hc⟩ := hv i
    obtain ⟨⟨a', ha'⟩, hc'⟩ := hv' i
    exact sep_uniq (lo := min a a') (sep_mono ha (Int.min_le_left _ _)) (sep_mono ha' (Int.min_le_right _ _)) fun c => by rw [hc, hc']
  rw [this]
theorem nf_congr {S S' : Int → Int → Bool} {l : List Rc} (h : Nf S l) (e : ∀ r c, S r c = S' r c) : Nf S' l := by
  obtain ⟨B, lo, hr, hl, hv⟩ := h
  exact ⟨B, lo, hr, hl, fun r => ⟨(hv r).1, fun c => by rw [(hv r).2, e]⟩⟩

def Asc : Int → List Int → Prop
  | _, [] => True
  | g, h :: l => g < h ∧ Asc h l
def lastOf : Int → List Int → Int
  | g, [] => g
  | _, h :: l => lastOf h l
def Pc (cs : Int → List Sp) : Int → List Int → Prop
  | _, [] => True
  | g, h :: l => (∀ r, g ≤ r → r < h → cs r = cs g) ∧ Pc cs h l
theorem asc_last : ∀ {l : List Int} {g : Int}, Asc g l → g ≤ lastOf g l
  | [], _, _ => Int.le_refl _
  | h :: l, g, ⟨h1, h2⟩ => Int.le_trans (Int.le_of_lt h1) (asc_last h2)

/-- does the band that comes next go on with the one above? -/
def same (e : Bool) (cs : Int → List Sp) (cur : Bd) : Bool := eqL cur.cs (cs cur.t) && (e || !(cs cur.t).isEmpty)
def grp (e : Bool) (cs : Int → List Sp) : Bd → List Int → List Bd
  | cur, [] => [cur]
  | cur, g :: l => if same e cs cur then grp e cs ⟨cur.f, g, cur.cs⟩ l else cur :: grp e cs ⟨cur.t, g, cs cur.t⟩ l
def one (b : Bd) : List Bd := if b.cs.isEmpty then [] else [b]
def grpF (e : Bool) (cs : Int → List Sp) : Bd → List Int → List Bd
  | cur, [] => one cur
  | cur, g :: l => if same e cs cur then grpF e cs ⟨cur.f, g, cur.cs⟩ l else one cur ++ grpF e cs ⟨cur.t, g, cs cur.t⟩ l
theorem rows_one (b : Bd) : flatB (one b) = rows b := by
  unfold one
  cases h : b.cs with
  | nil => simp [flatB, rows, h]
  | cons s l => simp [flatB, rows, h]
theorem grpF_flat (e : Bool) (cs : Int → List Sp) : ∀ (l : List Int) (cur : Bd), flatB (grpF e cs cur l) = flatB (grp e cs cur l)
  | [], cur => by rw [grpF, grp, rows_one, flatB_cons, flatB_nil, List.append_nil]
  | g :: l, cur => by
    rw [grpF, grp]
    cases same e cs cur with
    | true => simp only [if_true]; exact grpF_flat e cs l _
    | false => simp only [Bool.false_eq_true, if_false]; rw [flatB_append, flatB_cons, rows_one, grpF_flat e cs l]
theorem isEmpty_iff' {l : List Sp} : l.isEmpty = true ↔ l = [] := by cases l <;> simp
theorem val_one (b : Bd) (l : List Bd) (r : Int) (h : b.f ≤ r ∧ r < b.t → valB l r = []) : valB (one b ++ l) r = if b.f ≤ r ∧ r < b.t then b.cs else valB l r := by
  unfold one
  by_cases hc : b.cs = []
  · rw [if_pos (isEmpty_iff'.2 hc)]
    by_cases hr : b.f ≤ r ∧ r < b.t
    · rw [if_pos hr, hc]; exact h hr
    · rw [if_neg hr]; rfl
  · rw [if_neg (fun e => hc (isEmpty_iff'.1 e))]
    rfl
theorem grpF_val (e : Bool) (cs : Int → List Sp) : ∀ (l : List Int) (cur : Bd), Asc cur.t l → Pc cs cur.t l → cur.f ≤ cur.t → ∀ r,
    valB (grpF e cs cur l) r = if cur.f ≤ r ∧ r < cur.t then cur.cs else if cur.t ≤ r ∧ r < lastOf cur.t l then cs r else []
  | [], cur, _, _, _, r => by
    have h := val_one cur [] r (fun _ => rfl)
    rw [List.append_nil] at h
    rw [grpF, h, lastOf]
    by_cases hr : cur.f ≤ r ∧ r < cur.t
    · rw [if_pos hr, if_pos hr]
    · rw [if_neg hr, if_neg hr, if_neg (by omega)]; rfl
  | g :: l, cur, ⟨ha, hb⟩, ⟨hp, hq⟩, hle, r => by
    have hl := asc_last hb
    rw [grpF, lastOf]
    by_cases hs : same e cs cur = true
    · rw [if_pos hs, grpF_val e cs l ⟨cur.f, g, cur.cs⟩ hb hq (by show cur.f ≤ g; omega) r]
      simp only
      have he : cur.cs = cs cur.t := by
        unfold same at hs
        rw [Bool.and_eq_true] at hs
        exact eqL_iff.1 hs.1
      by_cases h1 : cur.f ≤ r ∧ r < cur.t
      · rw [if_pos h1, if_pos (by omega)]
      · rw [if_neg h1]
        by_cases h2 : cur.t ≤ r ∧ r < g
        · rw [if_pos (by omega), if_pos (by omega), hp r h2.1 h2.2, he]
        · by_cases h3 : cur.t ≤ r ∧ r < lastOf g l
          · rw [if_neg (by omega), if_pos (by omega), if_pos h3]
          · rw [if_neg (by omega), if_neg (by omega), if_neg h3]
    · rw [if_neg hs, val_one]
      · rw [grpF_val e cs l ⟨cur.t, g, cs cur.t⟩ hb hq (by show cur.t ≤ g; omega) r]
        simp only
        by_cases h1 : cur.f ≤ r ∧ r < cur.t
        · rw [if_pos h1, if_pos h1]
        · rw [if_neg h1, if_neg h1]
          by_cases h2 : cur.t ≤ r ∧ r < g
          · rw [if_pos h2, if_pos (by omega), hp r h2.1 h2.2]
          · by_cases h3 : cur.t ≤ r ∧ r < lastOf g l
            · rw [if_neg h2, if_pos (by omega), if_pos h3]
            · rw [if_neg h2, if_neg (by omega), if_neg h3]
      · intro h
        rw [grpF_val e cs l ⟨cur.t, g, cs cur.t⟩ hb hq (by show cur.t ≤ g; omega) r]
        simp only
        rw [if_neg (by omega), if_neg (by omega)]
theorem grpF_rl (e : Bool) (cs : Int → List Sp) : ∀ (l : List Int) (cur : Bd) (lo : Int) (pv : List Sp), Asc cur.t l → lo ≤ cur.f → cur.f ≤ cur.t →
    (cur.cs ≠ [] → cur.f < cur.t ∧ (cur.f = lo → cur.cs ≠ pv)) → (cur.cs = [] → cur.t = lo → pv = []) → Rl lo pv (grpF e cs cur l)
  | [], cur, lo, pv, _, h1, h2, h3, h4 => by
    rw [grpF, one]
    by_cases hc : cur.cs = []
    · rw [if_pos (isEmpty_iff'.2 hc)]; trivial
    · rw [if_neg (fun e => hc (isEmpty_iff'.1 e))]
      exact ⟨h1, (h3 hc).2, (h3 hc).1, hc, trivial⟩
  | g :: l, cur, lo, pv, ⟨ha, hb⟩, h1, h2, h3, h4 => by
    rw [grpF]
    by_cases hs : same e cs cur = true
    · rw [if_pos hs]
      refine grpF_rl e cs l ⟨cur.f, g, cur.cs⟩ lo pv hb h1 (by show cur.f ≤ g; omega) (fun hc => ⟨by show cur.f < g; omega, (h3 hc).2⟩) (fun _ hg => ?_)
      have hg' : g = lo := hg
      omega
    · rw [if_neg hs, one]
      by_cases hc : cur.cs = []
      · rw [if_pos (isEmpty_iff'.2 hc)]
        refine grpF_rl e cs l ⟨cur.t, g, cs cur.t⟩ lo pv hb (by show lo ≤ cur.t; omega) (by show cur.t ≤ g; omega) (fun hn => ⟨ha, fun hlo => ?_⟩) (fun _ hg => ?_)
        · rw [h4 hc hlo]; exact hn
        · have hg' : g = lo := hg
          omega
      · rw [if_neg (fun e => hc (isEmpty_iff'.1 e))]
        refine ⟨h1, (h3 hc).2, (h3 hc).1, hc, ?_⟩
        refine grpF_rl e cs l ⟨cur.t, g, cs cur.t⟩ cur.t cur.cs hb (Int.le_refl _) (by show cur.t ≤ g; omega) (fun hn => ⟨ha, fun _ hq => hs ?_⟩) (fun _ hg => ?_)
        · unfold same
          have hq' : cs cur.t = cur.cs := hq
          have hn' : cs cur.t ≠ [] := hn
          have h5 : (cs cur.t).isEmpty = false := by
            cases h6 : cs cur.t with
            | nil => exact absurd h6 hn'
            | cons => rfl
          rw [h5, eqL_iff.2 hq'.symm]
          simp
        · have hg' : g = cur.t := hg
          omega
theorem nf_grp (e : Bool) (cs : Int → List Sp) (S : Int → Int → Bool) (g : Int) (l : List Int) (ha : Asc g l) (hp : Pc cs g l) (hs : ∀ r, ∃ lo, Sep lo (cs r)) (hi : ∀ r c, inS (cs r) c = S r c)
    (ho : ∀ r, r < g ∨ lastOf g l ≤ r → cs r = []) : Nf S (flatB (grp e cs ⟨g, g, []⟩ l)) := by
  refine ⟨grpF e cs ⟨g, g, []⟩ l, g, grpF_rl e cs l ⟨g, g, []⟩ g [] ha (Int.le_refl _) (Int.le_refl _) (fun h => absurd rfl h) (fun _ _ => rfl), (grpF_flat e cs l _).symm, fun r => ?_⟩
  have hv : valB (grpF e cs ⟨g, g, []⟩ l) r = cs r := by
    rw [grpF_val e cs l ⟨g, g, []⟩ ha hp (Int.le_refl _) r]
    simp only
    rw [if_neg (by omega)]
    by_cases h : g ≤ r ∧ r < lastOf g l
    · rw [if_pos h]
    · rw [if_neg h, ho r (by omega)]
  rw [hv]
  exact ⟨hs r, hi r⟩
/-- the program begins with the first band -/
theorem grp_first (cs : Int → List Sp) (g h : Int) (l : List Int) : flatB (grp true cs ⟨g, g, []⟩ (h :: l)) = flatB (grp true cs ⟨g, h, cs g⟩ l) := by
  rw [grp]
  by_cases hs : same true cs ⟨g, g, []⟩ = true
  · rw [if_pos hs]
    unfold same at hs
    rw [Bool.and_eq_true] at hs
    have := eqL_iff.1 hs.1
    simp only at this
    rw [← this]
  · rw [if_neg hs, flatB_cons]
    rfl
theorem nf_empty (S : Int → Int → Bool) (h : ∀ r c, S r c = false) : Nf S [] :=
  ⟨[], 0, trivial, rfl, fun r => ⟨⟨0, trivial⟩, fun c => (h r c).symm⟩⟩
end Rg
end Go.Proofs.Ytkbpdgghnlnakaa
