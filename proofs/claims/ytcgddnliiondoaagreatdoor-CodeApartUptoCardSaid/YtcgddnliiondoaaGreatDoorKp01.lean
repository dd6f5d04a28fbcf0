/- Spans, bands and rectangles, plainly: a list in normal form . -/

set_option linter.unusedVariables false
set_option linter.unusedSimpArgs false
set_option maxRecDepth 100000
set_option maxHeartbeats 8000000
namespace Go.Proofs.YtcgddnliiondoaaGreatDoor.R
namespace Rg
set_option linter.unusedVariables false
set_option linter.unusedSimpArgs false
structure Sp where
  f : Int
  t : Int
structure Bd where
  f : Int
  t : Int
  cs : List Sp
structure Rc where
  a : Int
  b : Int
  c : Int
  d : Int
def inS : List Sp → Int → Bool
  | [], _ => false
  | s :: l, i => decide (s.f ≤ i ∧ i < s.t) || inS l i
def Sep : Int → List Sp → Prop
  | _, [] => True
  | lo, s :: l => lo ≤ s.f ∧ s.f < s.t ∧ Sep (s.t + 1) l
theorem sep_mono : ∀ {l : List Sp} {lo lo' : Int}, Sep lo l → lo' ≤ lo → Sep lo' l
  | [], _, _, _, _ => trivial
  | s :: l, lo, lo', ⟨h1, h2, h3⟩, h => ⟨Int.le_trans h h1, h2, h3⟩
theorem inS_below : ∀ {l : List Sp} {lo i : Int}, Sep lo l → i < lo → inS l i = false
  | [], _, _, _, _ => rfl
  | s :: l, lo, i, ⟨h1, h2, h3⟩, h => by
    have h4 := inS_below h3 (i := i) (by omega)
    have h5 : ¬ (s.f ≤ i ∧ i < s.t) := by omega
    simp only [inS, h4, h5, decide_false, Bool.or_false]
theorem inS_cons_in {s : Sp} {l : List Sp} {i : Int} (h : s.f ≤ i ∧ i < s.t) : inS (s :: l) i = true := by
  simp only [inS, h, and_self, decide_true, Bool.true_or]
theorem inS_cons_out {s : Sp} {l : List Sp} {i : Int} (h : ¬ (s.f ≤ i ∧ i < s.t)) : inS (s :: l) i = inS l i := by
  simp only [inS, h, decide_false, Bool.false_or]
theorem inS_append (l l' : List Sp) (i : Int) : inS (l ++ l') i = (inS l i || inS l' i) := by
  induction l with
  | nil => simp [inS]
  | cons s l ih => simp only [List.cons_append, inS, ih, Bool.or_assoc]
theorem sep_uniq : ∀ {l l' : List Sp} {lo : Int}, Sep lo l → Sep lo l' → (∀ i, inS l i = inS l' i) → l = l'
  | [], [], _, _, _, _ => rfl
  | [], s' :: m', lo, _, ⟨h1, h2, h3⟩, h => by
    have := h s'.f
    rw [inS_cons_in ⟨Int.le_refl _, h2⟩] at this
    simp [inS] at this
  | s :: m, [], lo, ⟨h1, h2, h3⟩, _, h => by
    have := h s.f
    rw [inS_cons_in ⟨Int.le_refl _, h2⟩] at this
    simp [inS] at this
  | s :: m, s' :: m', lo, ⟨h1, h2, h3⟩, ⟨k1, k2, k3⟩, h => by
    have hf : s.f = s'.f := by
      rcases Int.lt_trichotomy s.f s'.f with g | g | g
      · have := h s.f
        rw [inS_cons_in ⟨Int.le_refl _, h2⟩, inS_below (l := s' :: m') (lo := s'.f) ⟨Int.le_refl _, k2, k3⟩ g] at this
        cases this
      · exact g
      · have := h s'.f
        rw [inS_cons_in (s := s') ⟨Int.le_refl _, k2⟩, inS_below (l := s :: m) (lo := s.f) ⟨Int.le_refl _, h2, h3⟩ g] at this
        cases this
    have ht : s.t = s'.t := by
      rcases Int.lt_trichotomy s.t s'.t with g | g | g
      · have := h s.t
        rw [inS_cons_in (s := s') ⟨by omega, g⟩, inS_cons_out (by omega), inS_below h3 (by omega)] at this
        cases this
      · exact g
      · have := h s'.t
        rw [inS_cons_in (s := s) ⟨by omega, g⟩, inS_cons_out (s := s') (by omega), inS_below k3 (by omega)] at this
        cases this
    have hm : m = m' := by
      refine sep_uniq (lo := s.t + 1) h3 (by rw [ht]; exact k3) fun i => ?_
      by_cases g : i < s.t + 1
      · rw [inS_below h3 g, inS_below k3 (by omega)]
      · have := h i
        rw [inS_cons_out (by omega), inS_cons_out (by omega)] at this
        exact this
    obtain ⟨sf, st⟩ := s
    obtain ⟨sf', st'⟩ := s'
    simp only at hf ht
    subst hf ht hm
    rfl
def eqL : List Sp → List Sp → Bool
  | [], [] => true
  | s :: l, s' :: l' => decide (s.f = s'.f ∧ s.t = s'.t) && eqL l l'
  | [], _ :: _ => false
  | _ :: _, [] => false
theorem eqL_iff : ∀ {l l' : List Sp}, eqL l l' = true ↔ l = l'
  | [], [] => by simp [eqL]
  | [], _ :: _ => by simp [eqL]
  | _ :: _, [] => by simp [eqL]
  | ⟨f, t⟩ :: l, ⟨f', t'⟩ :: l' => by
    simp only [eqL, Bool.and_eq_true, decide_eq_true_eq, eqL_iff, List.cons.injEq, Sp.mk.injEq]
def valB : List Bd → Int → List Sp
  | [], _ => []
  | b :: l, i => if b.f ≤ i ∧ i < b.t then b.cs else valB l i
def Rl : Int → List Sp → List Bd → Prop
  | _, _, [] => True
  | lo, pv, b :: l => lo ≤ b.f ∧ (b.f = lo → b.cs ≠ pv) ∧ b.f < b.t ∧ b.cs ≠ [] ∧ Rl b.t b.cs l
theorem rl_mono : ∀ {l : List Bd} {lo lo' : Int}, Rl lo [] l → lo' ≤ lo → Rl lo' [] l
  | [], _, _, _, _ => trivial
  | b :: l, lo, lo', ⟨h1, h2, h3, h4, h5⟩, h => ⟨Int.le_trans h h1, fun _ => h4, h3, h4, h5⟩
theorem rl_below : ∀ {l : List Bd} {lo i : Int} {pv : List Sp}, Rl lo pv l → i < lo → valB l i = []
  | [], _, _, _, _, _ => rfl
  | b :: l, lo, i, pv, ⟨h1, h2, h3, h4, h5⟩, h => by
    have h6 := rl_below h5 (i := i) (by omega)
    rw [valB, if_neg (by omega), h6]
theorem rl_at : ∀ {l : List Bd} {lo : Int} {pv : List Sp}, Rl lo pv l → pv ≠ [] → valB l lo ≠ pv
  | [], _, _, _, h => fun e => h e.symm
  | b :: l, lo, pv, ⟨h1, h2, h3, h4, h5⟩, h => by
    by_cases g : b.f = lo
    · rw [valB, if_pos (by omega)]
      exact h2 g
    · rw [valB, if_neg (by omega), rl_below h5 (by omega)]
      exact fun e => h e.symm
theorem rl_uniq : ∀ {l l' : List Bd} {lo : Int} {pv : List Sp}, Rl lo pv l → Rl lo pv l' → (∀ i, lo ≤ i → valB l i = valB l' i) → l = l'
  | [], [], _, _, _, _, _ => rfl
  | [], b :: m, lo, pv, _, ⟨h1, h2, h3, h4, h5⟩, h => by
    have := h b.f h1
    rw [valB, valB, if_pos (by omega)] at this
    exact absurd this.symm h4
  | b :: m, [], lo, pv, ⟨h1, h2, h3, h4, h5⟩, _, h => by
    have := h b.f h1
    have e : valB (b :: m) b.f = b.cs := by rw [valB, if_pos (by omega)]
    rw [e] at this
    exact absurd this h4
  | b :: m, b' :: m', lo, pv, ⟨h1, h2, h3, h4, h5⟩, ⟨k1, k2, k3, k4, k5⟩, h => by
    have hf : b.f = b'.f := by
      rcases Int.lt_trichotomy b.f b'.f with g | g | g
      · have := h b.f h1
        rw [valB, if_pos (by omega), rl_below (l := b' :: m') (lo := b'.f) (pv := []) ⟨Int.le_refl _, fun _ => k4, k3, k4, k5⟩ g] at this
        exact absurd this h4
      · exact g
      · have := h b'.f k1
        rw [rl_below (l := b :: m) (lo := b.f) (pv := []) ⟨Int.le_refl _, fun _ => h4, h3, h4, h5⟩ g, valB, if_pos (by omega)] at this
        exact absurd this.symm k4
    have hc : b.cs = b'.cs := by
      have := h b.f h1
      rw [valB, if_pos (by omega), valB, if_pos (by omega)] at this
      exact this
    have ht : b.t = b'.t := by
      rcases Int.lt_trichotomy b.t b'.t with g | g | g
      · have := h b.t (by omega)
        rw [valB, if_neg (by omega), valB, if_pos (by omega), ← hc] at this
        exact absurd this (rl_at h5 h4)
      · exact g
      · have := h b'.t (by omega)
        rw [valB, if_pos (by omega), valB, if_neg (by omega), hc] at this
        exact absurd this.symm (rl_at k5 k4)
    have hm : m = m' := by
      refine rl_uniq (lo := b.t) (pv := b.cs) h5 (by rw [ht, hc]; exact k5) fun i hi => ?_
      have := h i (by omega)
      rw [valB, if_neg (by omega), valB, if_neg (by omega)] at this
      exact this
    obtain ⟨f, t, cs⟩ := b
    obtain ⟨f', t', cs'⟩ := b'
    simp only at hf ht hc
    subst hf ht hc hm
    rfl
def rows (b : Bd) : List Rc := b.cs.map fun s => ⟨b.f, s.f, b.t, s.t⟩
def flatB (B : List Bd) : List Rc := B.flatMap rows
theorem flatB_cons (b : Bd) (B : List Bd) : flatB (b :: B) = rows b ++ flatB B := by simp [flatB]
theorem flatB_append (B B' : List Bd) : flatB (B ++ B') = flatB B ++ flatB B' := by simp [flatB]
theorem flatB_nil : flatB [] = [] := rfl
def Nf (S : Int → Int → Bool) (l : List Rc) : Prop :=
  ∃ (B : List Bd) (lo : Int), Rl lo [] B ∧ l = flatB B ∧ ∀ r, (∃ lo, Sep lo (valB B r)) ∧ ∀ c, inS (valB B r) c = S r c
theorem nf_uniq {S : Int → Int → Bool} {l l' : List Rc} (h : Nf S l) (h' : Nf S l') : l = l' := by
  obtain ⟨B, lo, hr, rfl, hv⟩ := h
  obtain ⟨B', lo', hr', rfl, hv'⟩ := h'
  have : B = B' := by
    refine rl_uniq (lo := min lo lo') (pv := []) (rl_mono hr (Int.min_le_left _ _)) (rl_mono hr' (Int.min_le_right _ _)) fun i _ => ?_
    obtain ⟨⟨a, ha⟩, hc⟩ := hv i
    obtain ⟨⟨a', ha'⟩, hc'⟩ := hv' i
    exact sep_uniq (lo := min a a') (sep_mono ha (Int.min_le_left _ _)) (sep_mono ha' (Int.min_le_right _ _)) fun c => by rw [hc, hc']
  rw [this]
def Asc : Int → List Int → Prop
  | _, [] => True
  | g, h :: l => g < h ∧ Asc h l
def lastOf : Int → List Int → Int
  | g, [] => g
  | _, h :: l => lastOf h l
def Pc (cs : Int → List Sp) : Int → List Int → Prop
  | _, [] => True
  | g, h :: l => (∀ r, g ≤ r → r < h → cs r = cs g) ∧ Pc cs h l
theorem asc_last : ∀ {l : List Int} {g : Int}, Asc g l → g ≤ lastOf g l
  | [], _, _ => Int.le_refl _
  | h :: l, g, ⟨h1, h2⟩ => Int.le_trans (Int.le_of_lt h1) (asc_last h2)
def same (e : Bool) (cs : Int → List Sp) (cur : Bd) : Bool := eqL cur.cs (cs cur.t) && (e || !(cs cur.t).isEmpty)
def grp (e : Bool) (cs : Int → List Sp) : Bd → List Int → List Bd
  | cur, [] => [cur]
  | cur, g :: l => if same e cs cur then grp e cs ⟨cur.f, g, cur.cs⟩ l else cur :: grp e cs ⟨cur.t, g, cs cur.t⟩ l
def one (b : Bd) : List Bd := if b.cs.isEmpty then [] else [b]
def grpF (e : Bool) (cs : Int → List Sp) : Bd → List Int → List Bd
  | cur, [] => one cur
  | cur, g :: l => if same e cs cur then grpF e cs ⟨cur.f, g, cur.cs⟩ l else one cur ++ grpF e cs ⟨cur.t, g, cs cur.t⟩ l
theorem rows_one (b : Bd) : flatB (one b) = rows b := by
  unfold one
  cases h : b.cs with
  | nil => simp [flatB, rows, h]
  | cons s l => simp [flatB, rows, h]
theorem grpF_flat (e : Bool) (cs : Int → List Sp) : ∀ (l : List Int) (cur : Bd), flatB (grpF e cs cur l) = flatB (grp e cs cur l)
  | [], cur => by rw [grpF, grp, rows_one, flatB_cons, flatB_nil, List.append_nil]
  | g :: l, cur => by
    rw [grpF, grp]
    cases same e cs cur with
    | true => simp only [if_true]; exact grpF_flat e cs l _
    | false => simp only [Bool.false_eq_true, if_false]; rw [flatB_append, flatB_cons, rows_one, grpF_flat e cs l]
theorem isEmpty_iff' {l : List Sp} : l.isEmpty = true ↔ l = [] := by cases l <;> simp
theorem val_one (b : Bd) (l : List Bd) (r : Int) (h : b.f ≤ r ∧ r < b.t → valB l r = []) : valB (one b ++ l) r = if b.f ≤ r ∧ r < b.t then b.cs else valB l r := by
  unfold one
  by_cases hc : b.cs = []
  · rw [if_pos (isEmpty_iff'.2 hc)]
    by_cases hr : b.f ≤ r ∧ r < b.t
    · rw [if_pos hr, hc]; exact h hr
    · rw [if_neg hr]; rfl
  · rw [if_neg (fun e => hc (isEmpty_iff'.1 e))]
    rfl
theorem grpF_val (e : Bool) (cs : Int → List Sp) : ∀ (l : List Int) (cur : Bd), Asc cur.t l → Pc cs cur.t l → cur.f ≤ cur.t → ∀ r,
    valB (grpF e cs cur l) r = if cur.f ≤ r ∧ r < cur.t then cur.cs else if cur.t ≤ r ∧ r < lastOf cur.t l then cs r else []
  | [], cur, _, _, _, r => by
    have h := val_one cur [] r (fun _ => rfl)
    rw [List.append_nil] at h
    rw [grpF, h, lastOf]
    by_cases hr : cur.f ≤ r ∧ r < cur.t
    · rw [if_pos hr, if_pos hr]
    · rw [if_neg hr, if_neg hr, if_neg (by omega)]; rfl
  | g :: l, cur, ⟨ha, hb⟩, ⟨hp, hq⟩, hle, r => by
    have hl := asc_last hb
    rw [grpF, lastOf]
    by_cases hs : same e cs cur = true
    · rw [if_pos hs, grpF_val e cs l ⟨cur.f, g, cur.cs⟩ hb hq (by show cur.f ≤ g; omega) r]
      simp only
      have he : cur.cs = cs cur.t := by
        unfold same at hs
        rw [Bool.and_eq_true] at hs
        exact eqL_iff.1 hs.1
      by_cases h1 : cur.f ≤ r ∧ r < cur.t
      · rw [if_pos h1, if_pos (by omega)]
      · rw [if_neg h1]
        by_cases h2 : cur.t ≤ r ∧ r < g
        · rw [if_pos (by omega), if_pos (by omega), hp r h2.1 h2.2, he]
        · by_cases h3 : cur.t ≤ r ∧ r < lastOf g l
          · rw [if_neg (by omega), if_pos (by omega), if_pos h3]
          · rw [if_neg (by omega), if_neg (by omega), if_neg h3]
    · rw [if_neg hs, val_one]
      · rw [grpF_val e cs l ⟨cur.t, g, cs cur.t⟩ hb hq (by show cur.t ≤ g; omega) r]
        simp only
        by_cases h1 : cur.f ≤ r ∧ r < cur.t
        · rw [if_pos h1, if_pos h1]
        · rw [if_neg h1, if_neg h1]
          by_cases h2 : cur.t ≤ r ∧ r < g
          · rw [if_pos h2, if_pos (by omega), hp r h2.1 h2.2]
          · by_cases h3 : cur.t ≤ r ∧ r < lastOf g l
            · rw [if_neg h2, if_pos (by omega), if_pos h3]
            · rw [if_neg h2, if_neg (by omega), if_neg h3]
      · intro h
        rw [grpF_val e cs l ⟨cur.t, g, cs cur.t⟩ hb hq (by show cur.t ≤ g; omega) r]
        simp only
        rw [if_neg (by omega), if_neg (by omega)]
theorem grpF_rl (e : Bool) (cs : Int → List Sp) : ∀ (l : List Int) (cur : Bd) (lo : Int) (pv : List Sp), Asc cur.t l → lo ≤ cur.f → cur.f ≤ cur.t →
    (cur.cs ≠ [] → cur.f < cur.t ∧ (cur.f = lo → cur.cs ≠ pv)) → (cur.cs = [] → cur.t = lo → pv = []) → Rl lo pv (grpF e cs cur l)
  | [], cur, lo, pv, _, h1, h2, h3, h4 => by
    rw [grpF, one]
    by_cases hc : cur.cs = []
    · rw [if_pos (isEmpty_iff'.2 hc)]; trivial
    · rw [if_neg (fun e => hc (isEmpty_iff'.1 e))]
      exact ⟨h1, (h3 hc).2, (h3 hc).1, hc, trivial⟩
  | g :: l, cur, lo, pv, ⟨ha, hb⟩, h1, h2, h3, h4 => by
    rw [grpF]
    by_cases hs : same e cs cur = true
    · rw [if_pos hs]
      refine grpF_rl e cs l ⟨cur.f, g, cur.cs⟩ lo pv hb h1 (by show cur.f ≤ g; omega) (fun hc => ⟨by show cur.f < g; omega, (h3 hc).2⟩) (fun _ hg => ?_)
      have hg' : g = lo := hg
      omega
    · rw [if_neg hs, one]
      by_cases hc : cur.cs = []
      · rw [if_pos (isEmpty_iff'.2 hc)]
        refine grpF_rl e cs l ⟨cur.t, g, cs cur.t⟩ lo pv hb (by show lo ≤ cur.t; omega) (by show cur.t ≤ g; omega) (fun hn => ⟨ha, fun hlo => ?_⟩) (fun _ hg => ?_)
        · rw [h4 hc hlo]; exact hn
        · have hg' : g = lo := hg
          omega
      · rw [if_neg (fun e => hc (isEmpty_iff'.1 e))]
        refine ⟨h1, (h3 hc).2, (h3 hc).1, hc, ?_⟩
        refine grpF_rl e cs l ⟨cur.t, g, cs cur.t⟩ cur.t cur.cs hb (Int.le_refl _) (by show cur.t ≤ g; omega) (fun hn => ⟨ha, fun _ hq => hs ?_⟩) (fun _ hg => ?_)
        · unfold same
          have hq' : cs cur.t = cur.cs := hq
          have hn' : cs cur.t ≠ [] := hn
          have h5 : (cs cur.t).isEmpty = false := by
            cases h6 : cs cur.t with
            | nil => exact absurd h6 hn'
            | cons => rfl
          rw [h5, eqL_iff.2 hq'.symm]
          simp
        · have hg' : g = cur.t := hg
          omega
theorem nf_grp (e : Bool) (cs : Int → List Sp) (S : Int → Int → Bool) (g : Int) (l : List Int) (ha : Asc g l) (hp : Pc cs g l) (hs : ∀ r, ∃ lo, Sep lo (cs r)) (hi : ∀ r c, inS (cs r) c = S r c)
    (ho : ∀ r, r < g ∨ lastOf g l ≤ r → cs r = []) : Nf S (flatB (grp e cs ⟨g, g, []⟩ l)) := by
  refine ⟨grpF e cs ⟨g, g, []⟩ l, g, grpF_rl e cs l ⟨g, g, []⟩ g [] ha (Int.le_refl _) (Int.le_refl _) (fun h => absurd rfl h) (fun _ _ => rfl), (grpF_flat e cs l _).symm, fun r => ?_⟩
  have hv : valB (grpF e cs ⟨g, g, []⟩ l) r = cs r := by
    rw [grpF_val e cs l ⟨g, g, []⟩ ha hp (Int.le_refl _) r]
    simp only
    rw [if_neg (by omega)]
    by_cases h : g ≤ r ∧ r < lastOf g l
    · rw [if_pos h]
    · rw [if_neg h, ho r (by omega)]
  rw [hv]
  exact ⟨hs r, hi r⟩
theorem grp_first (cs : Int → List Sp) (g h : Int) (l : List Int) : flatB (grp true cs ⟨g, g, []⟩ (h :: l)) = flatB (grp true cs ⟨g, h, cs g⟩ l) := by
  rw [grp]
  by_cases hs : same true cs ⟨g, g, []⟩ = true
  · rw [if_pos hs]
    unfold same at hs
    rw [Bool.and_eq_true] at hs
    have := eqL_iff.1 hs.1
    simp only at this
    rw [← this]
  · rw [if_neg hs, flatB_cons]
    rfl
theorem nf_empty (S : Int → Int → Bool) (h : ∀ r c, S r c = false) : Nf S [] :=
  ⟨[], 0, trivial, rfl, fun r => ⟨⟨0, trivial⟩, fun c => (h r c).symm⟩⟩
end Rg
end Go.Proofs.YtcgddnliiondoaaGreatDoor.R
namespace Go.Proofs.YtcgddnliiondoaaGreatDoor.R
namespace Rg
set_option linter.unusedVariables false
set_option linter.unusedSimpArgs false
def act (x : Rc) (r : Int) : Bool := decide (x.a ≤ r ∧ r < x.c)
def inR (x : Rc) (r c : Int) : Bool := act x r && decide (x.b ≤ c ∧ c < x.d)
def has : List Rc → Int → Int → Bool
  | [], _, _ => false
  | x :: l, r, c => inR x r c || has l r c
theorem has_append (l l' : List Rc) (r c : Int) : has (l ++ l') r c = (has l r c || has l' r c) := by
  induction l with
  | nil => simp [has]
  | cons x l ih => simp only [List.cons_append, has, ih, Bool.or_assoc]
theorem has_iff {l : List Rc} {r c : Int} : has l r c = true ↔ ∃ x, x ∈ l ∧ inR x r c = true := by
  induction l with
  | nil => simp [has]
  | cons x l ih => simp only [has, Bool.or_eq_true, ih, List.mem_cons]; constructor
                   · rintro (h | ⟨y, h1, h2⟩)
                     · exact ⟨x, .inl rfl, h⟩
                     · exact ⟨y, .inr h1, h2⟩
                   · rintro ⟨y, rfl | h1, h2⟩
                     · exact .inl h2
                     · exact .inr ⟨y, h1, h2⟩
theorem has_mem {l l' : List Rc} (h : ∀ x, x ∈ l ↔ x ∈ l') (r c : Int) : has l r c = has l' r c := by
  rw [Bool.eq_iff_iff, has_iff, has_iff]
  exact ⟨fun ⟨x, h1, h2⟩ => ⟨x, (h x).1 h1, h2⟩, fun ⟨x, h1, h2⟩ => ⟨x, (h x).2 h1, h2⟩⟩
def Lft : Int → List Rc → Prop
  | _, [] => True
  | lo, x :: l => lo ≤ x.b ∧ x.b < x.d ∧ Lft x.b l
theorem lft_mono : ∀ {l : List Rc} {lo lo' : Int}, Lft lo l → lo' ≤ lo → Lft lo' l
  | [], _, _, _, _ => trivial
  | x :: l, lo, lo', ⟨h1, h2, h3⟩, h => ⟨Int.le_trans h h1, h2, h3⟩
def col (r : Int) : Sp → List Rc → List Sp
  | cur, [] => [cur]
  | cur, x :: l => if act x r then (if x.b ≤ cur.t then col r ⟨cur.f, max cur.t x.d⟩ l else cur :: col r ⟨x.b, x.d⟩ l) else col r cur l
def col0 (r : Int) : List Rc → List Sp
  | [] => []
  | x :: l => if act x r then col r ⟨x.b, x.d⟩ l else col0 r l
theorem has_cons_out {x : Rc} {l : List Rc} {r c : Int} (h : act x r = false) : has (x :: l) r c = has l r c := by
  simp only [has, inR, h, Bool.false_and, Bool.false_or]
theorem has_cons_in {x : Rc} {l : List Rc} {r c : Int} (h : act x r = true) : has (x :: l) r c = (decide (x.b ≤ c ∧ c < x.d) || has l r c) := by
  simp only [has, inR, h, Bool.true_and]
theorem col_spec (r : Int) : ∀ (l : List Rc) (cur : Sp), cur.f < cur.t → Lft cur.f l → Sep cur.f (col r cur l) ∧ ∀ c, inS (col r cur l) c = (decide (cur.f ≤ c ∧ c < cur.t) || has l r c)
  | [], cur, h, _ => ⟨⟨Int.le_refl _, h, trivial⟩, fun c => rfl⟩
  | x :: l, cur, h, ⟨k1, k2, k3⟩ => by
    rw [col]
    cases ha : act x r with
    | false =>
      simp only [Bool.false_eq_true, if_false]
      obtain ⟨i1, i2⟩ := col_spec r l cur h (lft_mono k3 k1)
      exact ⟨i1, fun c => by rw [i2, has_cons_out ha]⟩
    | true =>
      simp only [if_true]
      by_cases hb : x.b ≤ cur.t
      · rw [if_pos hb]
        obtain ⟨i1, i2⟩ := col_spec r l ⟨cur.f, max cur.t x.d⟩ (by show cur.f < max cur.t x.d; omega) (lft_mono k3 k1)
        refine ⟨i1, fun c => ?_⟩
        rw [i2, has_cons_in ha, ← Bool.or_assoc]
        congr 1
        rw [Bool.eq_iff_iff, Bool.or_eq_true, decide_eq_true_eq, decide_eq_true_eq, decide_eq_true_eq]
        simp only
        omega
      · rw [if_neg hb]
        obtain ⟨i1, i2⟩ := col_spec r l ⟨x.b, x.d⟩ k2 k3
        refine ⟨⟨Int.le_refl _, h, sep_mono i1 (by show cur.t + 1 ≤ x.b; omega)⟩, fun c => ?_⟩
        rw [inS, i2, has_cons_in ha]
theorem col0_spec (r : Int) : ∀ (l : List Rc) (lo : Int), Lft lo l → Sep lo (col0 r l) ∧ ∀ c, inS (col0 r l) c = has l r c
  | [], _, _ => ⟨trivial, fun _ => rfl⟩
  | x :: l, lo, ⟨k1, k2, k3⟩ => by
    rw [col0]
    cases ha : act x r with
    | false =>
      simp only [Bool.false_eq_true, if_false]
      obtain ⟨i1, i2⟩ := col0_spec r l lo (lft_mono k3 k1)
      exact ⟨i1, fun c => by rw [i2, has_cons_out ha]⟩
    | true =>
      simp only [if_true]
      obtain ⟨i1, i2⟩ := col_spec r l ⟨x.b, x.d⟩ k2 k3
      exact ⟨sep_mono i1 k1, fun c => by rw [i2, has_cons_in ha]⟩
def cnt (r : Int) : List Rc → Nat
  | [] => 0
  | x :: l => (if act x r then 1 else 0) + cnt r l
theorem cnt_le (r : Int) : ∀ l : List Rc, cnt r l ≤ l.length
  | [] => Nat.le_refl _
  | x :: l => by have := cnt_le r l; rw [cnt, List.length_cons]; split <;> omega
theorem col_len (r : Int) : ∀ (l : List Rc) (cur : Sp), (col r cur l).length ≤ 1 + cnt r l
  | [], cur => by simp [col, cnt]
  | x :: l, cur => by
    rw [col, cnt]
    cases ha : act x r with
    | false => simp only [Bool.false_eq_true, if_false]; have := col_len r l cur; omega
    | true =>
      simp only [if_true]
      by_cases hb : x.b ≤ cur.t
      · rw [if_pos hb]; have := col_len r l ⟨cur.f, max cur.t x.d⟩; omega
      · rw [if_neg hb, List.length_cons]; have := col_len r l ⟨x.b, x.d⟩; omega
theorem col0_len (r : Int) : ∀ (l : List Rc), (col0 r l).length ≤ cnt r l
  | [] => Nat.le_refl _
  | x :: l => by
    rw [col0, cnt]
    cases ha : act x r with
    | false => simp only [Bool.false_eq_true, if_false]; have := col0_len r l; omega
    | true => simp only [if_true]; exact col_len r l _
theorem col_congr (r r' : Int) : ∀ (l : List Rc) (cur : Sp), (∀ x, x ∈ l → act x r = act x r') → col r cur l = col r' cur l
  | [], _, _ => rfl
  | x :: l, cur, h => by
    have h' : ∀ y, y ∈ l → act y r = act y r' := fun y hy => h y (List.mem_cons_of_mem _ hy)
    rw [col, col, h x (List.mem_cons_self ..), col_congr r r' l _ h', col_congr r r' l _ h', col_congr r r' l _ h']
theorem col0_congr (r r' : Int) : ∀ (l : List Rc), (∀ x, x ∈ l → act x r = act x r') → col0 r l = col0 r' l
  | [], _ => rfl
  | x :: l, h => by
    have h' : ∀ y, y ∈ l → act y r = act y r' := fun y hy => h y (List.mem_cons_of_mem _ hy)
    rw [col0, col0, h x (List.mem_cons_self ..), col0_congr r r' l h', col_congr r r' l _ h']
def mi : Sp → List Sp → List Sp
  | s, [] => if s.f < s.t then [s] else []
  | s, x :: b => if s.t ≤ x.f then (if s.f < s.t then [s] else []) else (if s.f < x.f then [⟨s.f, x.f⟩] else []) ++ mi ⟨x.t, s.t⟩ b
def dropB : Int → List Sp → List Sp
  | _, [] => []
  | f, x :: b => if x.t ≤ f then dropB f b else x :: b
def mn : List Sp → List Sp → List Sp
  | [], _ => []
  | s :: a, b => mi s (dropB s.f b) ++ mn a (dropB s.f b)
def Up (hi : Int) (l : List Sp) : Prop := ∀ x, x ∈ l → x.t ≤ hi
def Hd (f : Int) : List Sp → Prop
  | [] => True
  | x :: _ => f ≤ x.t
theorem sep_append : ∀ {l1 l2 : List Sp} {lo hi : Int}, Sep lo l1 → Up hi l1 → lo ≤ hi + 1 → Sep (hi + 1) l2 → Sep lo (l1 ++ l2)
  | [], l2, lo, hi, _, _, h, k => sep_mono k h
  | x :: l1, l2, lo, hi, ⟨h1, h2, h3⟩, hu, h, k => by
    have := hu x (List.mem_cons_self ..)
    exact ⟨h1, h2, sep_append h3 (fun y hy => hu y (List.mem_cons_of_mem _ hy)) (by omega) k⟩
theorem fin_spec (s : Sp) : Sep s.f (if s.f < s.t then [s] else []) ∧ Up s.t (if s.f < s.t then [s] else []) ∧ ∀ c, inS (if s.f < s.t then [s] else []) c = decide (s.f ≤ c ∧ c < s.t) := by
  by_cases h : s.f < s.t
  · rw [if_pos h]
    refine ⟨⟨Int.le_refl _, h, trivial⟩, fun x hx => ?_, fun c => by simp [inS]⟩
    rw [List.mem_singleton] at hx
    rw [hx]
    exact Int.le_refl _
  · rw [if_neg h]
    refine ⟨trivial, fun x hx => by simp at hx, fun c => ?_⟩
    have : ¬ (s.f ≤ c ∧ c < s.t) := by omega
    simp only [inS, this, decide_false]
theorem mi_spec : ∀ (b : List Sp) (s : Sp) (lo : Int), Sep lo b → Hd s.f b → Sep s.f (mi s b) ∧ Up s.t (mi s b) ∧ ∀ c, inS (mi s b) c = (decide (s.f ≤ c ∧ c < s.t) && !inS b c)
  | [], s, _, _, _ => by
    obtain ⟨h1, h2, h3⟩ := fin_spec s
    rw [mi]
    exact ⟨h1, h2, fun c => by rw [h3]; simp [inS]⟩
  | x :: b, s, lo, ⟨k1, k2, k3⟩, hd => by
    rw [mi]
    by_cases h : s.t ≤ x.f
    · rw [if_pos h]
      obtain ⟨h1, h2, h3⟩ := fin_spec s
      refine ⟨h1, h2, fun c => ?_⟩
      rw [h3]
      by_cases hc : s.f ≤ c ∧ c < s.t
      · rw [inS_below (l := x :: b) (lo := x.f) ⟨Int.le_refl _, k2, k3⟩ (by omega)]
        simp
      · simp only [hc, decide_false, Bool.false_and]
    · rw [if_neg h]
      have hx : s.f ≤ x.t := hd
      obtain ⟨i1, i2, i3⟩ := mi_spec b ⟨x.t, s.t⟩ _ k3 (by
        cases b with
        | nil => trivial
        | cons y b => obtain ⟨j1, j2, _⟩ := k3; show x.t ≤ y.t; omega)
      have key : ∀ c, (decide (s.f ≤ c ∧ c < x.f) || inS (mi ⟨x.t, s.t⟩ b) c) = (decide (s.f ≤ c ∧ c < s.t) && !inS (x :: b) c) := fun c => by
        rw [i3]
        simp only
        by_cases hc : c < x.t
        · rw [inS, inS_below k3 (by omega), Bool.or_false]
          rw [Bool.eq_iff_iff]
          simp only [Bool.or_eq_true, Bool.and_eq_true, decide_eq_true_eq, Bool.not_eq_true', decide_eq_false_iff_not, Bool.not_false, and_true]
          omega
        · rw [inS_cons_out (by omega)]
          have e1 : decide (s.f ≤ c ∧ c < x.f) = false := by simp only [decide_eq_false_iff_not]; omega
          have e2 : decide (x.t ≤ c ∧ c < s.t) = decide (s.f ≤ c ∧ c < s.t) := by rw [Bool.eq_iff_iff, decide_eq_true_eq, decide_eq_true_eq]; omega
          rw [e1, e2, Bool.false_or]
      by_cases hf : s.f < x.f
      · rw [if_pos hf]
        refine ⟨⟨Int.le_refl _, hf, sep_mono i1 (by show x.f + 1 ≤ x.t; omega)⟩, fun y hy => ?_, fun c => ?_⟩
        · rcases List.mem_cons.1 hy with rfl | hy
          · show x.f ≤ s.t; omega
          · exact i2 y hy
        · rw [← key]
          rfl
      · rw [if_neg hf]
        refine ⟨sep_mono i1 hx, i2, fun c => ?_⟩
        rw [← key, List.nil_append]
        have e1 : decide (s.f ≤ c ∧ c < x.f) = false := by simp only [decide_eq_false_iff_not]; omega
        rw [e1, Bool.false_or]
theorem dropB_spec : ∀ (b : List Sp) (f lo : Int), Sep lo b → (∃ lo', Sep lo' (dropB f b)) ∧ Hd f (dropB f b) ∧ ∀ c, f ≤ c → inS (dropB f b) c = inS b c
  | [], _, lo, h => ⟨⟨lo, trivial⟩, trivial, fun _ _ => rfl⟩
  | x :: b, f, lo, ⟨k1, k2, k3⟩ => by
    rw [dropB]
    by_cases h : x.t ≤ f
    · rw [if_pos h]
      obtain ⟨i1, i2, i3⟩ := dropB_spec b f _ k3
      exact ⟨i1, i2, fun c hc => by rw [i3 c hc, inS_cons_out (by omega)]⟩
    · rw [if_neg h]
      exact ⟨⟨lo, k1, k2, k3⟩, by show f ≤ x.t; omega, fun _ _ => rfl⟩
theorem mn_spec : ∀ (a b : List Sp) (lo lb : Int), Sep lo a → Sep lb b → Sep lo (mn a b) ∧ ∀ c, inS (mn a b) c = (inS a c && !inS b c)
  | [], b, _, _, _, _ => ⟨trivial, fun _ => rfl⟩
  | s :: a, b, lo, lb, ⟨k1, k2, k3⟩, hb => by
    rw [mn]
    obtain ⟨⟨lb', d1⟩, d2, d3⟩ := dropB_spec b s.f lb hb
    obtain ⟨m1, m2, m3⟩ := mi_spec (dropB s.f b) s lb' d1 d2
    obtain ⟨i1, i2⟩ := mn_spec a (dropB s.f b) (s.t + 1) lb' k3 d1
    refine ⟨sep_append (sep_mono m1 k1) m2 (by omega) i1, fun c => ?_⟩
    rw [inS_append, m3, i2]
    by_cases hc : s.f ≤ c
    · rw [d3 c hc, inS, Bool.and_or_distrib_right]
    · rw [inS_cons_out (by omega), inS_below k3 (by omega)]
      have : ¬ (s.f ≤ c ∧ c < s.t) := by omega
      simp only [this, decide_false, Bool.false_and, Bool.or_false]
theorem mi_len : ∀ (b : List Sp) (s : Sp), (mi s b).length ≤ b.length + 1
  | [], s => by rw [mi]; split <;> simp
  | x :: b, s => by
    rw [mi]
    have := mi_len b ⟨x.t, s.t⟩
    split
    · split <;> simp
    · split <;> (simp; omega)
theorem dropB_len : ∀ (b : List Sp) (f : Int), (dropB f b).length ≤ b.length
  | [], _ => Nat.le_refl _
  | x :: b, f => by
    rw [dropB]
    have := dropB_len b f
    split
    · simp; omega
    · exact Nat.le_refl _
theorem mn_len : ∀ (a b : List Sp) (n : Nat), b.length ≤ n → (mn a b).length ≤ a.length * (n + 1)
  | [], _, _, _ => by simp [mn]
  | s :: a, b, n, h => by
    have h1 := dropB_len b s.f
    have h2 := mi_len (dropB s.f b) s
    have h3 := mn_len a (dropB s.f b) n (by omega)
    rw [mn, List.length_append, List.length_cons, Nat.succ_mul]
    omega
def Gp (E : Int → Prop) : Int → List Int → Prop
  | _, [] => True
  | g, h :: l => (∀ e, E e → e ≤ g ∨ h ≤ e) ∧ Gp E h l
theorem asc_mem : ∀ {l : List Int} {g e : Int}, Asc g l → e ∈ l → g < e ∧ e ≤ lastOf g l
  | h :: l, g, e, ⟨h1, h2⟩, he => by
    rw [lastOf]
    rcases List.mem_cons.1 he with rfl | he
    · exact ⟨h1, asc_last h2⟩
    · have := asc_mem h2 he
      exact ⟨by omega, this.2⟩
theorem gp_of (E : Int → Prop) : ∀ {l : List Int} {g : Int}, Asc g l → (∀ e, E e → e ≤ g ∨ e ∈ l) → Gp E g l
  | [], _, _, _ => trivial
  | h :: l, g, ⟨h1, h2⟩, hE => by
    refine ⟨fun e he => ?_, gp_of E h2 fun e he => ?_⟩
    · rcases hE e he with h | h
      · exact .inl h
      · rcases List.mem_cons.1 h with rfl | h
        · exact .inr (Int.le_refl _)
        · exact .inr (Int.le_of_lt (asc_mem h2 h).1)
    · rcases hE e he with h | h
      · exact .inl (by omega)
      · rcases List.mem_cons.1 h with rfl | h
        · exact .inl (Int.le_refl _)
        · exact .inr h
theorem pc_of {E : Int → Prop} {cs : Int → List Sp} (hc : ∀ g h r, (∀ e, E e → e ≤ g ∨ h ≤ e) → g ≤ r → r < h → cs r = cs g) : ∀ {l : List Int} {g : Int}, Gp E g l → Pc cs g l
  | [], _, _ => trivial
  | h :: l, g, ⟨h1, h2⟩ => ⟨fun r k1 k2 => hc g h r h1 k1 k2, pc_of hc h2⟩
def EdR (A : List Rc) (e : Int) : Prop := ∃ x, x ∈ A ∧ (e = x.a ∨ e = x.c)
theorem act_const {A : List Rc} {g h r : Int} (hg : ∀ e, EdR A e → e ≤ g ∨ h ≤ e) (h1 : g ≤ r) (h2 : r < h) {x : Rc} (hx : x ∈ A) : act x r = act x g := by
  have ka := hg x.a ⟨x, hx, .inl rfl⟩
  have kc := hg x.c ⟨x, hx, .inr rfl⟩
  unfold act
  rw [Bool.eq_iff_iff, decide_eq_true_eq, decide_eq_true_eq]
  omega
end Rg
end Go.Proofs.YtcgddnliiondoaaGreatDoor.R
namespace Go.Proofs.YtcgddnliiondoaaGreatDoor.R
namespace Rg
set_option linter.unusedVariables false
set_option linter.unusedSimpArgs false
def Ascl : List Int → Prop
  | [] => True
  | g :: l => Asc g l
def Ok (A : List Rc) : Prop := ∀ x, x ∈ A → x.a < x.c ∧ x.b < x.d
def dif (A B : List Rc) (r c : Int) : Bool := has A r c && !has B r c
theorem col0_none {r : Int} : ∀ {l : List Rc}, (∀ x, x ∈ l → act x r = false) → col0 r l = []
  | [], _ => rfl
  | x :: l, h => by rw [col0, h x (List.mem_cons_self ..)]; simp only [Bool.false_eq_true, if_false]; exact col0_none fun y hy => h y (List.mem_cons_of_mem _ hy)
theorem act_out {x : Rc} {g r : Int} {l : List Int} (h : Asc g l) (ha : x.a ∈ g :: l) (hc : x.c ∈ g :: l) (ho : r < g ∨ lastOf g l ≤ r) : act x r = false := by
  have hl := asc_last h
  have k : ∀ e, e ∈ g :: l → g ≤ e ∧ e ≤ lastOf g l := fun e he => by
    rcases List.mem_cons.1 he with rfl | he
    · exact ⟨Int.le_refl _, hl⟩
    · have := asc_mem h he; exact ⟨by omega, this.2⟩
  have k1 := k _ ha
  have k2 := k _ hc
  unfold act
  rw [decide_eq_false_iff_not]
  omega
def csP (A B : List Rc) (r : Int) : List Sp := mn (col0 r A) (col0 r B)
def bandsP (cs : Int → List Sp) : List Int → List Bd
  | g :: h :: l => grp true cs ⟨g, h, cs g⟩ l
  | _ => []
theorem nf_prog {A B A' B' : List Rc} {G : List Int} {la lb : Int} (hA : ∀ x, x ∈ A' ↔ x ∈ A) (hB : ∀ x, x ∈ B' ↔ x ∈ B) (oA : Ok A) (oB : Ok B) (lA : Lft la A') (lB : Lft lb B')
    (hG : Ascl G) (hE : ∀ e, e ∈ G ↔ EdR (A ++ B) e) : Nf (dif A B) (flatB (bandsP (csP A' B') G)) := by
  have eA : ∀ x, x ∈ A → x.a ∈ G ∧ x.c ∈ G := fun x hx => ⟨(hE _).2 ⟨x, List.mem_append.2 (.inl hx), .inl rfl⟩, (hE _).2 ⟨x, List.mem_append.2 (.inl hx), .inr rfl⟩⟩
  have eB : ∀ x, x ∈ B → x.a ∈ G ∧ x.c ∈ G := fun x hx => ⟨(hE _).2 ⟨x, List.mem_append.2 (.inr hx), .inl rfl⟩, (hE _).2 ⟨x, List.mem_append.2 (.inr hx), .inr rfl⟩⟩
  match G, hG, hE, eA, eB with
  | [], _, _, eA, _ =>
    refine nf_empty _ fun r c => ?_
    have : A = [] := by
      cases A with
      | nil => rfl
      | cons x A => have := (eA x (List.mem_cons_self ..)).1; simp at this
    rw [dif, this]
    rfl
  | [g], _, _, eA, _ =>
    refine nf_empty _ fun r c => ?_
    have : A = [] := by
      cases A with
      | nil => rfl
      | cons x A =>
        have h1 := (eA x (List.mem_cons_self ..)).1
        have h2 := (eA x (List.mem_cons_self ..)).2
        have h3 := (oA x (List.mem_cons_self ..)).1
        rw [List.mem_singleton] at h1 h2
        omega
    rw [dif, this]
    rfl
  | g :: h :: l, hG, hE, eA, eB =>
    rw [bandsP, ← grp_first]
    have cc : ∀ p q r, (∀ e, EdR (A ++ B) e → e ≤ p ∨ q ≤ e) → p ≤ r → r < q → csP A' B' r = csP A' B' p := fun p q r he h1 h2 => by
      unfold csP
      rw [col0_congr r p A' fun x hx => act_const he h1 h2 (List.mem_append.2 (.inl ((hA x).1 hx))), col0_congr r p B' fun x hx => act_const he h1 h2 (List.mem_append.2 (.inr ((hB x).1 hx)))]
    refine nf_grp true (csP A' B') (dif A B) g (h :: l) hG (pc_of cc (gp_of _ hG fun e he => ?_)) (fun r => ⟨la, (mn_spec _ _ la lb (col0_spec r A' la lA).1 (col0_spec r B' lb lB).1).1⟩) (fun r c => ?_) (fun r ho => ?_)
    · rcases List.mem_cons.1 ((hE e).2 he) with rfl | h
      · exact .inl (Int.le_refl _)
      · exact .inr h
    · unfold csP
      rw [(mn_spec _ _ la lb (col0_spec r A' la lA).1 (col0_spec r B' lb lB).1).2, (col0_spec r A' la lA).2, (col0_spec r B' lb lB).2, has_mem hA, has_mem hB]
      rfl
    · unfold csP
      rw [col0_none fun x hx => act_out hG (eA x ((hA x).1 hx)).1 (eA x ((hA x).1 hx)).2 ho]
      rfl
theorem rl_mem : ∀ {B : List Bd} {lo : Int} {pv : List Sp} {b : Bd}, Rl lo pv B → b ∈ B → lo ≤ b.f ∧ b.f < b.t ∧ ∀ r, b.f ≤ r → r < b.t → valB B r = b.cs
  | x :: B, lo, pv, b, ⟨h1, h2, h3, h4, h5⟩, hb => by
    rcases List.mem_cons.1 hb with rfl | hb
    · exact ⟨h1, h3, fun r k1 k2 => by rw [valB, if_pos ⟨k1, k2⟩]⟩
    · obtain ⟨i1, i2, i3⟩ := rl_mem h5 hb
      exact ⟨by omega, i2, fun r k1 k2 => by rw [valB, if_neg (by omega)]; exact i3 r k1 k2⟩
theorem sep_mem : ∀ {l : List Sp} {lo : Int} {s : Sp}, Sep lo l → s ∈ l → lo ≤ s.f ∧ s.f < s.t
  | x :: l, lo, s, ⟨h1, h2, h3⟩, hs => by
    rcases List.mem_cons.1 hs with rfl | hs
    · exact ⟨h1, h2⟩
    · have := sep_mem h3 hs
      exact ⟨by omega, this.2⟩
theorem has_rows_b (b : Bd) (r c : Int) : has (rows b) r c = (decide (b.f ≤ r ∧ r < b.t) && inS b.cs c) := by
  unfold rows
  induction b.cs with
  | nil => simp [has, inS]
  | cons s l ih =>
    rw [List.map_cons, has, ih, inS, inR, act, Bool.and_or_distrib_left]
theorem has_flatB : ∀ {B : List Bd} {lo : Int} {pv : List Sp}, Rl lo pv B → ∀ r c, has (flatB B) r c = inS (valB B r) c
  | [], _, _, _, _, _ => rfl
  | b :: B, lo, pv, ⟨h1, h2, h3, h4, h5⟩, r, c => by
    rw [flatB_cons, has_append, has_rows_b, has_flatB h5, valB]
    by_cases h : b.f ≤ r ∧ r < b.t
    · rw [if_pos h, rl_below h5 h.2]
      simp [h, inS]
    · rw [if_neg h]
      simp [h]
theorem nf_has {S : Int → Int → Bool} {l : List Rc} (h : Nf S l) (r c : Int) : has l r c = S r c := by
  obtain ⟨B, lo, hr, rfl, hv⟩ := h
  rw [has_flatB hr, (hv r).2]
theorem nf_ok {S : Int → Int → Bool} {l : List Rc} (h : Nf S l) : Ok l := by
  obtain ⟨B, lo, hr, rfl, hv⟩ := h
  intro x hx
  unfold flatB at hx
  rw [List.mem_flatMap] at hx
  obtain ⟨b, hb, hx⟩ := hx
  unfold rows at hx
  rw [List.mem_map] at hx
  obtain ⟨s, hs, rfl⟩ := hx
  obtain ⟨_, h2, h3⟩ := rl_mem hr hb
  obtain ⟨⟨lo', hsep⟩, _⟩ := hv b.f
  rw [h3 b.f (Int.le_refl _) h2] at hsep
  exact ⟨h2, (sep_mem hsep hs).2⟩
def May (x : Rc) : Prop := 0 ≤ x.a ∧ x.a < x.c ∧ x.c ≤ 4398046511104 ∧ 0 ≤ x.b ∧ x.b < x.d ∧ x.d ≤ 4398046511104
def mayB (x : Rc) : Bool := decide (0 ≤ x.a ∧ x.a < x.c ∧ x.c ≤ 4398046511104 ∧ 0 ≤ x.b ∧ x.b < x.d ∧ x.d ≤ 4398046511104)
theorem mayB_iff {x : Rc} : mayB x = true ↔ May x := by unfold mayB May; rw [decide_eq_true_eq]
def Mays (A : List Rc) : Prop := ∀ x, x ∈ A → May x
theorem Mays.ok {A : List Rc} (h : Mays A) : Ok A := fun x hx => ⟨(h x hx).2.1, (h x hx).2.2.2.2.1⟩
def Inn (S : Int → Int → Bool) : Prop := ∀ r c, S r c = true → 0 ≤ r ∧ r < 4398046511104 ∧ 0 ≤ c ∧ c < 4398046511104
theorem mays_inn {A : List Rc} (h : Mays A) : Inn (has A) := by
  intro r c hc
  obtain ⟨x, hx, hi⟩ := has_iff.1 hc
  obtain ⟨h1, h2, h3, h4, h5, h6⟩ := h x hx
  unfold inR act at hi
  rw [Bool.and_eq_true, decide_eq_true_eq, decide_eq_true_eq] at hi
  omega
theorem dif_inn {A B : List Rc} (h : Mays A) : Inn (dif A B) := fun r c hc => mays_inn h r c (by unfold dif at hc; rw [Bool.and_eq_true] at hc; exact hc.1)
theorem nf_mays {S : Int → Int → Bool} {l : List Rc} (h : Nf S l) (hi : Inn S) : Mays l := by
  intro x hx
  obtain ⟨h1, h2⟩ := nf_ok h x hx
  have k : ∀ r c, x.a ≤ r → r < x.c → x.b ≤ c → c < x.d → S r c = true := fun r c k1 k2 k3 k4 => by
    rw [← nf_has h]
    exact has_iff.2 ⟨x, hx, by unfold inR act; rw [Bool.and_eq_true, decide_eq_true_eq, decide_eq_true_eq]; omega⟩
  have p := hi _ _ (k x.a x.b (by omega) (by omega) (by omega) (by omega))
  have q := hi _ _ (k (x.c - 1) (x.d - 1) (by omega) (by omega) (by omega) (by omega))
  unfold May
  omega
def cnted (L : List Rc) : List Rc := (L.take 256).filter mayB
theorem cnted_mays (L : List Rc) : Mays (cnted L) := fun x hx => mayB_iff.1 (List.mem_filter.1 hx).2
theorem cnted_len (L : List Rc) : (cnted L).length ≤ 256 := by
  unfold cnted
  exact Nat.le_trans (List.length_filter_le _ _) (by rw [List.length_take]; exact Nat.min_le_left _ _)
def sl (cs : Int → List Sp) : Int → List Int → Nat
  | _, [] => 0
  | g, h :: l => (cs g).length + sl cs h l
theorem rows_len (b : Bd) : (rows b).length = b.cs.length := by unfold rows; simp
theorem grp_len (e : Bool) (cs : Int → List Sp) : ∀ (l : List Int) (cur : Bd), (flatB (grp e cs cur l)).length ≤ cur.cs.length + sl cs cur.t l
  | [], cur => by rw [grp, flatB_cons, flatB_nil, List.append_nil, rows_len]; exact Nat.le_add_right _ _
  | g :: l, cur => by
    rw [grp, sl]
    by_cases h : same e cs cur = true
    · rw [if_pos h]
      have := grp_len e cs l ⟨cur.f, g, cur.cs⟩
      simp only at this
      omega
    · rw [if_neg h, flatB_cons, List.length_append, rows_len]
      have := grp_len e cs l ⟨cur.t, g, cs cur.t⟩
      simp only at this
      omega
def ce (g : Int) : List Rc → Nat
  | [] => 0
  | x :: l => (if x.a ≤ g then 1 else 0) + (if x.c ≤ g then 1 else 0) + ce g l
theorem ce_mono {g h : Int} (hgh : g ≤ h) : ∀ L : List Rc, ce g L ≤ ce h L
  | [] => Nat.le_refl _
  | x :: L => by
    have := ce_mono hgh L
    rw [ce, ce]
    by_cases h1 : x.a ≤ g
    · by_cases h2 : x.c ≤ g
      · rw [if_pos h1, if_pos h2, if_pos (by omega), if_pos (by omega)]; omega
      · rw [if_pos h1, if_neg h2, if_pos (by omega)]; split <;> omega
    · by_cases h2 : x.c ≤ g
      · rw [if_neg h1, if_pos h2, if_pos (show x.c ≤ h by omega)]; split <;> omega
      · rw [if_neg h1, if_neg h2]; omega
theorem ce_step {g h : Int} (hgh : g < h) : ∀ {L : List Rc}, (∃ x, x ∈ L ∧ (h = x.a ∨ h = x.c)) → ce g L + 1 ≤ ce h L
  | x :: L, ⟨y, hy, he⟩ => by
    rw [ce, ce]
    rcases List.mem_cons.1 hy with rfl | hy
    · have := ce_mono (Int.le_of_lt hgh) L
      rcases he with he | he
      · rw [if_neg (show ¬ y.a ≤ g by omega), if_pos (show y.a ≤ h by omega)]
        by_cases h2 : y.c ≤ g
        · rw [if_pos h2, if_pos (by omega)]; omega
        · rw [if_neg h2]; split <;> omega
      · rw [if_neg (show ¬ y.c ≤ g by omega), if_pos (show y.c ≤ h by omega)]
        by_cases h2 : y.a ≤ g
        · rw [if_pos h2, if_pos (by omega)]; omega
        · rw [if_neg h2]; split <;> omega
    · have := ce_step hgh ⟨y, hy, he⟩
      have h3 := ce_mono (Int.le_of_lt hgh) [x]
      simp only [ce] at h3
      omega
theorem cnt_ce (g : Int) : ∀ L : List Rc, cnt g L + ce g L ≤ 2 * L.length
  | [] => Nat.le_refl _
  | x :: L => by
    have := cnt_ce g L
    rw [cnt, ce, List.length_cons]
    cases ha : act x g with
    | false => simp only [Bool.false_eq_true, if_false]; split <;> split <;> omega
    | true =>
      unfold act at ha
      rw [decide_eq_true_eq] at ha
      rw [if_pos rfl, if_pos ha.1, if_neg (by omega)]
      omega
def S2 : Nat → Nat
  | 0 => 0
  | n + 1 => S2 n + min 12 (n + 1)
theorem sl_len {L : List Rc} {cs : Int → List Sp} (hL : L.length ≤ 12) (hc : ∀ r, (cs r).length ≤ cnt r L) : ∀ (l : List Int) (g : Int) (k : Nat), Asc g l → (∀ e, e ∈ l → ∃ x, x ∈ L ∧ (e = x.a ∨ e = x.c)) → k ≤ ce g L → sl cs g l ≤ S2 (24 - k)
  | [], _, _, _, _, _ => Nat.zero_le _
  | h :: l, g, k, ⟨h1, h2⟩, he, hk => by
    have i1 := sl_len hL hc l h (k + 1) h2 (fun e hm => he e (List.mem_cons_of_mem _ hm)) (Nat.le_trans (Nat.succ_le_succ hk) (ce_step h1 (he h (List.mem_cons_self ..))))
    have c1 := hc g
    have c2 := cnt_le g L
    have c3 := cnt_ce g L
    rw [sl]
    rcases Nat.lt_or_ge k 24 with h24 | h24
    · obtain ⟨m, hm⟩ : ∃ m, 24 - k = m + 1 := ⟨23 - k, by omega⟩
      rw [hm, S2]
      rw [show 24 - (k + 1) = m by omega] at i1
      omega
    · rw [show 24 - (k + 1) = 24 - k by omega] at i1
      omega
theorem s2_23 : S2 23 = 210 := rfl
theorem bandsP_len {A A' : List Rc} {G : List Int} (hl : A'.length ≤ 12) (hA : ∀ x, x ∈ A' ↔ x ∈ A) (hG : Ascl G) (hE : ∀ e, e ∈ G ↔ EdR (A ++ []) e) : (flatB (bandsP (csP A' []) G)).length ≤ 256 := by
  match G, hG, hE with
  | [], _, _ => simp [bandsP, flatB]
  | [g], _, _ => simp [bandsP, flatB]
  | g :: h :: l, hG, hE =>
    rw [bandsP, ← grp_first]
    have h1 := grp_len true (csP A' []) (h :: l) ⟨g, g, []⟩
    have he : ∀ e, e ∈ g :: h :: l → ∃ x, x ∈ A' ∧ (e = x.a ∨ e = x.c) := fun e hm => by
      obtain ⟨x, hx, h⟩ := (hE e).1 hm
      rw [List.append_nil] at hx
      exact ⟨x, (hA x).2 hx, h⟩
    have h2 := sl_len (L := A') (cs := csP A' []) hl (fun r => by
      unfold csP
      have := mn_len (col0 r A') (col0 r []) 0 (by simp [col0])
      have h3 := col0_len r A'
      omega) (h :: l) g 1 hG (fun e hm => he e (List.mem_cons_of_mem _ hm)) (by
        have := ce_step (g := g - 1) (h := g) (L := A') (by omega) (he g (List.mem_cons_self ..))
        omega)
    rw [show 24 - 1 = 23 from rfl, s2_23] at h2
    simp only [List.length_nil] at h1
    omega
end Rg
end Go.Proofs.YtcgddnliiondoaaGreatDoor.R
namespace Go.Proofs.YtcgddnliiondoaaGreatDoor.R
namespace Rg
set_option linter.unusedVariables false
set_option linter.unusedSimpArgs false
def ar (most : Int) : Int → List Rc → Int
  | n, [] => n
  | n, x :: l => if Int.tdiv (most - n) (x.d - x.b) < x.c - x.a then most else ar most (n + (x.c - x.a) * (x.d - x.b)) l
theorem tdiv_lt {q w h : Int} (hq : 0 ≤ q) (hw : 0 < w) : Int.tdiv q w < h ↔ q < h * w := by
  rw [Int.tdiv_eq_ediv_of_nonneg hq]
  exact Int.ediv_lt_iff_lt_mul hw
end Rg
end Go.Proofs.YtcgddnliiondoaaGreatDoor.R
