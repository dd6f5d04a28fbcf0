/- Columns of a row, what is taken away of them, and the normal form of some rectangles without others, plainly. -/
import Derived.Test.YtkbpdgghnlnakaaPa
namespace Go.Proofs.Ytkbpdgghnlnakaa
namespace Rg
set_option linter.unusedVariables false
set_option linter.unusedSimpArgs false

def act (x : Rc) (r : Int) : Bool := decide (x.a ≤ r ∧ r < x.c)
def inR (x : Rc) (r c : Int) : Bool := act x r && decide (x.b ≤ c ∧ c < x.d)
def has : List Rc → Int → Int → Bool
  | [], _, _ => false
  | x :: l, r, c => inR x r c || has l r c
theorem has_append (l l' : List Rc) (r c : Int) : has (l ++ l') r c = (has l r c || has l' r c) := by
  induction l with
  | nil => simp [has]
  | cons x l ih => simp only [List.cons_append, has, ih, Bool.or_assoc]
theorem has_iff {l : List Rc} {r c : Int} : has l r c = true ↔ ∃ x, x ∈ l ∧ inR x r c = true := by
  induction l with
  | nil => simp [has]
  | cons x l ih => simp only [has, Bool.or_eq_true, ih, List.mem_cons]; constructor
                   · rintro (h | ⟨y, h1, h2⟩)
                     · exact ⟨x, .inl rfl, h⟩
                     · exact ⟨y, .inr h1, h2⟩
                   · rintro ⟨y, rfl | h1, h2⟩
                     · exact .inl h2
                     · exact .inr ⟨y, h1, h2⟩
theorem has_mem {l l' : List Rc} (h : ∀ x, x ∈ l ↔ x ∈ l') (r c : Int) : has l r c = has l' r c := by
  rw [Bool.eq_iff_iff, has_iff, has_iff]
  exact ⟨fun ⟨x, h1, h2⟩ => ⟨x, (h x).1 h1, h2⟩, fun ⟨x, h1, h2⟩ => ⟨x, (h x).2 h1, h2⟩⟩

def Lft : Int → List Rc → Prop
  | _, [] => True
  | lo, x :: l => lo ≤ x.b ∧ x.b < x.d ∧ Lft x.b l
theorem lft_mono : ∀ {l : List Rc} {lo lo' : Int}, Lft lo l → lo' ≤ lo → Lft lo' l
  | [], _, _, _, _ => trivial
  | x :: l, lo, lo', ⟨h1, h2, h3⟩, h => ⟨Int.le_trans h h1, h2, h3⟩

def col (r : Int) : Sp → List Rc → List Sp
  | cur, [] => [cur]
  | cur, x :: l => if act x r then (if x.b ≤ cur.t then col r ⟨cur.f, max cur.t x.d⟩ l else cur :: col r ⟨x.b, x.d⟩ l) else col r cur l
def col0 (r : Int) : List Rc → List Sp
  | [] => []
  | x :: l => if act x r then col r ⟨x.b, x.d⟩ l else col0 r l
theorem has_cons_out {x : Rc} {l : List Rc} {r c : Int} (h : act x r = false) : has (x :: l) r c = has l r c := by
  simp only [has, inR, h, Bool.false_and, Bool.false_or]
theorem has_cons_in {x : Rc} {l : List Rc} {r c : Int} (h : act x r = true) : has (x :: l) r c = (decide (x.b ≤ c ∧ c < x.d) || has l r c) := by
  simp only [has, inR, h, Bool.true_and]
theorem col_spec (r : Int) : ∀ (l : List Rc) (cur : Sp), cur.f < cur.t → Lft cur.f l → Sep cur.f (col r cur l) ∧ ∀ c, inS (col r cur l) c = (decide (cur.f ≤ c ∧ c < cur.t) || has l r c)
  | [], cur, h, _ => ⟨⟨Int.le_refl _, h, trivial⟩, fun c => rfl⟩
  | x :: l, cur, h, ⟨k1, k2, k3⟩ => by
    rw [col]
    cases ha : act x r with
    | false =>
      simp only [Bool.false_eq_true, if_false]
      obtain ⟨i1, i2⟩ := col_spec r l cur h (lft_mono k3 k1)
      exact ⟨i1, fun c => by rw [i2, has_cons_out ha]⟩
    | true =>
      simp only [if_true]
      by_cases hb : x.b ≤ cur.t
      · rw [if_pos hb]
        obtain ⟨i1, i2⟩ := col_spec r l ⟨cur.f, max cur.t x.d⟩ (by show cur.f < max cur.t x.d; omega) (lft_mono k3 k1)
        refine ⟨i1, fun c => ?_⟩
        rw [i2, has_cons_in ha, ← Bool.or_assoc]
        congr 1
        rw [Bool.eq_iff_iff, Bool.or_eq_true, decide_eq_true_eq, decide_eq_true_eq, decide_eq_true_eq]
        simp only
        omega
      · rw [if_neg hb]
        obtain ⟨i1, i2⟩ := col_spec r l ⟨x.b, x.d⟩ k2 k3
        refine ⟨⟨Int.le_refl _, h, sep_mono i1 (by show cur.t + 1 ≤ x.b; omega)⟩, fun c => ?_⟩
        rw [inS, i2, has_cons_in ha]
theorem col0_spec (r : Int) : ∀ (l : List Rc) (lo : Int), Lft lo l → Sep lo (col0 r l) ∧ ∀ c, inS (col0 r l) c = has l r c
  | [], _, _ => ⟨trivial, fun _ => rfl⟩
  | x :: l, lo, ⟨k1, k2, k3⟩ => by
    rw [col0]
    cases ha : act x r with
    | false =>
      simp only [Bool.false_eq_true, if_false]
      obtain ⟨i1, i2⟩ := col0_spec r l lo (lft_mono k3 k1)
      exact ⟨i1, fun c => by rw [i2, has_cons_out ha]⟩
    | true =>
      simp only [if_true]
      obtain ⟨i1, i2⟩ := col_spec r l ⟨x.b, x.d⟩ k2 k3
      exact ⟨sep_mono i1 k1, fun c => by rw [i2, has_cons_in ha]⟩
def cnt (r : Int) : List Rc → Nat
  | [] => 0
  | x :: l => (if act x r then 1 else 0) + cnt r l
theorem cnt_le (r : Int) : ∀ l : List Rc, cnt r l ≤ l.length
  | [] => Nat.le_refl _
  | x :: l => by have := cnt_le r l; rw [cnt, List.length_cons]; split <;> omega
theorem col_len (r : Int) : ∀ (l : List Rc) (cur : Sp), (col r cur l).length ≤ 1 + cnt r l
  | [], cur => by simp [col, cnt]
  | x :: l, cur => by
    rw [col, cnt]
    cases ha : act x r with
    | false => simp only [Bool.false_eq_true, if_false]; have := col_len r l cur; omega
    | true =>
      simp only [if_true]
      by_cases hb : x.b ≤ cur.t
      · rw [if_pos hb]; have := col_len r l ⟨cur.f, max cur.t x.d⟩; omega
      · rw [if_neg hb, List.length_cons]; have := col_len r l ⟨x.b, x.d⟩; omega
theorem col0_len (r : Int) : ∀ (l : List Rc), (col0 r l).length ≤ cnt r l
  | [] => Nat.le_refl _
  | x :: l => by
    rw [col0, cnt]
    cases ha : act x r with
    | false => simp only [Bool.false_eq_true, if_false]; have := col0_len r l; omega
    | true => simp only [if_true]; exact col_len r l _
theorem col_congr (r r' : Int) : ∀ (l : List Rc) (cur : Sp), (∀ x, x ∈ l → act x r = act x r') → col r cur l = col r' cur l
  | [], _, _ => rfl
  | x :: l, cur, h => by
    have h' : ∀ y, y ∈ l → act y r = act y r' := fun y hy => h y (List.mem_cons_of_mem _ hy)
    rw [col, col, h x (List.mem_cons_self ..), col_congr r r' l _ h', col_congr r r' l _ h', col_congr r r' l _ h']
theorem col0_congr (r r' : Int) : ∀ (l : List Rc), (∀ x, x ∈ l → act x r = act x r') → col0 r l = col0 r' l
  | [], _ => rfl
  | x :: l, h => by
    have h' : ∀ y, y ∈ l → act y r = act y r' := fun y hy => h y (List.mem_cons_of_mem _ hy)
    rw [col0, col0, h x (List.mem_cons_self ..), col0_congr r r' l h', col_congr r r' l _ h']

def mi : Sp → List Sp → List Sp
  | s, [] => if s.f < s.t then [s] else []
  | s, x :: b => if s.t ≤ x.f then (if s.f < s.t then [s] else []) else (if s.f < x.f then [⟨s.f, x.f⟩] else []) ++ mi ⟨x.t, s.t⟩ b
def dropB : Int → List Sp → List Sp
  | _, [] => []
  | f, x :: b => if x.t ≤ f then dropB f b else x :: b
def mn : List Sp → List Sp → List Sp
  | [], _ => []
  | s :: a, b => mi s (dropB s.f b) ++ mn a (dropB s.f b)
def Up (hi : Int) (l : List Sp) : Prop := ∀ x, x ∈ l → x.t ≤ hi
def Hd (f : Int) : List Sp → Prop
  | [] => True
  | x :: _ => f ≤ x.t
theorem sep_append : ∀ {l1 l2 : List Sp} {lo hi : Int}, Sep lo l1 → Up hi l1 → lo ≤ hi + 1 → Sep (hi + 1) l2 → Sep lo (l1 ++ l2)
  | [], l2, lo, hi, _, _, h, k => sep_mono k h
  | x :: l1, l2, lo, hi, ⟨h1, h2, h3⟩, hu, h, k => by
    have := hu x (List.mem_cons_self ..)
    exact ⟨h1, h2, sep_append h3 (fun y hy => hu y (List.mem_cons_of_mem _ hy)) (by omega) k⟩
theorem fin_spec (s : Sp) : Sep s.f (if s.f < s.t then [s] else []) ∧ Up s.t (if s.f < s.t then [s] else []) ∧ ∀ c, inS (if s.f < s.t then [s] else []) c = decide (s.f ≤ c ∧ c < s.t) := by
  by_cases h : s.f < s.t
  · rw [if_pos h]
    refine ⟨⟨Int.le_refl _, h, trivial⟩, fun x hx => ?_, fun c => by simp [inS]⟩
    rw [List.mem_singleton] at hx
    rw [hx]
    exact Int.le_refl _
  · rw [if_neg h]
    refine ⟨trivial, fun x hx => by simp at hx, fun c => ?_⟩
    have : ¬ (s.f ≤ c ∧ c < s.t) := by omega
    simp only [inS, this, decide_false]
theorem mi_spec : ∀ (b : List Sp) (s : Sp) (lo : Int), Sep lo b → Hd s.f b → Sep s.f (mi s b) ∧ Up s.t (mi s b) ∧ ∀ c, inS (mi s b) c = (decide (s.f ≤ c ∧ c < s.t) && !inS b c)
  | [], s, _, _, _ => by
    obtain ⟨h1, h2, h3⟩ := fin_spec s
    rw [mi]
    exact ⟨h1, h2, fun c => by rw [h3]; simp [inS]⟩
  | x :: b, s, lo, ⟨k1, k2, k3⟩, hd => by
    rw [mi]
    by_cases h : s.t ≤ x.f
    · rw [if_pos h]
      obtain ⟨h1, h2, h3⟩ := fin_spec s
      refine ⟨h1, h2, fun c => ?_⟩
      rw [h3]
      by_cases hc : s.f ≤ c ∧ c < s.t
      · rw [inS_below (l := x :: b) (lo := x.f) ⟨Int.le_refl _, k2, k3⟩ (by omega)]
        simp
      · simp only [hc, decide_false, Bool.false_and]
    · rw [if_neg h]
      have hx : s.f ≤ x.t := hd
      obtain ⟨i1, i2, i3⟩ := mi_spec b ⟨x.t, s.t⟩ _ k3 (by
        cases b with
        | nil => trivial
        | cons y b => obtain ⟨j1, j2, _⟩ := k3; show x.t ≤ y.t; omega)
      have key : ∀ c, (decide (s.f ≤ c ∧ c < x.f) || inS (mi ⟨x.t, s.t⟩ b) c) = (decide (s.f ≤ c ∧ c < s.t) && !inS (x :: b) c) := fun c => by
        rw [i3]
        simp only
        by_cases hc : c < x.t
        · rw [inS, inS_below k3 (by omega), Bool.or_false]
          rw [Bool.eq_iff_iff]
          simp only [Bool.or_eq_true, Bool.and_eq_true, decide_eq_true_eq, Bool.not_eq_true', decide_eq_false_iff_not, Bool.not_false, and_true]
          omega
        · rw [inS_cons_out (by omega)]
          have e1 : decide (s.f ≤ c ∧ c < x.f) = false := by simp only [decide_eq_false_iff_not]; omega
          have e2 : decide (x.t ≤ c ∧ c < s.t) = decide (s.f ≤ c ∧ c < s.t) := by rw [Bool.eq_iff_iff, decide_eq_true_eq, decide_eq_true_eq]; omega
          rw [e1, e2, Bool.false_or]
      by_cases hf : s.f < x.f
      · rw [if_pos hf]
        refine ⟨⟨Int.le_refl _, hf, sep_mono i1 (by show x.f + 1 ≤ x.t; omega)⟩, fun y hy => ?_, fun c => ?_⟩
        · rcases List.mem_cons.1 hy with rfl | hy
          · show x.f ≤ s.t; omega
          · exact i2 y hy
        · rw [← key]
          rfl
      · rw [if_neg hf]
        refine ⟨sep_mono i1 hx, i2, fun c => ?_⟩
        rw [← key, List.nil_append]
        have e1 : decide (s.f ≤ c ∧ c < x.f) = false := by simp only [decide_eq_false_iff_not]; omega
        rw [e1, Bool.false_or]
theorem dropB_spec : ∀ (b : List Sp) (f lo : Int), Sep lo b → (∃ lo', Sep lo' (dropB f b)) ∧ Hd f (dropB f b) ∧ ∀ c, f ≤ c → inS (dropB f b) c = inS b c
  | [], _, lo, h => ⟨⟨lo, trivial⟩, trivial, fun _ _ => rfl⟩
  | x :: b, f, lo, ⟨k1, k2, k3⟩ => by
    rw [dropB]
    by_cases h : x.t ≤ f
    · rw [if_pos h]
      obtain ⟨i1, i2, i3⟩ := dropB_spec b f _ k3
      exact ⟨i1, i2, fun c hc => by rw [i3 c hc, inS_cons_out (by omega)]⟩
    · rw [if_neg h]
      exact ⟨⟨lo, k1, k2, k3⟩, by show f ≤ x.t; omega, fun _ _ => rfl⟩
theorem mn_spec : ∀ (a b : List Sp) (lo lb : Int), Sep lo a → Sep lb b → Sep lo (mn a b) ∧ ∀ c, inS (mn a b) c = (inS a c && !inS b c)
  | [], b, _, _, _, _ => ⟨trivial, fun _ => rfl⟩
  | s :: a, b, lo, lb, ⟨k1, k2, k3⟩, hb => by
    rw [mn]
    obtain ⟨⟨lb', d1⟩, d2, d3⟩ := dropB_spec b s.f lb hb
    obtain ⟨m1, m2, m3⟩ := mi_spec (dropB s.f b) s lb' d1 d2
    obtain ⟨i1, i2⟩ := mn_spec a (dropB s.f b) (s.t + 1) lb' k3 d1
    refine ⟨sep_append (sep_mono m1 k1) m2 (by omega) i1, fun c => ?_⟩
    rw [inS_append, m3, i2]
    by_cases hc : s.f ≤ c
    · rw [d3 c hc, inS, Bool.and_or_distrib_right]
    · rw [inS_cons_out (by omega), inS_below k3 (by omega)]
      have : ¬ (s.f ≤ c ∧ c < s.t) := by omega
      simp only [this, decide_false, Bool.false_and, Bool.or_false]
theorem mi_len : ∀ (b : List Sp) (s : Sp), (mi s b).length ≤ b.length + 1
  | [], s => by rw [mi]; split <;> simp
  | x :: b, s => by
    rw [mi]
    have := mi_len b ⟨x.t, s.t⟩
    split
    · split <;> simp
    · split <;> (simp; omega)
theorem dropB_len : ∀ (b : List Sp) (f : Int), (dropB f b).length ≤ b.length
  | [], _ => Nat.le_refl _
  | x :: b, f => by
    rw [dropB]
    have := dropB_len b f
    split
    · simp; omega
    · exact Nat.le_refl _
theorem mn_len : ∀ (a b : List Sp) (n : Nat), b.length ≤ n → (mn a b).length ≤ a.length * (n + 1)
  | [], _, _, _ => by simp [mn]
  | s :: a, b, n, h => by
    have h1 := dropB_len b s.f
    have h2 := mi_len (dropB s.f b) s
    have h3 := mn_len a (dropB s.f b) n (by omega)
    rw [mn, List.length_append, List.length_cons, Nat.succ_mul]
    omega

def Gp (E : Int → Prop) : Int → List Int → Prop
  | _, [] => True
  | g, h :: l => (∀ e, E e → e ≤ g ∨ h ≤ e) ∧ Gp E h l
theorem asc_mem : ∀ {l : List Int} {g e : Int}, Asc g l → e ∈ l → g < e ∧ e ≤ lastOf g l
  | h :: l, g, e, ⟨h1, h2⟩, he => by
    rw [lastOf]
    rcases List.mem_cons.1 he with rfl | he
    · exact ⟨h1, asc_last h2⟩
    · have := asc_mem h2 he
      exact ⟨by omega, this.2⟩
theorem gp_of (E : Int → Prop) : ∀ {l : List Int} {g : Int}, Asc g l → (∀ e, E e → e ≤ g ∨ e ∈ l) → Gp E g l
  | [], _, _, _ => trivial
  | h :: l, g, ⟨h1, h2⟩, hE => by
    refine ⟨fun e he => ?_, gp_of E h2 fun e he => ?_⟩
    · rcases hE e he with h | h
      · exact .inl h
      · rcases List.mem_cons.1 h with rfl | h
        · exact .inr (Int.le_refl _)
        · exact .inr (Int.le_of_lt (asc_mem h2 h).1)
    · rcases hE e he with h | h
      · exact .inl (by omega)
      · rcases List.mem_cons.1 h with rfl | h
        · exact .inl (Int.le_refl _)
        · exact .inr h
theorem pc_of {E : Int → Prop} {cs : Int → List Sp} (hc : ∀ g h r, (∀ e, E e → e ≤ g ∨ h ≤ e) → g ≤ r → r < h → cs r = cs g) : ∀ {l : List Int} {g : Int}, Gp E g l → Pc cs g l
  | [], _, _ => trivial
  | h :: l, g, ⟨h1, h2⟩ => ⟨fun r k1 k2 => hc g h r h1 k1 k2, pc_of hc h2⟩

/-- the numbers at which rectangles begin or end -/
def EdR (A : List Rc) (e : Int) : Prop := ∃ x, x ∈ A ∧ (e = x.a ∨ e = x.c)
def EdC (A : List Rc) (e : Int) : Prop := ∃ x, x ∈ A ∧ (e = x.b ∨ e = x.d)
theorem act_const {A : List Rc} {g h r : Int} (hg : ∀ e, EdR A e → e ≤ g ∨ h ≤ e) (h1 : g ≤ r) (h2 : r < h) {x : Rc} (hx : x ∈ A) : act x r = act x g := by
  have ka := hg x.a ⟨x, hx, .inl rfl⟩
  have kc := hg x.c ⟨x, hx, .inr rfl⟩
  unfold act
  rw [Bool.eq_iff_iff, decide_eq_true_eq, decide_eq_true_eq]
  omega
theorem has_rows {l : List Rc} {r r' : Int} (h : ∀ x, x ∈ l → act x r = act x r') (c : Int) : has l r c = has l r' c := by
  induction l with
  | nil => rfl
  | cons x l ih =>
    rw [has, has, inR, inR, h x (List.mem_cons_self ..), ih fun y hy => h y (List.mem_cons_of_mem _ hy)]
theorem has_cols {A : List Rc} {g h c : Int} (hg : ∀ e, EdC A e → e ≤ g ∨ h ≤ e) (h1 : g ≤ c) (h2 : c < h) (r : Int) : ∀ {l : List Rc}, (∀ x, x ∈ l → x ∈ A) → has l r c = has l r g
  | [], _ => rfl
  | x :: l, hl => by
    have kb := hg x.b ⟨x, hl x (List.mem_cons_self ..), .inl rfl⟩
    have kd := hg x.d ⟨x, hl x (List.mem_cons_self ..), .inr rfl⟩
    rw [has, has, has_cols hg h1 h2 r fun y hy => hl y (List.mem_cons_of_mem _ hy)]
    congr 1
    unfold inR
    congr 1
    rw [Bool.eq_iff_iff, decide_eq_true_eq, decide_eq_true_eq]
    omega

def sc (f : Int → Bool) : Sp → Int → List Int → List Sp
  | cur, _, [] => [cur]
  | cur, g, h :: l => if f g then (if cur.t = g then sc f ⟨cur.f, h⟩ h l else cur :: sc f ⟨g, h⟩ h l) else sc f cur h l
def sc0 (f : Int → Bool) : Int → List Int → List Sp
  | _, [] => []
  | g, h :: l => if f g then sc f ⟨g, h⟩ h l else sc0 f h l
def Pf (f : Int → Bool) : Int → List Int → Prop
  | _, [] => True
  | g, h :: l => (∀ c, g ≤ c → c < h → f c = f g) ∧ Pf f h l
theorem pf_of {E : Int → Prop} {f : Int → Bool} (hc : ∀ g h r, (∀ e, E e → e ≤ g ∨ h ≤ e) → g ≤ r → r < h → f r = f g) : ∀ {l : List Int} {g : Int}, Gp E g l → Pf f g l
  | [], _, _ => trivial
  | h :: l, g, ⟨h1, h2⟩ => ⟨fun r k1 k2 => hc g h r h1 k1 k2, pf_of hc h2⟩
theorem sc_spec (f : Int → Bool) : ∀ (l : List Int) (cur : Sp) (g : Int), Asc g l → Pf f g l → cur.f < cur.t → cur.t ≤ g →
    Sep cur.f (sc f cur g l) ∧ ∀ c, inS (sc f cur g l) c = (decide (cur.f ≤ c ∧ c < cur.t) || (decide (g ≤ c ∧ c < lastOf g l) && f c))
  | [], cur, g, _, _, h, _ => by
    refine ⟨⟨Int.le_refl _, h, trivial⟩, fun c => ?_⟩
    rw [lastOf]
    have : ¬ (g ≤ c ∧ c < g) := by omega
    simp only [sc, inS, this, decide_false, Bool.false_and]
  | h :: l, cur, g, ⟨a1, a2⟩, ⟨p1, p2⟩, hc, hg => by
    have hla := asc_last a2
    have part : ∀ c, (decide (g ≤ c ∧ c < lastOf h l) && f c) = ((decide (g ≤ c ∧ c < h) && f g) || (decide (h ≤ c ∧ c < lastOf h l) && f c)) := fun c => by
      by_cases k : g ≤ c ∧ c < h
      · have e1 : decide (g ≤ c ∧ c < lastOf h l) = true := by rw [decide_eq_true_eq]; omega
        have e2 : decide (h ≤ c ∧ c < lastOf h l) = false := by rw [decide_eq_false_iff_not]; omega
        rw [p1 c k.1 k.2, e1, e2]
        simp [k]
      · have e2 : decide (h ≤ c ∧ c < lastOf h l) = decide (g ≤ c ∧ c < lastOf h l) := by rw [Bool.eq_iff_iff, decide_eq_true_eq, decide_eq_true_eq]; omega
        rw [e2]
        simp [k]
    rw [sc, lastOf]
    by_cases hf : f g = true
    · rw [if_pos hf]
      by_cases ht : cur.t = g
      · rw [if_pos ht]
        obtain ⟨i1, i2⟩ := sc_spec f l ⟨cur.f, h⟩ h a2 p2 (by show cur.f < h; omega) (Int.le_refl _)
        refine ⟨i1, fun c => ?_⟩
        rw [i2, part, hf, Bool.and_true, ← Bool.or_assoc]
        congr 1
        rw [Bool.eq_iff_iff, Bool.or_eq_true, decide_eq_true_eq, decide_eq_true_eq, decide_eq_true_eq]
        simp only
        omega
      · rw [if_neg ht]
        obtain ⟨i1, i2⟩ := sc_spec f l ⟨g, h⟩ h a2 p2 a1 (Int.le_refl _)
        refine ⟨⟨Int.le_refl _, hc, sep_mono i1 (by show cur.t + 1 ≤ g; omega)⟩, fun c => ?_⟩
        rw [inS, i2, part, hf, Bool.and_true]
    · rw [if_neg hf]
      obtain ⟨i1, i2⟩ := sc_spec f l cur h a2 p2 hc (by omega)
      refine ⟨i1, fun c => ?_⟩
      have hf' : f g = false := by simpa using hf
      rw [i2, part, hf', Bool.and_false, Bool.false_or]
theorem sc0_spec (f : Int → Bool) : ∀ (l : List Int) (g : Int), Asc g l → Pf f g l → Sep g (sc0 f g l) ∧ ∀ c, inS (sc0 f g l) c = (decide (g ≤ c ∧ c < lastOf g l) && f c)
  | [], g, _, _ => by
    refine ⟨trivial, fun c => ?_⟩
    have : ¬ (g ≤ c ∧ c < g) := by omega
    simp only [sc0, lastOf, inS, this, decide_false, Bool.false_and]
  | h :: l, g, ⟨a1, a2⟩, ⟨p1, p2⟩ => by
    have hla := asc_last a2
    rw [sc0, lastOf]
    by_cases hf : f g = true
    · rw [if_pos hf]
      obtain ⟨i1, i2⟩ := sc_spec f l ⟨g, h⟩ h a2 p2 a1 (Int.le_refl _)
      refine ⟨i1, fun c => ?_⟩
      rw [i2]
      simp only
      by_cases k : g ≤ c ∧ c < h
      · have e1 : decide (g ≤ c ∧ c < lastOf h l) = true := by rw [decide_eq_true_eq]; omega
        rw [p1 c k.1 k.2, e1, hf]
        simp [k]
      · have e2 : decide (h ≤ c ∧ c < lastOf h l) = decide (g ≤ c ∧ c < lastOf h l) := by rw [Bool.eq_iff_iff, decide_eq_true_eq, decide_eq_true_eq]; omega
        rw [e2]
        simp [k]
    · rw [if_neg hf]
      have hf' : f g = false := by simpa using hf
      obtain ⟨i1, i2⟩ := sc0_spec f l h a2 p2
      refine ⟨sep_mono i1 (by omega), fun c => ?_⟩
      rw [i2]
      by_cases k : g ≤ c ∧ c < h
      · have e2 : decide (h ≤ c ∧ c < lastOf h l) = false := by rw [decide_eq_false_iff_not]; omega
        rw [p1 c k.1 k.2, hf', e2]
        simp
      · have e2 : decide (h ≤ c ∧ c < lastOf h l) = decide (g ≤ c ∧ c < lastOf h l) := by rw [Bool.eq_iff_iff, decide_eq_true_eq, decide_eq_true_eq]; omega
        rw [e2]
end Rg
end Go.Proofs.Ytkbpdgghnlnakaa
