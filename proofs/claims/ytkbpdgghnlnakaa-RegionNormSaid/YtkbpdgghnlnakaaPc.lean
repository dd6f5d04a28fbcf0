/- The two ways to the normal form, plainly; what a normal form has; how long it is. -/
import Derived.Test.YtkbpdgghnlnakaaPb
namespace Go.Proofs.Ytkbpdgghnlnakaa
namespace Rg
set_option linter.unusedVariables false
set_option linter.unusedSimpArgs false

def Ascl : List Int → Prop
  | [] => True
  | g :: l => Asc g l
/-- rectangles that are none empty -/
def Ok (A : List Rc) : Prop := ∀ x, x ∈ A → x.a < x.c ∧ x.b < x.d
def dif (A B : List Rc) (r c : Int) : Bool := has A r c && !has B r c
theorem col0_none {r : Int} : ∀ {l : List Rc}, (∀ x, x ∈ l → act x r = false) → col0 r l = []
  | [], _ => rfl
  | x :: l, h => by rw [col0, h x (List.mem_cons_self ..)]; simp only [Bool.false_eq_true, if_false]; exact col0_none fun y hy => h y (List.mem_cons_of_mem _ hy)
theorem has_none {r : Int} : ∀ {l : List Rc}, (∀ x, x ∈ l → act x r = false) → ∀ c, has l r c = false
  | [], _, _ => rfl
  | x :: l, h, c => by rw [has_cons_out (h x (List.mem_cons_self ..))]; exact has_none (fun y hy => h y (List.mem_cons_of_mem _ hy)) c
theorem act_out {x : Rc} {g r : Int} {l : List Int} (h : Asc g l) (ha : x.a ∈ g :: l) (hc : x.c ∈ g :: l) (ho : r < g ∨ lastOf g l ≤ r) : act x r = false := by
  have hl := asc_last h
  have k : ∀ e, e ∈ g :: l → g ≤ e ∧ e ≤ lastOf g l := fun e he => by
    rcases List.mem_cons.1 he with rfl | he
    · exact ⟨Int.le_refl _, hl⟩
    · have := asc_mem h he; exact ⟨by omega, this.2⟩
  have k1 := k _ ha
  have k2 := k _ hc
  unfold act
  rw [decide_eq_false_iff_not]
  omega

/-- the program's columns of a row -/
def csP (A B : List Rc) (r : Int) : List Sp := mn (col0 r A) (col0 r B)
def bandsP (cs : Int → List Sp) : List Int → List Bd
  | g :: h :: l => grp true cs ⟨g, h, cs g⟩ l
  | _ => []
theorem nf_prog {A B A' B' : List Rc} {G : List Int} {la lb : Int} (hA : ∀ x, x ∈ A' ↔ x ∈ A) (hB : ∀ x, x ∈ B' ↔ x ∈ B) (oA : Ok A) (oB : Ok B) (lA : Lft la A') (lB : Lft lb B')
    (hG : Ascl G) (hE : ∀ e, e ∈ G ↔ EdR (A ++ B) e) : Nf (dif A B) (flatB (bandsP (csP A' B') G)) := by
  have eA : ∀ x, x ∈ A → x.a ∈ G ∧ x.c ∈ G := fun x hx => ⟨(hE _).2 ⟨x, List.mem_append.2 (.inl hx), .inl rfl⟩, (hE _).2 ⟨x, List.mem_append.2 (.inl hx), .inr rfl⟩⟩
  have eB : ∀ x, x ∈ B → x.a ∈ G ∧ x.c ∈ G := fun x hx => ⟨(hE _).2 ⟨x, List.mem_append.2 (.inr hx), .inl rfl⟩, (hE _).2 ⟨x, List.mem_append.2 (.inr hx), .inr rfl⟩⟩
  match G, hG, hE, eA, eB with
  | [], _, _, eA, _ =>
    refine nf_empty _ fun r c => ?_
    have : A = [] := by
      cases A with
      | nil => rfl
      | cons x A => have := (eA x (List.mem_cons_self ..)).1; simp at this
    rw [dif, this]
    rfl
  | [g], _, _, eA, _ =>
    refine nf_empty _ fun r c => ?_
    have : A = [] := by
      cases A with
      | nil => rfl
      | cons x A =>
        have h1 := (eA x (List.mem_cons_self ..)).1
        have h2 := (eA x (List.mem_cons_self ..)).2
        have h3 := (oA x (List.mem_cons_self ..)).1
        rw [List.mem_singleton] at h1 h2
        omega
    rw [dif, this]
    rfl
  | g :: h :: l, hG, hE, eA, eB =>
    rw [bandsP, ← grp_first]
    have cc : ∀ p q r, (∀ e, EdR (A ++ B) e → e ≤ p ∨ q ≤ e) → p ≤ r → r < q → csP A' B' r = csP A' B' p := fun p q r he h1 h2 => by
      unfold csP
      rw [col0_congr r p A' fun x hx => act_const he h1 h2 (List.mem_append.2 (.inl ((hA x).1 hx))), col0_congr r p B' fun x hx => act_const he h1 h2 (List.mem_append.2 (.inr ((hB x).1 hx)))]
    refine nf_grp true (csP A' B') (dif A B) g (h :: l) hG (pc_of cc (gp_of _ hG fun e he => ?_)) (fun r => ⟨la, (mn_spec _ _ la lb (col0_spec r A' la lA).1 (col0_spec r B' lb lB).1).1⟩) (fun r c => ?_) (fun r ho => ?_)
    · rcases List.mem_cons.1 ((hE e).2 he) with rfl | h
      · exact .inl (Int.le_refl _)
      · exact .inr h
    · unfold csP
      rw [(mn_spec _ _ la lb (col0_spec r A' la lA).1 (col0_spec r B' lb lB).1).2, (col0_spec r A' la lA).2, (col0_spec r B' lb lB).2, has_mem hA, has_mem hB]
      rfl
    · unfold csP
      rw [col0_none fun x hx => act_out hG (eA x ((hA x).1 hx)).1 (eA x ((hA x).1 hx)).2 ho]
      rfl

/-- the reference's columns of a row -/
def csR (A B : List Rc) (C : List Int) (r : Int) : List Sp :=
  match C with
  | [] => []
  | g :: l => sc0 (dif A B r) g l
def formR (cs : Int → List Sp) : List Int → List Rc
  | [] => []
  | g :: l => flatB (grp false cs ⟨g, g, []⟩ l)
theorem nf_ref {A B : List Rc} {G C : List Int} (hG : Ascl G) (hE : ∀ e, e ∈ G ↔ EdR (A ++ B) e) (hC : Ascl C) (hF : ∀ e, e ∈ C ↔ EdC (A ++ B) e) : Nf (dif A B) (formR (csR A B C) G) := by
  have eA : ∀ x, x ∈ A → x.a ∈ G ∧ x.c ∈ G := fun x hx => ⟨(hE _).2 ⟨x, List.mem_append.2 (.inl hx), .inl rfl⟩, (hE _).2 ⟨x, List.mem_append.2 (.inl hx), .inr rfl⟩⟩
  have fA : ∀ x, x ∈ A → x.b ∈ C ∧ x.d ∈ C := fun x hx => ⟨(hF _).2 ⟨x, List.mem_append.2 (.inl hx), .inl rfl⟩, (hF _).2 ⟨x, List.mem_append.2 (.inl hx), .inr rfl⟩⟩
  have nA : A = [] → Nf (dif A B) (formR (csR A B C) G) → True := fun _ _ => trivial
  match G, C, hG, hE, hC, hF, eA, fA with
  | [], C, _, _, _, _, eA, _ =>
    refine nf_empty _ fun r c => ?_
    have : A = [] := by
      cases A with
      | nil => rfl
      | cons x A => have := (eA x (List.mem_cons_self ..)).1; simp at this
    rw [dif, this]
    rfl
  | g :: l, [], hG, hE, hC, hF, eA, fA =>
    have hA : A = [] := by
      cases A with
      | nil => rfl
      | cons x A => have := (fA x (List.mem_cons_self ..)).1; simp at this
    refine nf_grp false (csR A B []) (dif A B) g l hG (pc_of (E := fun _ => False) (fun _ _ _ _ _ _ => rfl) (gp_of _ hG fun e he => he.elim)) (fun r => ⟨0, trivial⟩) (fun r c => ?_) (fun r _ => rfl)
    rw [dif, hA]
    rfl
  | g :: l, k :: m, hG, hE, hC, hF, eA, fA =>
    have dc : ∀ r, Pf (dif A B r) k m := fun r => pf_of (E := EdC (A ++ B)) (fun p q c he h1 h2 => by
      unfold dif
      rw [has_cols he h1 h2 r fun x hx => List.mem_append.2 (.inl hx), has_cols he h1 h2 r fun x hx => List.mem_append.2 (.inr hx)]) (gp_of _ hC fun e he => by
        rcases List.mem_cons.1 ((hF e).2 he) with rfl | h
        · exact .inl (Int.le_refl _)
        · exact .inr h)
    refine nf_grp false (csR A B (k :: m)) (dif A B) g l hG (pc_of (E := EdR (A ++ B)) (fun p q r he h1 h2 => ?_) (gp_of _ hG fun e he => ?_)) (fun r => ⟨k, (sc0_spec _ m k hC (dc r)).1⟩) (fun r c => ?_) (fun r ho => ?_)
    · have : dif A B r = dif A B p := funext fun c => by
        unfold dif
        rw [has_rows (fun x hx => act_const he h1 h2 (List.mem_append.2 (.inl hx))) c, has_rows (fun x hx => act_const he h1 h2 (List.mem_append.2 (.inr hx))) c]
      unfold csR
      simp only [this]
    · rcases List.mem_cons.1 ((hE e).2 he) with rfl | h
      · exact .inl (Int.le_refl _)
      · exact .inr h
    · unfold csR
      simp only
      rw [(sc0_spec _ m k hC (dc r)).2]
      by_cases hc : k ≤ c ∧ c < lastOf k m
      · simp [hc]
      · have hn : has A r c = false := by
          rw [← Bool.not_eq_true, has_iff]
          rintro ⟨x, hx, hi⟩
          have kk : ∀ e, e ∈ k :: m → k ≤ e ∧ e ≤ lastOf k m := fun e he => by
            rcases List.mem_cons.1 he with rfl | he
            · exact ⟨Int.le_refl _, asc_last hC⟩
            · have := asc_mem hC he; exact ⟨by omega, this.2⟩
          have k1 := kk _ (fA x hx).1
          have k2 := kk _ (fA x hx).2
          unfold inR at hi
          rw [Bool.and_eq_true, decide_eq_true_eq] at hi
          omega
        rw [dif, hn]
        simp
    · unfold csR
      simp only
      have hz : dif A B r = fun _ => false := funext fun c => by
        rw [dif, has_none (fun x hx => act_out hG (eA x hx).1 (eA x hx).2 ho) c]
        rfl
      rw [hz]
      have : ∀ (m : List Int) (k : Int), sc0 (fun _ => false) k m = [] := fun m => by
        induction m with
        | nil => intro k; rfl
        | cons h m ih => intro k; rw [sc0]; simp only [Bool.false_eq_true, if_false]; exact ih h
      exact this m k

theorem rl_mem : ∀ {B : List Bd} {lo : Int} {pv : List Sp} {b : Bd}, Rl lo pv B → b ∈ B → lo ≤ b.f ∧ b.f < b.t ∧ ∀ r, b.f ≤ r → r < b.t → valB B r = b.cs
  | x :: B, lo, pv, b, ⟨h1, h2, h3, h4, h5⟩, hb => by
    rcases List.mem_cons.1 hb with rfl | hb
    · exact ⟨h1, h3, fun r k1 k2 => by rw [valB, if_pos ⟨k1, k2⟩]⟩
    · obtain ⟨i1, i2, i3⟩ := rl_mem h5 hb
      exact ⟨by omega, i2, fun r k1 k2 => by rw [valB, if_neg (by omega)]; exact i3 r k1 k2⟩
theorem sep_mem : ∀ {l : List Sp} {lo : Int} {s : Sp}, Sep lo l → s ∈ l → lo ≤ s.f ∧ s.f < s.t
  | x :: l, lo, s, ⟨h1, h2, h3⟩, hs => by
    rcases List.mem_cons.1 hs with rfl | hs
    · exact ⟨h1, h2⟩
    · have := sep_mem h3 hs
      exact ⟨by omega, this.2⟩
theorem has_rows_b (b : Bd) (r c : Int) : has (rows b) r c = (decide (b.f ≤ r ∧ r < b.t) && inS b.cs c) := by
  unfold rows
  induction b.cs with
  | nil => simp [has, inS]
  | cons s l ih =>
    rw [List.map_cons, has, ih, inS, inR, act, Bool.and_or_distrib_left]
theorem has_flatB : ∀ {B : List Bd} {lo : Int} {pv : List Sp}, Rl lo pv B → ∀ r c, has (flatB B) r c = inS (valB B r) c
  | [], _, _, _, _, _ => rfl
  | b :: B, lo, pv, ⟨h1, h2, h3, h4, h5⟩, r, c => by
    rw [flatB_cons, has_append, has_rows_b, has_flatB h5, valB]
    by_cases h : b.f ≤ r ∧ r < b.t
    · rw [if_pos h, rl_below h5 h.2]
      simp [h, inS]
    · rw [if_neg h]
      simp [h]
theorem nf_has {S : Int → Int → Bool} {l : List Rc} (h : Nf S l) (r c : Int) : has l r c = S r c := by
  obtain ⟨B, lo, hr, rfl, hv⟩ := h
  rw [has_flatB hr, (hv r).2]
theorem nf_ok {S : Int → Int → Bool} {l : List Rc} (h : Nf S l) : Ok l := by
  obtain ⟨B, lo, hr, rfl, hv⟩ := h
  intro x hx
  unfold flatB at hx
  rw [List.mem_flatMap] at hx
  obtain ⟨b, hb, hx⟩ := hx
  unfold rows at hx
  rw [List.mem_map] at hx
  obtain ⟨s, hs, rfl⟩ := hx
  obtain ⟨_, h2, h3⟩ := rl_mem hr hb
  obtain ⟨⟨lo', hsep⟩, _⟩ := hv b.f
  rw [h3 b.f (Int.le_refl _) h2] at hsep
  exact ⟨h2, (sep_mem hsep hs).2⟩
/-- may a rectangle be? -/
def May (x : Rc) : Prop := 0 ≤ x.a ∧ x.a < x.c ∧ x.c ≤ 4398046511104 ∧ 0 ≤ x.b ∧ x.b < x.d ∧ x.d ≤ 4398046511104
def mayB (x : Rc) : Bool := decide (0 ≤ x.a ∧ x.a < x.c ∧ x.c ≤ 4398046511104 ∧ 0 ≤ x.b ∧ x.b < x.d ∧ x.d ≤ 4398046511104)
theorem mayB_iff {x : Rc} : mayB x = true ↔ May x := by unfold mayB May; rw [decide_eq_true_eq]
def Mays (A : List Rc) : Prop := ∀ x, x ∈ A → May x
theorem Mays.ok {A : List Rc} (h : Mays A) : Ok A := fun x hx => ⟨(h x hx).2.1, (h x hx).2.2.2.2.1⟩
/-- a set of cells of the sheet -/
def Inn (S : Int → Int → Bool) : Prop := ∀ r c, S r c = true → 0 ≤ r ∧ r < 4398046511104 ∧ 0 ≤ c ∧ c < 4398046511104
theorem mays_inn {A : List Rc} (h : Mays A) : Inn (has A) := by
  intro r c hc
  obtain ⟨x, hx, hi⟩ := has_iff.1 hc
  obtain ⟨h1, h2, h3, h4, h5, h6⟩ := h x hx
  unfold inR act at hi
  rw [Bool.and_eq_true, decide_eq_true_eq, decide_eq_true_eq] at hi
  omega
theorem dif_inn {A B : List Rc} (h : Mays A) : Inn (dif A B) := fun r c hc => mays_inn h r c (by unfold dif at hc; rw [Bool.and_eq_true] at hc; exact hc.1)
theorem nf_mays {S : Int → Int → Bool} {l : List Rc} (h : Nf S l) (hi : Inn S) : Mays l := by
  intro x hx
  obtain ⟨h1, h2⟩ := nf_ok h x hx
  have k : ∀ r c, x.a ≤ r → r < x.c → x.b ≤ c → c < x.d → S r c = true := fun r c k1 k2 k3 k4 => by
    rw [← nf_has h]
    exact has_iff.2 ⟨x, hx, by unfold inR act; rw [Bool.and_eq_true, decide_eq_true_eq, decide_eq_true_eq]; omega⟩
  have p := hi _ _ (k x.a x.b (by omega) (by omega) (by omega) (by omega))
  have q := hi _ _ (k (x.c - 1) (x.d - 1) (by omega) (by omega) (by omega) (by omega))
  unfold May
  omega

/-- those of a list that count -/
def cnted (L : List Rc) : List Rc := (L.take 256).filter mayB
theorem cnted_mays (L : List Rc) : Mays (cnted L) := fun x hx => mayB_iff.1 (List.mem_filter.1 hx).2
theorem cnted_self {L : List Rc} (h : Mays L) (hl : L.length ≤ 256) : cnted L = L := by
  unfold cnted
  rw [List.take_of_length_le hl, List.filter_eq_self.2 fun x hx => mayB_iff.2 (h x hx)]
theorem cnted_len (L : List Rc) : (cnted L).length ≤ 256 := by
  unfold cnted
  exact Nat.le_trans (List.length_filter_le _ _) (by rw [List.length_take]; exact Nat.min_le_left _ _)
theorem cnted_len' (L : List Rc) : (cnted L).length ≤ L.length := by
  unfold cnted
  exact Nat.le_trans (List.length_filter_le _ _) (by rw [List.length_take]; exact Nat.min_le_right _ _)
def nrm (L l : List Rc) : Prop := Nf (dif (cnted L) []) l
theorem dif_nil (A : List Rc) (r c : Int) : dif A [] r c = has A r c := by unfold dif; simp [has]

def sl (cs : Int → List Sp) : Int → List Int → Nat
  | _, [] => 0
  | g, h :: l => (cs g).length + sl cs h l
theorem rows_len (b : Bd) : (rows b).length = b.cs.length := by unfold rows; simp
theorem grp_len (e : Bool) (cs : Int → List Sp) : ∀ (l : List Int) (cur : Bd), (flatB (grp e cs cur l)).length ≤ cur.cs.length + sl cs cur.t l
  | [], cur => by rw [grp, flatB_cons, flatB_nil, List.append_nil, rows_len]; exact Nat.le_add_right _ _
  | g :: l, cur => by
    rw [grp, sl]
    by_cases h : same e cs cur = true
    · rw [if_pos h]
      have := grp_len e cs l ⟨cur.f, g, cur.cs⟩
      simp only at this
      omega
    · rw [if_neg h, flatB_cons, List.length_append, rows_len]
      have := grp_len e cs l ⟨cur.t, g, cs cur.t⟩
      simp only at this
      omega
def ce (g : Int) : List Rc → Nat
  | [] => 0
  | x :: l => (if x.a ≤ g then 1 else 0) + (if x.c ≤ g then 1 else 0) + ce g l
theorem ce_mono {g h : Int} (hgh : g ≤ h) : ∀ L : List Rc, ce g L ≤ ce h L
  | [] => Nat.le_refl _
  | x :: L => by
    have := ce_mono hgh L
    rw [ce, ce]
    by_cases h1 : x.a ≤ g
    · by_cases h2 : x.c ≤ g
      · rw [if_pos h1, if_pos h2, if_pos (by omega), if_pos (by omega)]; omega
      · rw [if_pos h1, if_neg h2, if_pos (by omega)]; split <;> omega
    · by_cases h2 : x.c ≤ g
      · rw [if_neg h1, if_pos h2, if_pos (show x.c ≤ h by omega)]; split <;> omega
      · rw [if_neg h1, if_neg h2]; omega
theorem ce_step {g h : Int} (hgh : g < h) : ∀ {L : List Rc}, (∃ x, x ∈ L ∧ (h = x.a ∨ h = x.c)) → ce g L + 1 ≤ ce h L
  | x :: L, ⟨y, hy, he⟩ => by
    rw [ce, ce]
    rcases List.mem_cons.1 hy with rfl | hy
    · have := ce_mono (Int.le_of_lt hgh) L
      rcases he with he | he
      · rw [if_neg (show ¬ y.a ≤ g by omega), if_pos (show y.a ≤ h by omega)]
        by_cases h2 : y.c ≤ g
        · rw [if_pos h2, if_pos (by omega)]; omega
        · rw [if_neg h2]; split <;> omega
      · rw [if_neg (show ¬ y.c ≤ g by omega), if_pos (show y.c ≤ h by omega)]
        by_cases h2 : y.a ≤ g
        · rw [if_pos h2, if_pos (by omega)]; omega
        · rw [if_neg h2]; split <;> omega
    · have := ce_step hgh ⟨y, hy, he⟩
      have h3 := ce_mono (Int.le_of_lt hgh) [x]
      simp only [ce] at h3
      omega
theorem cnt_ce (g : Int) : ∀ L : List Rc, cnt g L + ce g L ≤ 2 * L.length
  | [] => Nat.le_refl _
  | x :: L => by
    have := cnt_ce g L
    rw [cnt, ce, List.length_cons]
    cases ha : act x g with
    | false => simp only [Bool.false_eq_true, if_false]; split <;> split <;> omega
    | true =>
      unfold act at ha
      rw [decide_eq_true_eq] at ha
      rw [if_pos rfl, if_pos ha.1, if_neg (by omega)]
      omega
def S2 : Nat → Nat
  | 0 => 0
  | n + 1 => S2 n + min 12 (n + 1)
theorem sl_len {L : List Rc} {cs : Int → List Sp} (hL : L.length ≤ 12) (hc : ∀ r, (cs r).length ≤ cnt r L) : ∀ (l : List Int) (g : Int) (k : Nat), Asc g l → (∀ e, e ∈ l → ∃ x, x ∈ L ∧ (e = x.a ∨ e = x.c)) → k ≤ ce g L → sl cs g l ≤ S2 (24 - k)
  | [], _, _, _, _, _ => Nat.zero_le _
  | h :: l, g, k, ⟨h1, h2⟩, he, hk => by
    have i1 := sl_len hL hc l h (k + 1) h2 (fun e hm => he e (List.mem_cons_of_mem _ hm)) (Nat.le_trans (Nat.succ_le_succ hk) (ce_step h1 (he h (List.mem_cons_self ..))))
    have c1 := hc g
    have c2 := cnt_le g L
    have c3 := cnt_ce g L
    rw [sl]
    rcases Nat.lt_or_ge k 24 with h24 | h24
    · obtain ⟨m, hm⟩ : ∃ m, 24 - k = m + 1 := ⟨23 - k, by omega⟩
      rw [hm, S2]
      rw [show 24 - (k + 1) = m by omega] at i1
      omega
    · rw [show 24 - (k + 1) = 24 - k by omega] at i1
      omega
theorem s2_23 : S2 23 = 210 := rfl
theorem bandsP_len {A A' : List Rc} {G : List Int} (hl : A'.length ≤ 12) (hA : ∀ x, x ∈ A' ↔ x ∈ A) (hG : Ascl G) (hE : ∀ e, e ∈ G ↔ EdR (A ++ []) e) : (flatB (bandsP (csP A' []) G)).length ≤ 256 := by
  match G, hG, hE with
  | [], _, _ => simp [bandsP, flatB]
  | [g], _, _ => simp [bandsP, flatB]
  | g :: h :: l, hG, hE =>
    rw [bandsP, ← grp_first]
    have h1 := grp_len true (csP A' []) (h :: l) ⟨g, g, []⟩
    have he : ∀ e, e ∈ g :: h :: l → ∃ x, x ∈ A' ∧ (e = x.a ∨ e = x.c) := fun e hm => by
      obtain ⟨x, hx, h⟩ := (hE e).1 hm
      rw [List.append_nil] at hx
      exact ⟨x, (hA x).2 hx, h⟩
    have h2 := sl_len (L := A') (cs := csP A' []) hl (fun r => by
      unfold csP
      have := mn_len (col0 r A') (col0 r []) 0 (by simp [col0])
      have h3 := col0_len r A'
      omega) (h :: l) g 1 hG (fun e hm => he e (List.mem_cons_of_mem _ hm)) (by
        have := ce_step (g := g - 1) (h := g) (L := A') (by omega) (he g (List.mem_cons_self ..))
        omega)
    rw [show 24 - 1 = 23 from rfl, s2_23] at h2
    simp only [List.length_nil] at h1
    omega
end Rg
end Go.Proofs.Ytkbpdgghnlnakaa
