/- How many cells: of a list in normal form, plainly. -/
import Derived.Test.YtkbpdgghnlnakaaPc
namespace Go.Proofs.Ytkbpdgghnlnakaa
namespace Rg
set_option linter.unusedVariables false
set_option linter.unusedSimpArgs false

def sumTo (h : Int → Int) : Nat → Int
  | 0 => 0
  | n + 1 => sumTo h n + h n
theorem sum_add (h k : Int → Int) : ∀ n, sumTo (fun i => h i + k i) n = sumTo h n + sumTo k n
  | 0 => rfl
  | n + 1 => by rw [sumTo, sumTo, sumTo, sum_add h k n]; omega
theorem sum_congr {h k : Int → Int} (e : ∀ i, h i = k i) (n : Nat) : sumTo h n = sumTo k n := by
  rw [show h = k from funext e]
theorem sum_ind {f t x : Int} (h0 : 0 ≤ f) (h1 : f ≤ t) : ∀ n : Nat, sumTo (fun i => if f ≤ i ∧ i < t then x else 0) n = if (n : Int) ≤ f then 0 else if (n : Int) ≤ t then (n - f) * x else (t - f) * x
  | 0 => by rw [sumTo, if_pos (by simpa using h0)]
  | n + 1 => by
    rw [sumTo, sum_ind h0 h1 n]
    by_cases g1 : ((n + 1 : Nat) : Int) ≤ f
    · rw [if_pos (by omega), if_neg (by omega), if_pos g1]; rfl
    · rw [if_neg g1]
      by_cases g2 : ((n + 1 : Nat) : Int) ≤ t
      · rw [if_pos g2, if_pos (show f ≤ (n : Int) ∧ (n : Int) < t by omega)]
        by_cases g3 : (n : Int) ≤ f
        · rw [if_pos g3, show ((n + 1 : Nat) : Int) - f = 1 by omega]; omega
        · rw [if_neg g3, if_pos (by omega), show ((n + 1 : Nat) : Int) - f = (n - f) + 1 by omega, Int.add_mul, Int.one_mul]
      · rw [if_neg g2, if_neg (show ¬ (f ≤ (n : Int) ∧ (n : Int) < t) by omega)]
        by_cases g3 : (n : Int) ≤ f
        · rw [if_pos g3, show t - f = 0 by omega, Int.zero_mul]; rfl
        · rw [if_neg g3]
          by_cases g4 : (n : Int) ≤ t
          · rw [if_pos g4, show (n : Int) - f = t - f by omega]; omega
          · rw [if_neg g4]; omega
theorem sum_ind' {f t x : Int} (h0 : 0 ≤ f) (h1 : f ≤ t) {n : Nat} (h2 : t ≤ n) : sumTo (fun i => if f ≤ i ∧ i < t then x else 0) n = (t - f) * x := by
  rw [sum_ind h0 h1]
  by_cases g1 : (n : Int) ≤ f
  · rw [if_pos g1, show t - f = 0 by omega, Int.zero_mul]
  · rw [if_neg g1]
    by_cases g2 : (n : Int) ≤ t
    · rw [if_pos g2, show (n : Int) = t by omega]
    · rw [if_neg g2]
def wid : List Sp → Int
  | [] => 0
  | s :: l => (s.t - s.f) + wid l
def area : List Bd → Int
  | [] => 0
  | b :: B => (b.t - b.f) * wid b.cs + area B
def tot : List Rc → Int
  | [] => 0
  | x :: l => (x.c - x.a) * (x.d - x.b) + tot l
theorem tot_append (l l' : List Rc) : tot (l ++ l') = tot l + tot l' := by
  induction l with
  | nil => simp [tot]
  | cons x l ih => rw [List.cons_append, tot, tot, ih]; omega
theorem tot_rows (b : Bd) : tot (rows b) = (b.t - b.f) * wid b.cs := by
  unfold rows
  induction b.cs with
  | nil => simp [tot, wid]
  | cons s l ih => rw [List.map_cons, tot, ih, wid, Int.mul_add]
theorem tot_flatB : ∀ B : List Bd, tot (flatB B) = area B
  | [] => rfl
  | b :: B => by rw [flatB_cons, tot_append, tot_rows, tot_flatB B, area]
theorem wid_sum : ∀ {l : List Sp} {lo : Int} {n : Nat}, Sep lo l → 0 ≤ lo → (∀ s, s ∈ l → s.t ≤ n) → sumTo (fun c => if inS l c then 1 else 0) n = wid l
  | [], lo, n, _, _, _ => by
    rw [wid]
    induction n with
    | zero => rfl
    | succ n ih => rw [sumTo, ih (fun s hs => by simp at hs)]; rfl
  | s :: l, lo, n, ⟨h1, h2, h3⟩, h0, hu => by
    have e : ∀ c, (if inS (s :: l) c then (1 : Int) else 0) = (if s.f ≤ c ∧ c < s.t then 1 else 0) + (if inS l c then 1 else 0) := fun c => by
      by_cases h : s.f ≤ c ∧ c < s.t
      · rw [inS_cons_in h, inS_below h3 (by omega), if_pos rfl, if_pos h]; rfl
      · rw [inS_cons_out h, if_neg h]; omega
    rw [sum_congr e, sum_add, sum_ind' (by omega) (by omega) (hu s (List.mem_cons_self ..)), wid_sum h3 (by omega) fun x hx => hu x (List.mem_cons_of_mem _ hx), wid]
    omega
theorem area_sum : ∀ {B : List Bd} {lo : Int} {pv : List Sp} {n : Nat}, Rl lo pv B → 0 ≤ lo → (∀ b, b ∈ B → b.t ≤ n) → sumTo (fun r => wid (valB B r)) n = area B
  | [], lo, pv, n, _, _, _ => by
    rw [area]
    induction n with
    | zero => rfl
    | succ n ih => rw [sumTo, ih (fun s hs => by simp at hs)]; rfl
  | b :: B, lo, pv, n, ⟨h1, h2, h3, h4, h5⟩, h0, hu => by
    have e : ∀ r, wid (valB (b :: B) r) = (if b.f ≤ r ∧ r < b.t then wid b.cs else 0) + wid (valB B r) := fun r => by
      rw [valB]
      by_cases h : b.f ≤ r ∧ r < b.t
      · rw [if_pos h, if_pos h, rl_below h5 h.2, wid]; omega
      · rw [if_neg h, if_neg h]; omega
    rw [sum_congr e, sum_add, sum_ind' (by omega) (by omega) (hu b (List.mem_cons_self ..)), area_sum h5 (by omega) fun x hx => hu x (List.mem_cons_of_mem _ hx), area]
/-- how many cells a set has, of the first n rows and columns -/
def msr (S : Int → Int → Bool) (n : Nat) : Int := sumTo (fun r => sumTo (fun c => if S r c then 1 else 0) n) n
theorem msr_add {S S1 S2 : Int → Int → Bool} (h : ∀ r c, S r c = (S1 r c || S2 r c)) (hd : ∀ r c, (S1 r c && S2 r c) = false) (n : Nat) : msr S n = msr S1 n + msr S2 n := by
  unfold msr
  rw [← sum_add]
  refine sum_congr (fun r => ?_) n
  rw [← sum_add]
  refine sum_congr (fun c => ?_) n
  rw [h]
  have := hd r c
  cases h1 : S1 r c <;> cases h2 : S2 r c <;> simp_all
theorem nf_msr {S : Int → Int → Bool} {l : List Rc} {n : Nat} (h : Nf S l) (hm : Mays l) (hn : (4398046511104 : Int) ≤ n) : tot l = msr S n := by
  obtain ⟨B, lo, hr, rfl, hv⟩ := h
  have hb : ∀ b, b ∈ B → 0 ≤ b.f ∧ b.t ≤ n ∧ ∀ s, s ∈ b.cs → 0 ≤ s.f ∧ s.t ≤ n := fun b hb => by
    obtain ⟨k1, k2, k3⟩ := rl_mem hr hb
    have k : ∀ s, s ∈ b.cs → May ⟨b.f, s.f, b.t, s.t⟩ := fun s hs => hm _ (by
      unfold flatB rows
      rw [List.mem_flatMap]
      exact ⟨b, hb, List.mem_map.2 ⟨s, hs, rfl⟩⟩)
    have hne : b.cs ≠ [] := by
      have : ∀ {B : List Bd} {lo : Int} {pv : List Sp}, Rl lo pv B → b ∈ B → b.cs ≠ [] := by
        intro B
        induction B with
        | nil => intro lo pv _ h; simp at h
        | cons x B ih =>
          rintro lo pv ⟨_, _, _, h4, h5⟩ h
          rcases List.mem_cons.1 h with rfl | h
          · exact h4
          · exact ih h5 h
      exact this hr hb
    obtain ⟨s, l, hs⟩ : ∃ s l, b.cs = s :: l := by
      cases h : b.cs with
      | nil => exact absurd h hne
      | cons s l => exact ⟨s, l, rfl⟩
    have m := k s (by rw [hs]; exact List.mem_cons_self ..)
    unfold May at m
    simp only at m
    refine ⟨by omega, by omega, fun s' hs' => ?_⟩
    have m' := k s' hs'
    unfold May at m'
    simp only at m'
    omega
  have hr0 : Rl 0 [] B := by
    cases B with
    | nil => trivial
    | cons b B =>
      obtain ⟨h1, h2, h3, h4, h5⟩ := hr
      exact ⟨(hb b (List.mem_cons_self ..)).1, fun _ => h4, h3, h4, h5⟩
  rw [tot_flatB, ← area_sum hr0 (Int.le_refl _) (n := n) (fun b hm => (hb b hm).2.1)]
  unfold msr
  refine sum_congr (fun r => ?_) n
  obtain ⟨⟨lo', hs⟩, hc⟩ := hv r
  have hin : ∀ s, s ∈ valB B r → 0 ≤ s.f ∧ s.t ≤ n := by
    have : ∀ {B : List Bd}, (∀ b, b ∈ B → 0 ≤ b.f ∧ b.t ≤ n ∧ ∀ s, s ∈ b.cs → 0 ≤ s.f ∧ s.t ≤ n) → ∀ s, s ∈ valB B r → 0 ≤ s.f ∧ s.t ≤ n := by
      intro B
      induction B with
      | nil => intro _ s h; simp [valB] at h
      | cons b B ih =>
        intro h s hs
        rw [valB] at hs
        split at hs
        · exact (h b (List.mem_cons_self ..)).2.2 s hs
        · exact ih (fun x hx => h x (List.mem_cons_of_mem _ hx)) s hs
    exact this hb
  have hs0 : Sep 0 (valB B r) := by
    revert hs hin
    generalize valB B r = l
    intro hs hin
    cases l with
    | nil => trivial
    | cons s l =>
      obtain ⟨_, h2, h3⟩ := hs
      exact ⟨(hin s (List.mem_cons_self ..)).1, h2, h3⟩
  rw [← wid_sum hs0 (Int.le_refl _) (n := n) fun s h => (hin s h).2]
  exact sum_congr (fun c => by rw [hc]) n

/-- the sum that is cut at most -/
def ar (most : Int) : Int → List Rc → Int
  | n, [] => n
  | n, x :: l => if Int.tdiv (most - n) (x.d - x.b) < x.c - x.a then most else ar most (n + (x.c - x.a) * (x.d - x.b)) l
theorem tot_nonneg : ∀ {l : List Rc}, Ok l → 0 ≤ tot l
  | [], _ => Int.le_refl _
  | x :: l, h => by
    have h1 := h x (List.mem_cons_self ..)
    have := tot_nonneg fun y hy => h y (List.mem_cons_of_mem _ hy)
    have h2 : 0 ≤ (x.c - x.a) * (x.d - x.b) := Int.mul_nonneg (by omega) (by omega)
    rw [tot]
    omega
theorem tdiv_lt {q w h : Int} (hq : 0 ≤ q) (hw : 0 < w) : Int.tdiv q w < h ↔ q < h * w := by
  rw [Int.tdiv_eq_ediv_of_nonneg hq]
  exact Int.ediv_lt_iff_lt_mul hw
theorem ar_eq (most : Int) : ∀ (l : List Rc) (n : Int), Ok l → 0 ≤ n → n ≤ most → ar most n l = if n + tot l ≤ most then n + tot l else most
  | [], n, _, _, h => by rw [ar, tot, Int.add_zero, if_pos h]
  | x :: l, n, ho, h0, h => by
    have h1 := ho x (List.mem_cons_self ..)
    have ho' : Ok l := fun y hy => ho y (List.mem_cons_of_mem _ hy)
    have ht := tot_nonneg ho'
    have h2 : 0 ≤ (x.c - x.a) * (x.d - x.b) := Int.mul_nonneg (by omega) (by omega)
    rw [ar, tot]
    by_cases g : Int.tdiv (most - n) (x.d - x.b) < x.c - x.a
    · rw [if_pos g]
      rw [tdiv_lt (by omega) (by omega)] at g
      rw [if_neg (by omega)]
    · rw [if_neg g]
      rw [tdiv_lt (by omega) (by omega)] at g
      rw [ar_eq most l _ ho' (by omega) (by omega)]
      rw [show n + (x.c - x.a) * (x.d - x.b) + tot l = n + ((x.c - x.a) * (x.d - x.b) + tot l) by omega]
theorem ar_bound (most : Int) (l : List Rc) (n : Int) (h : Ok l) (h0 : 0 ≤ n) (hn : n ≤ most) : 0 ≤ ar most n l ∧ ar most n l ≤ most := by
  have := tot_nonneg h
  rw [ar_eq most l n h h0 hn]
  split <;> omega
end Rg
end Go.Proofs.Ytkbpdgghnlnakaa
