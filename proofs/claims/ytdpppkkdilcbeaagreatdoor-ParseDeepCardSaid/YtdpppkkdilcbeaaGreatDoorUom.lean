/- Formulas that are nested deep, plainly: what is read of them. -/
import Derived.Test.YtdpppkkdilcbeaaGreatDoorMb08
namespace Go.Proofs.YtdpppkkdilcbeaaGreatDoor
set_option linter.unusedVariables false
set_option linter.unusedSimpArgs false

/-- a piece so many times -/
def rp {α : Type} (p : List α) (n : Nat) : List α := (List.replicate n p).flatten
theorem rp_zero {α : Type} (p : List α) : rp p 0 = [] := rfl
theorem rp_succ {α : Type} (p : List α) (n : Nat) : rp p (n + 1) = p ++ rp p n := by simp [rp, List.replicate_succ]
theorem rp_snoc {α : Type} (p : List α) (n : Nat) : rp p (n + 1) = rp p n ++ p := by
  induction n with
  | zero => simp [rp]
  | succ n ih => rw [rp_succ, ih, ← List.append_assoc, ← rp_succ, ← ih]
theorem rp_len {α : Type} (p : List α) (n : Nat) : (rp p n).length = n * p.length := by
  induction n with
  | zero => simp [rp]
  | succ n ih => rw [rp_succ, List.length_append, ih, Nat.succ_mul]; omega
theorem rp_one {α : Type} (x : α) : ∀ (n i : Nat), i < n → (rp [x] n)[i]? = some x
  | 0, i, h => absurd h (by omega)
  | n + 1, 0, _ => by rw [rp_succ]; rfl
  | n + 1, i + 1, h => by rw [rp_succ]; simp; exact rp_one x n i (by omega)
theorem rp_two {α : Type} (x y : α) : ∀ (n i : Nat), i < n → (rp [x, y] n)[2 * i]? = some x ∧ (rp [x, y] n)[2 * i + 1]? = some y
  | 0, i, h => absurd h (by omega)
  | n + 1, 0, _ => by rw [rp_succ]; exact ⟨rfl, rfl⟩
  | n + 1, i + 1, h => by
    rw [rp_succ, show 2 * (i + 1) = 2 * i + 2 by omega, show 2 * i + 2 + 1 = 2 * i + 1 + 2 by omega]
    have := rp_two x y n i (by omega)
    simpa using this
/-- a text is cut into words of these kinds and texts -/
def ScanTo (l : List UInt8) (S : List (Nat × List UInt8)) : Prop := ∀ a acc, ∃ ws : List Wd, scanF l a acc = (some (acc ++ ws), 0) ∧ ws.map (fun w => (w.k, w.t)) = S
theorem scan_nil : ScanTo [] [] := fun a acc => ⟨[], by rw [scanF_nil, List.append_nil], rfl⟩
theorem scan_word {p r : List UInt8} {k : Nat} {t : List UInt8} {S : List (Nat × List UInt8)} (h : wordF (p ++ r) = (k, t, p.length)) (hp : 0 < p.length) (h32 : (p ++ r).headD 0 ≠ 32) (hr : ScanTo r S) : ScanTo (p ++ r) ((k, t) :: S) := by
  intro a acc
  obtain ⟨ws, h1, h2⟩ := hr (a + p.length) (acc ++ [⟨k, t, a⟩])
  refine ⟨⟨k, t, a⟩ :: ws, ?_, by simp [h2]⟩
  have e : (wordF (p ++ r)).2.2 = p.length := by rw [h]
  rw [scanF_word a acc (by intro e; simp at e; rw [e.1] at hp; simp at hp) h32 (by rw [e]; omega), e, h]
  simp only [List.drop_left]
  rw [h1, List.append_assoc]
  rfl
theorem w_neg (r : List UInt8) : wordF (45 :: r) = (6, [45], 1) := by kernel_rfl
theorem w_plus (r : List UInt8) : wordF (43 :: r) = (6, [43], 1) := by kernel_rfl
theorem w_open (r : List UInt8) : wordF (40 :: r) = (6, [40], 1) := by kernel_rfl
theorem w_shut (r : List UInt8) : wordF (41 :: r) = (6, [41], 1) := by kernel_rfl
theorem w_one0 : wordF [49] = (1, [49], 1) := by kernel_rfl
theorem w_one1 (r : List UInt8) : wordF (49 :: 43 :: r) = (1, [49], 1) := by kernel_rfl
theorem w_one2 (r : List UInt8) : wordF (49 :: 41 :: r) = (1, [49], 1) := by kernel_rfl
theorem w_abs (r : List UInt8) : wordF (65 :: 66 :: 83 :: 40 :: r) = (4, [65, 66, 83], 3) := by kernel_rfl
def absW : List UInt8 := [65, 66, 83]
def S0 (n : Nat) : List (Nat × List UInt8) := rp [(6, [45])] n ++ [(1, [49])]
def S1 (n : Nat) : List (Nat × List UInt8) := rp [(4, absW), (6, [40])] n ++ ((1, [49]) :: rp [(6, [41])] n)
def S2 (n : Nat) : List (Nat × List UInt8) := rp [(1, [49]), (6, [43])] n ++ [(1, [49])]
theorem scan0 (n : Nat) : ScanTo (rp [45] n ++ [49]) (S0 n) := by
  induction n with
  | zero => exact scan_word (p := [49]) (r := []) w_one0 (by simp) (by simp) scan_nil
  | succ n ih =>
    unfold S0
    rw [rp_succ, rp_succ]
    exact scan_word (p := [45]) (r := rp [45] n ++ [49]) (w_neg _) (by simp) (by simp) ih
theorem scan2 (n : Nat) : ScanTo (rp [49, 43] n ++ [49]) (S2 n) := by
  induction n with
  | zero => exact scan_word (p := [49]) (r := []) w_one0 (by simp) (by simp) scan_nil
  | succ n ih =>
    unfold S2
    rw [rp_succ, rp_succ]
    exact scan_word (p := [49]) (r := 43 :: (rp [49, 43] n ++ [49])) (w_one1 _) (by simp) (by simp) (scan_word (p := [43]) (r := rp [49, 43] n ++ [49]) (w_plus _) (by simp) (by simp) ih)
theorem scanC (n : Nat) : ScanTo (rp [41] n) (rp [(6, [41])] n) := by
  induction n with
  | zero => exact scan_nil
  | succ n ih =>
    rw [rp_succ, rp_succ]
    exact scan_word (p := [41]) (r := rp [41] n) (w_shut _) (by simp) (by simp) ih
theorem scan1' (m : Nat) : ∀ n, ScanTo (rp [65, 66, 83, 40] n ++ (49 :: rp [41] m)) (rp [(4, absW), (6, [40])] n ++ ((1, [49]) :: rp [(6, [41])] m)) := by
  intro n
  induction n with
  | zero =>
    cases m with
    | zero => exact scan_word (p := [49]) (r := []) w_one0 (by simp) (by simp) scan_nil
    | succ m =>
      have h := scanC (m + 1)
      rw [rp_succ] at h
      rw [rp_zero, rp_zero, rp_succ [41] m]
      exact scan_word (p := [49]) (r := 41 :: rp [41] m) (w_one2 _) (by simp) (by simp) h
  | succ n ih =>
    obtain ⟨X, hX⟩ : ∃ X : List UInt8, rp [65, 66, 83, 40] n ++ (49 :: rp [41] m) = X := ⟨_, rfl⟩
    obtain ⟨Y, hY⟩ : ∃ Y, rp [(4, absW), (6, [40])] n ++ ((1, [49]) :: rp [(6, [41])] m) = Y := ⟨_, rfl⟩
    rw [hX, hY] at ih
    have h1 : wordF ([65, 66, 83] ++ ([40] ++ X)) = (4, absW, ([65, 66, 83] : List UInt8).length) := w_abs X
    have h2 : wordF ([40] ++ X) = (6, [40], ([40] : List UInt8).length) := w_open X
    have h3 := scan_word h1 (by simp) (by simp) (scan_word h2 (by simp) (by simp) ih)
    have e1 : rp ([65, 66, 83, 40] : List UInt8) (n + 1) ++ (49 :: rp [41] m) = [65, 66, 83] ++ ([40] ++ X) := by rw [rp_succ, ← hX]; rfl
    have e2 : rp [(4, absW), (6, [40])] (n + 1) ++ ((1, [49]) :: rp [(6, [41])] m) = (4, absW) :: (6, [40]) :: Y := by rw [rp_succ, ← hY]; rfl
    rw [e1, e2]
    exact h3
/-- what stands at a place -/
def At (L : List Wd) (i k : Nat) (t : List UInt8) : Prop := (L.map (fun w => (w.k, w.t)))[i]? = some (k, t)
theorem At.k {L : List Wd} {i k : Nat} {t : List UInt8} (h : At L i k t) : kAt L i = k ∧ tAt L i = t := by
  unfold At at h
  rw [List.getElem?_map] at h
  cases hg : L[i]? with
  | none => rw [hg] at h; cases h
  | some w =>
    rw [hg] at h
    simp at h
    unfold kAt tAt
    rw [List.getD_eq_getElem?_getD, hg]
    exact h
theorem At.w {L : List Wd} {i k : Nat} {t : List UInt8} (h : At L i k t) (s : List UInt8) : isW L i s = decide (k = 6 ∧ t = s) := by
  unfold At at h
  rw [List.getElem?_map] at h
  unfold isW
  cases hg : L[i]? with
  | none => rw [hg] at h; cases h
  | some w =>
    rw [hg] at h
    simp at h
    simp only [h.1, h.2]
theorem At.s {L : List Wd} {i k : Nat} {t : List UInt8} (h : At L i k t) : stg L i = if k = 6 then lvl t else 0 := by
  unfold stg
  rw [h.k.1, h.k.2]
def oneX : Ex := numE 10000
theorem ee_one : EE.num [49] = 10000 ∧ EE.nok [49] = true := ⟨by kernel_rfl, by kernel_rfl⟩
theorem pf_one {L : List Wd} {i : Nat} (h : At L i 1 [49]) (f : Nat) : ptF.pfF EE L (f + 1) i = some (some (oneX, i + 1)) := by
  rw [ptF.pfF, h.w, if_neg (by decide), h.k.1, if_neg (by decide)]
  unfold poneF
  rw [h.k.1, h.k.2, if_pos rfl, ee_one.2, ee_one.1]
  rfl
theorem pa_one {L : List Wd} {i : Nat} (h : At L i 1 [49]) (f : Nat) : ptF.paF EE L (f + 2) i = some (some (oneX, i + 1)) := by
  rw [ptF.paF, h.w, if_neg (by decide), pf_one h]
theorem plD_stop {L : List Wd} {i lv : Nat} (h : stg L i < lv) (x : Ex) (f : Nat) : ptF.plF EE L (f + 1) lv x i = some (some (x, i)) := by
  rw [ptF.plF, if_neg (by omega)]
def negN : Nat → Ex
  | 0 => oneX
  | n + 1 => negE (negN n)
def binN : Nat → Ex
  | 0 => oneX
  | n + 1 => binE [43] (binN n) oneX
def callN : Nat → Ex
  | 0 => oneX
  | n + 1 => callE absW [callN n]
theorem pa0 {L : List Wd} {n : Nat} (h1 : ∀ i, i < n → At L i 6 [45]) (h2 : At L n 1 [49]) : ∀ k, k ≤ n → ptF.paF EE L (k + 2) (n - k) = some (some (negN k, n + 1)) := by
  intro k
  induction k with
  | zero => intro _; exact pa_one h2 0
  | succ k ih =>
    intro hk
    rw [ptF.paF, (h1 (n - (k + 1)) (by omega)).w, if_pos (by decide), show n - (k + 1) + 1 = n - k by omega, ih (by omega)]
    rfl
theorem pt0 {L : List Wd} {n : Nat} (h1 : ∀ i, i < n → At L i 6 [45]) (h2 : At L n 1 [49]) (h3 : At L (n + 1) 7 []) : ptF EE L (n + 3) 1 0 = some (some (negN n, n + 1)) := by
  rw [ptF]
  have := pa0 h1 h2 n (Nat.le_refl _)
  rw [Nat.sub_self] at this
  rw [this]
  simp only [Option.bind_some]
  exact plD_stop (by rw [h3.s]; decide) _ _
theorem pt_one {L : List Wd} {i lv : Nat} (h : At L i 1 [49]) (hs : stg L (i + 1) < lv) (f : Nat) : ptF EE L (f + 3) lv i = some (some (oneX, i + 1)) := by
  rw [ptF, pa_one h]
  simp only [Option.bind_some]
  exact plD_stop hs _ _
theorem pl2 {L : List Wd} {n : Nat} (h1 : ∀ i, i ≤ n → At L (2 * i) 1 [49]) (h2 : ∀ i, i < n → At L (2 * i + 1) 6 [43]) (h3 : At L (2 * n + 1) 7 []) : ∀ k, k ≤ n → ptF.plF EE L (k + 4) 1 (binN (n - k)) (2 * (n - k) + 1) = some (some (binN n, 2 * n + 1)) := by
  intro k
  induction k with
  | zero => intro _; exact plD_stop (by rw [Nat.sub_zero, h3.s]; decide) _ _
  | succ k ih =>
    intro hk
    have ha := h2 (n - (k + 1)) (by omega)
    have hs : stg L (2 * (n - (k + 1)) + 1) = 3 := by rw [ha.s]; rfl
    rw [ptF.plF, hs, if_pos (by omega), show 2 * (n - (k + 1)) + 1 + 1 = 2 * (n - k) by omega]
    have hs2 : stg L (2 * (n - k) + 1) < 3 + 1 := by
      by_cases hz : k = 0
      · subst hz
        rw [Nat.sub_zero, h3.s]; decide
      · rw [(h2 (n - k) (by omega)).s]; decide
    rw [show k + 1 + 3 = (k + 1) + 3 from rfl, pt_one (h1 (n - k) (by omega)) hs2 (k + 1)]
    simp only [Option.bind_some]
    rw [ha.k.2, show k + 1 + 3 = k + 4 by omega]
    have e : binE [43] (binN (n - (k + 1))) oneX = binN (n - k) := by
      rw [show n - k = (n - (k + 1)) + 1 by omega]; rfl
    rw [e]
    exact ih (by omega)
theorem pt2 {L : List Wd} {n : Nat} (h1 : ∀ i, i ≤ n → At L (2 * i) 1 [49]) (h2 : ∀ i, i < n → At L (2 * i + 1) 6 [43]) (h3 : At L (2 * n + 1) 7 []) : ptF EE L (n + 5) 1 0 = some (some (binN n, 2 * n + 1)) := by
  rw [ptF, show n + 4 = (n + 2) + 2 from rfl, pa_one (i := 0) (h1 0 (by omega))]
  simp only [Option.bind_some]
  have := pl2 h1 h2 h3 n (Nat.le_refl _)
  rw [Nat.sub_self] at this
  exact this
theorem pt1 {L : List Wd} {n : Nat} (h1 : ∀ i, i < n → At L (2 * i) 4 absW ∧ At L (2 * i + 1) 6 [40]) (h2 : At L (2 * n) 1 [49]) (h3 : ∀ i, i < n → At L (2 * n + 1 + i) 6 [41]) (h4 : At L (2 * n + 1 + n) 7 []) : ∀ k, k ≤ n → ptF EE L (4 * k + 5) 1 (2 * (n - k)) = some (some (callN k, 2 * n + 1 + k)) := by
  have hs : ∀ i, i ≤ n → stg L (2 * n + 1 + i) < 1 := by
    intro i hi
    rcases Nat.lt_or_ge i n with h | h
    · rw [(h3 i h).s]; decide
    · rw [show i = n by omega, h4.s]; decide
  intro k
  induction k with
  | zero => intro _; exact pt_one h2 (hs 0 (by omega)) 2
  | succ k ih =>
    intro hk
    obtain ⟨ha, hb⟩ := h1 (n - (k + 1)) (by omega)
    have hc : isW L (2 * (n - (k + 1)) + 2) [41] = false := by
      rw [show 2 * (n - (k + 1)) + 2 = 2 * (n - k) by omega]
      by_cases hz : k = 0
      · subst hz
        rw [Nat.sub_zero, h2.w]; decide
      · rw [(h1 (n - k) (by omega)).1.w]; decide
    have hn : EE.nam absW = true := by kernel_rfl
    have e1 : ptF.pgF EE L (4 * k + 6) absW [] (2 * (n - (k + 1)) + 2) = some (some (callN (k + 1), 2 * n + 1 + (k + 1))) := by
      rw [ptF.pgF, if_pos (by decide), show 2 * (n - (k + 1)) + 2 = 2 * (n - k) by omega, ih (by omega)]
      simp only [Option.bind_some]
      rw [(h3 k (by omega)).w, (h3 k (by omega)).w, if_neg (by decide), if_pos (by decide)]
      rfl
    have e2 : ptF.pfF EE L (4 * k + 7) (2 * (n - (k + 1))) = some (some (callN (k + 1), 2 * n + 1 + (k + 1))) := by
      rw [ptF.pfF, ha.w, if_neg (by decide), ha.k.1, if_pos rfl, ha.k.2, if_neg (by decide), hb.w, if_pos ⟨hn, by decide⟩, hc]
      exact e1
    have e3 : ptF.paF EE L (4 * k + 8) (2 * (n - (k + 1))) = some (some (callN (k + 1), 2 * n + 1 + (k + 1))) := by
      rw [ptF.paF, ha.w, if_neg (by decide)]
      exact e2
    rw [show 4 * (k + 1) + 5 = (4 * k + 8) + 1 by omega, ptF, e3]
    simp only [Option.bind_some]
    exact plD_stop (hs (k + 1) (by omega)) _ _
theorem shl_one (m : Nat) : shl m oneX = decide (1 ≤ m) := by
  cases m with
  | zero => rfl
  | succ m => rfl
theorem shl_neg (n : Nat) : ∀ m, shl m (negN n) = decide (n + 1 ≤ m) := by
  induction n with
  | zero => exact fun m => shl_one m
  | succ n ih =>
    intro m
    cases m with
    | zero => rfl
    | succ m =>
      show [negN n].all (shl m) = _
      simp [ih m]
theorem shl_call (n : Nat) : ∀ m, shl m (callN n) = decide (n + 1 ≤ m) := by
  induction n with
  | zero => exact fun m => shl_one m
  | succ n ih =>
    intro m
    cases m with
    | zero => rfl
    | succ m =>
      show [callN n].all (shl m) = _
      simp [ih m]
theorem shl_bin (n : Nat) : ∀ m, shl m (binN n) = decide (n + 1 ≤ m) := by
  induction n with
  | zero => exact fun m => shl_one m
  | succ n ih =>
    intro m
    cases m with
    | zero => rfl
    | succ m =>
      show [binN n, oneX].all (shl m) = _
      simp only [List.all_cons, List.all_nil, Bool.and_true, ih m, shl_one]
      by_cases h : n + 1 ≤ m
      · have h1 : 1 ≤ m := by omega
        simp [h, h1]
      · simp [h]
theorem nodesD_neg (n : Nat) : nodes (negN n) = n + 1 := by
  induction n with
  | zero => rfl
  | succ n ih => show nodes (negE (negN n)) = _; rw [negE, nodes, nodes.nodesL, nodes.nodesL, ih]; omega
theorem nodesD_call (n : Nat) : nodes (callN n) = n + 1 := by
  induction n with
  | zero => rfl
  | succ n ih => show nodes (callE absW [callN n]) = _; rw [callE, nodes, nodes.nodesL, nodes.nodesL, ih]; omega
theorem nodesD_bin (n : Nat) : nodes (binN n) = 2 * n + 1 := by
  induction n with
  | zero => rfl
  | succ n ih =>
    show nodes (binE [43] (binN n) oneX) = _
    rw [binE, nodes, nodes.nodesL, nodes.nodesL, nodes.nodesL, ih, show nodes oneX = 1 from rfl]; omega
/-- the text that is made -/
def pieceD (k : Nat) : List UInt8 := if k = 0 then [45] else if k = 1 then [65, 66, 83, 40] else if k = 2 then [49, 43] else [40]
def textD (k n : Nat) : List UInt8 := rp (pieceD k) n ++ [49] ++ (if k % 2 = 1 then rp [41] n else [])
theorem fin_of {L : List Wd} {x : Ex} {j n : Nat} (hk : kAt L j = 7) (hf : fitB x = decide (n < 50)) : (finR L (some (x, j))).2 = 0 ↔ n < 50 := by
  unfold finR
  simp only
  rw [if_pos hk, hf]
  by_cases h : n < 50 <;> simp [h]
theorem scan_l {l : List UInt8} {S : List (Nat × List UInt8)} (h : ScanTo l S) (hl : l.length ≤ 1000) : ∃ L, scanL l = (some L, 0) ∧ L.map (fun w => (w.k, w.t)) = S ++ [(7, [])] := by
  obtain ⟨ws, h1, h2⟩ := h 0 []
  exact ⟨_, scanL_yes (by omega) h1, by simp [h2]⟩
/-- what is read of such a text -/
theorem deep_err (k n : Nat) (hk : k ≤ 2) (hl : (textD k n).length ≤ 1000) : ∃ L f o, scanL (textD k n) = (some L, 0) ∧ ptF EE L f 1 0 = some o ∧ ((finR L o).2 = 0 ↔ n < 50) := by
  rcases (by omega : k = 0 ∨ k = 1 ∨ k = 2) with rfl | rfl | rfl
  · have e : textD 0 n = rp [45] n ++ [49] := by simp [textD, pieceD]
    rw [e] at hl ⊢
    obtain ⟨L, h1, h2⟩ := scan_l (scan0 n) hl
    have hA : ∀ i k t, (S0 n ++ [(7, [])])[i]? = some (k, t) → At L i k t := fun i k t h => by unfold At; rw [h2]; exact h
    have a3 : At L (n + 1) 7 [] := hA _ _ _ (by unfold S0; rw [List.getElem?_append_right (by simp [rp_len])]; simp [rp_len])
    refine ⟨L, n + 3, _, h1, pt0 (fun i hi => hA _ _ _ ?_) (hA _ _ _ ?_) a3, fin_of a3.k.1 ?_⟩
    · unfold S0
      rw [List.getElem?_append_left (by simp [rp_len]; omega), List.getElem?_append_left (by simp [rp_len]; omega)]
      exact rp_one _ n i hi
    · unfold S0
      rw [List.getElem?_append_left (by simp [rp_len]), List.getElem?_append_right (by simp [rp_len])]
      simp [rp_len]
    · unfold fitB
      rw [shl_neg, nodesD_neg]
      by_cases h : n < 50
      · have h1 : n + 1 ≤ 200 := by omega
        have h2 : n + 1 ≤ 50 := by omega
        simp [h, h1, h2]
      · have h2 : ¬ n + 1 ≤ 50 := by omega
        simp [h, h2]
  · have e : textD 1 n = rp [65, 66, 83, 40] n ++ (49 :: rp [41] n) := by simp [textD, pieceD]
    rw [e] at hl ⊢
    obtain ⟨L, h1, h2⟩ := scan_l (scan1' n n) hl
    have hA : ∀ i k t, (S1 n ++ [(7, [])])[i]? = some (k, t) → At L i k t := fun i k t h => by unfold At; rw [h2]; exact h
    have len2 : (rp [(4, absW), (6, [40])] n).length = 2 * n := by rw [rp_len]; simp; omega
    have len1 : (rp [((6 : Nat), ([41] : List UInt8))] n).length = n := by rw [rp_len]; simp
    have lenS : (S1 n).length = 2 * n + 1 + n := by unfold S1; rw [List.length_append, List.length_cons, len2, len1]; omega
    have a4 : At L (2 * n + 1 + n) 7 [] := hA _ _ _ (by rw [List.getElem?_append_right (by rw [lenS]; omega), lenS]; simp)
    have a2 : At L (2 * n) 1 [49] := hA _ _ _ (by
      rw [List.getElem?_append_left (by rw [lenS]; omega)]
      unfold S1
      rw [List.getElem?_append_right (by rw [len2]; omega), len2]
      simp)
    have a3 : ∀ i, i < n → At L (2 * n + 1 + i) 6 [41] := fun i hi => hA _ _ _ (by
      rw [List.getElem?_append_left (by rw [lenS]; omega)]
      unfold S1
      rw [List.getElem?_append_right (by rw [len2]; omega), len2, show 2 * n + 1 + i - 2 * n = i + 1 by omega]
      simp only [List.getElem?_cons_succ]
      exact rp_one _ n i hi)
    have a1 : ∀ i, i < n → At L (2 * i) 4 absW ∧ At L (2 * i + 1) 6 [40] := fun i hi => by
      have := rp_two (4, absW) ((6 : Nat), ([40] : List UInt8)) n i hi
      constructor
      · refine hA _ _ _ ?_
        rw [List.getElem?_append_left (by rw [lenS]; omega)]
        unfold S1
        rw [List.getElem?_append_left (by rw [len2]; omega)]
        exact this.1
      · refine hA _ _ _ ?_
        rw [List.getElem?_append_left (by rw [lenS]; omega)]
        unfold S1
        rw [List.getElem?_append_left (by rw [len2]; omega)]
        exact this.2
    have hp := pt1 a1 a2 a3 a4 n (Nat.le_refl _)
    rw [Nat.sub_self] at hp
    refine ⟨L, _, _, h1, hp, fin_of a4.k.1 ?_⟩
    unfold fitB
    rw [shl_call, nodesD_call]
    by_cases h : n < 50
    · have h1 : n + 1 ≤ 200 := by omega
      have h2 : n + 1 ≤ 50 := by omega
      simp [h, h1, h2]
    · have h2 : ¬ n + 1 ≤ 50 := by omega
      simp [h, h2]
  · have e : textD 2 n = rp [49, 43] n ++ [49] := by simp [textD, pieceD]
    rw [e] at hl ⊢
    obtain ⟨L, h1, h2⟩ := scan_l (scan2 n) hl
    have hA : ∀ i k t, (S2 n ++ [(7, [])])[i]? = some (k, t) → At L i k t := fun i k t h => by unfold At; rw [h2]; exact h
    have len2 : (rp [((1 : Nat), ([49] : List UInt8)), (6, [43])] n).length = 2 * n := by rw [rp_len]; simp; omega
    have lenS : (S2 n).length = 2 * n + 1 := by unfold S2; rw [List.length_append, len2]; simp
    have a3 : At L (2 * n + 1) 7 [] := hA _ _ _ (by rw [List.getElem?_append_right (by rw [lenS]; omega), lenS]; simp)
    have a2 : ∀ i, i < n → At L (2 * i) 1 [49] ∧ At L (2 * i + 1) 6 [43] := fun i hi => by
      have := rp_two ((1 : Nat), ([49] : List UInt8)) (6, [43]) n i hi
      constructor
      · refine hA _ _ _ ?_
        rw [List.getElem?_append_left (by rw [lenS]; omega)]
        unfold S2
        rw [List.getElem?_append_left (by rw [len2]; omega)]
        exact this.1
      · refine hA _ _ _ ?_
        rw [List.getElem?_append_left (by rw [lenS]; omega)]
        unfold S2
        rw [List.getElem?_append_left (by rw [len2]; omega)]
        exact this.2
    have a1 : ∀ i, i ≤ n → At L (2 * i) 1 [49] := fun i hi => by
      rcases Nat.lt_or_ge i n with h | h
      · exact (a2 i h).1
      · refine hA _ _ _ ?_
        rw [show i = n by omega, List.getElem?_append_left (by rw [lenS]; omega)]
        unfold S2
        rw [List.getElem?_append_right (by rw [len2]; omega), len2]
        simp
    refine ⟨L, _, _, h1, pt2 a1 (fun i hi => (a2 i hi).2) a3, fin_of a3.k.1 ?_⟩
    unfold fitB
    rw [shl_bin, nodesD_bin]
    by_cases h : n < 50
    · have h1 : 2 * n + 1 ≤ 200 := by omega
      have h2 : n + 1 ≤ 50 := by omega
      simp [h, h1, h2]
    · have h2 : ¬ n + 1 ≤ 50 := by omega
      simp [h, h2]
end Go.Proofs.YtdpppkkdilcbeaaGreatDoor
