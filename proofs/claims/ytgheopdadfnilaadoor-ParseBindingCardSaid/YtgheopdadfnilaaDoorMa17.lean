/- What the program's reader reads of words: a tree with all brackets, and a row of trees and operators. Texts of terms: how they are cut into words, and what is read of these. parse.Parse of both texts. Slices that are cut and put together. counterpanelaw7.ParseBinding, walked. What the second loop does to its two slices. -/
import Derived.Test.YtgheopdadfnilaaDoorMa16
import Derived.Test.YtgheopdadfnilaaDoorMa13
import Derived.Test.YtgheopdadfnilaaDoorMa07
import Derived.Test.YtgheopdadfnilaaDoorMa01
namespace Go.Proofs.YtgheopdadfnilaaDoor
set_option linter.unusedVariables false
set_option linter.unusedSimpArgs false

/-- these words stand here -/
def Wds (L : List Wd) : Nat → List (Nat × List UInt8) → Prop
  | _, [] => True
  | i, w :: ws => (i < L.length ∧ kAt L i = w.1 ∧ tAt L i = w.2) ∧ Wds L (i + 1) ws
theorem Wds.app {L : List Wd} : ∀ {i : Nat} {a b : List (Nat × List UInt8)}, Wds L i (a ++ b) → Wds L i a ∧ Wds L (i + a.length) b
  | i, [], b, h => ⟨trivial, h⟩
  | i, w :: a, b, h => by
    obtain ⟨h1, h2⟩ := h
    obtain ⟨h3, h4⟩ := Wds.app (i := i + 1) (a := a) h2
    exact ⟨⟨h1, h3⟩, by rw [List.length_cons, show i + (a.length + 1) = i + 1 + a.length by omega]; exact h4⟩
theorem wds_map {L : List Wd} : ∀ (r p : List Wd), L = p ++ r → Wds L p.length (r.map fun w => (w.k, w.t))
  | [], p, _ => trivial
  | w :: r, p, h => by
    have hl : p.length < L.length := by rw [h]; simp
    have hk := kAt_get hl
    have e : L[p.length] = w := by simp [h]
    refine ⟨⟨hl, by rw [hk.1, e], by rw [hk.2, e]⟩, ?_⟩
    have := wds_map (L := L) r (p ++ [w]) (by rw [h]; simp)
    rw [List.length_append] at this
    exact this
theorem isW_of {L : List Wd} {i k : Nat} {t : List UInt8} (h : i < L.length ∧ kAt L i = k ∧ tAt L i = t) (s : List UInt8) : isW L i s = decide (k = 6 ∧ t = s) := by
  have hk := kAt_get h.1
  rw [isW_at h.1, ← hk.1, ← hk.2, h.2.1, h.2.2]
theorem stg_of {L : List Wd} {i : Nat} {t : List UInt8} (h : i < L.length ∧ kAt L i = 6 ∧ tAt L i = t) : stg L i = lvl t := by
  unfold stg
  rw [if_pos h.2.1, h.2.2]
/-- a tree is read of these words, wherever they stand, if no colon is behind them -/
def Reads (E : Env) (x : Ex) (ws : List (Nat × List UInt8)) : Prop := ∃ f, ∀ (L : List Wd) (i : Nat), Wds L i ws → isW L (i + ws.length) [58] = false → ptF.paF E L f i = some (some (x, i + ws.length))
theorem reads_atom {E : Env} {t : List UInt8} (h : E.rok t = true) : Reads E (refE (E.ref t)) [(3, t)] := by
  refine ⟨2, fun L i ha hc => ?_⟩
  obtain ⟨⟨h1, h2, h3⟩, -⟩ := ha
  simp only at h2 h3
  simp only [List.length_cons, List.length_nil, Nat.zero_add] at hc ⊢
  unfold ptF.paF
  rw [isW_of ⟨h1, h2, h3⟩, if_neg (by simp)]
  unfold ptF.pfF
  rw [isW_of ⟨h1, h2, h3⟩, if_neg (by simp), if_neg (by omega)]
  unfold poneF
  rw [if_neg (by omega), if_neg (by omega), if_neg (by omega), if_pos h2, h3, h, if_neg (by simp), hc, if_neg (by simp)]
theorem reads_neg {E : Env} {x : Ex} {ws : List (Nat × List UInt8)} (h : Reads E x ws) : Reads E (negE x) ((6, [45]) :: ws) := by
  obtain ⟨f, h⟩ := h
  refine ⟨f + 1, fun L i ha hc => ?_⟩
  obtain ⟨h1, h2⟩ := ha
  rw [List.length_cons] at hc ⊢
  unfold ptF.paF
  rw [isW_of h1, if_pos (by simp), h L (i + 1) h2 (by rw [← hc]; congr 1; omega)]
  simp only [Option.bind_some]
  rw [show i + 1 + ws.length = i + (ws.length + 1) by omega]
theorem lvl_shut : lvl [41] = 0 := by decide
theorem not_colon {o : List UInt8} (h : 1 ≤ lvl o) : o ≠ [58] := by
  intro e
  subst e
  revert h
  decide
theorem reads_bin {E : Env} {o : List UInt8} {x y : Ex} {wx wy : List (Nat × List UInt8)} (hx : Reads E x wx) (hy : Reads E y wy) (ho : 1 ≤ lvl o) :
    Reads E (binE o x y) ((6, [40]) :: (wx ++ (6, o) :: (wy ++ [(6, [41])]))) := by
  obtain ⟨f, hx⟩ := hx
  obtain ⟨g, hy⟩ := hy
  have hno := not_colon ho
  refine ⟨f + g + 7, fun L i ha hc => ?_⟩
  obtain ⟨h1, h2⟩ := ha
  obtain ⟨h2, h3⟩ := h2.app
  obtain ⟨h3, h4⟩ := h3
  obtain ⟨h4, h5, -⟩ := h4.app
  have c1 := hx L (i + 1) h2 (by rw [isW_of h3]; simp [hno])
  have c2 := hy L (i + 1 + wx.length + 1) h4 (by rw [isW_of h5]; simp)
  have s3 := stg_of h3
  have s5 := stg_of h5
  simp only at s3 s5
  rw [lvl_shut] at s5
  have q1 : ptF E L (f + g + 3) (lvl o + 1) (i + 1 + wx.length + 1) = some (some (y, i + 1 + wx.length + 1 + wy.length)) := by
    unfold ptF
    rw [paF_le c2 (by omega)]
    simp only [Option.bind_some]
    unfold ptF.plF
    rw [s5, if_neg (by omega)]
  have q2 : ptF E L (f + g + 5) 1 (i + 1) = some (some (binE o x y, i + 1 + wx.length + 1 + wy.length)) := by
    unfold ptF
    rw [paF_le c1 (by omega)]
    simp only [Option.bind_some]
    unfold ptF.plF
    rw [s3, if_pos ho, q1]
    simp only [Option.bind_some]
    unfold ptF.plF
    rw [s5, if_neg (by omega), h3.2.2]
  unfold ptF.paF
  rw [isW_of h1, if_neg (by simp)]
  unfold ptF.pfF
  rw [isW_of h1, if_pos (by simp), q2]
  simp only [Option.bind_some]
  rw [isW_of h5, if_pos (by simp)]
  simp only [List.length_cons, List.length_append, List.length_nil]
  rw [show i + 1 + wx.length + 1 + wy.length + 1 = i + (wx.length + (wy.length + (0 + 1) + 1) + 1) by omega]
/-- the words of a row -/
def rowW (wf : Ex → List (Nat × List UInt8)) : Rst → List (Nat × List UInt8)
  | [] => []
  | p :: rs => (6, p.1) :: (wf p.2 ++ rowW wf rs)
theorem rowW_app (wf : Ex → List (Nat × List UInt8)) (a b : Rst) : rowW wf (a ++ b) = rowW wf a ++ rowW wf b := by
  induction a with
  | nil => rfl
  | cons p a ih => rw [List.cons_append, rowW, rowW, ih]; simp
theorem rowW_head {L : List Wd} {wf : Ex → List (Nat × List UInt8)} {j : Nat} {rs : Rst} (h : ∀ p ∈ rs, 1 ≤ lvl p.1) (ha : Wds L j (rowW wf rs)) (hc : isW L (j + (rowW wf rs).length) [58] = false) : isW L j [58] = false := by
  cases rs with
  | nil => exact hc
  | cons p rs =>
    obtain ⟨h1, -⟩ := ha
    rw [isW_of h1]
    have := not_colon (h p (by simp))
    simp [this]
theorem pl_clb (E : Env) (L : List Wd) (wf : Ex → List (Nat × List UInt8)) : ∀ (n lv : Nat) (x : Ex) (rs : Rst) (j : Nat), rs.length ≤ n → (∀ p ∈ rs, Reads E p.2 (wf p.2)) → (∀ p ∈ rs, 1 ≤ lvl p.1) → Wds L j (rowW wf rs) → stg L (j + (rowW wf rs).length) = 0 → isW L (j + (rowW wf rs).length) [58] = false → 1 ≤ lv →
    ∃ f j', ptF.plF E L f lv x j = some (some ((clb n lv x rs).1, j')) ∧ j' + (rowW wf (clb n lv x rs).2).length = j + (rowW wf rs).length ∧ Wds L j' (rowW wf (clb n lv x rs).2) := by
  intro n
  induction n with
  | zero =>
    intro lv x rs j hn _ _ ha hs _ hlv
    have e : rs = [] := List.eq_nil_of_length_eq_zero (Nat.le_zero.1 hn)
    subst e
    refine ⟨1, j, ?_, rfl, trivial⟩
    unfold ptF.plF
    have : stg L j = 0 := hs
    rw [this, if_neg (by omega)]
    rfl
  | succ n ih =>
    intro lv x rs j hn hr ho ha hs hc hlv
    cases rs with
    | nil =>
      refine ⟨1, j, ?_, rfl, trivial⟩
      unfold ptF.plF
      have : stg L j = 0 := hs
      rw [this, if_neg (by omega)]
      rfl
    | cons p rs =>
      simp only [List.length_cons] at hn
      have hr' : ∀ q ∈ rs, Reads E q.2 (wf q.2) := fun q hq => hr q (List.mem_cons_of_mem _ hq)
      have ho' : ∀ q ∈ rs, 1 ≤ lvl q.1 := fun q hq => ho q (List.mem_cons_of_mem _ hq)
      obtain ⟨h1, h2⟩ := ha
      have h1' := h1
      have h2' := h2
      obtain ⟨h2, h3⟩ := h2.app
      have s1 := stg_of h1
      simp only at s1
      have hl : j + (rowW wf (p :: rs)).length = j + 1 + (wf p.2).length + (rowW wf rs).length := by
        rw [rowW, List.length_cons, List.length_append]
        omega
      rw [hl] at hs hc
      by_cases hb : lv ≤ lvl p.1
      · obtain ⟨f0, r0⟩ := hr p (by simp)
        have c0 := r0 L (j + 1) h2 (rowW_head ho' h3 hc)
        obtain ⟨f1, j1, e1, g1, a1⟩ := ih (lvl p.1 + 1) p.2 rs (j + 1 + (wf p.2).length) (by omega) hr' ho' h3 hs hc (by omega)
        have sf := clb_suf n (lvl p.1 + 1) p.2 rs
        have hlen := sf.length_le
        obtain ⟨f2, j2, e2, g2, a2⟩ := ih lv (binE p.1 x (clb n (lvl p.1 + 1) p.2 rs).1) (clb n (lvl p.1 + 1) p.2 rs).2 j1 (by omega) (fun q hq => hr' q (sf.subset hq)) (fun q hq => ho' q (sf.subset hq)) a1 (by rw [g1]; exact hs) (by rw [g1]; exact hc) hlv
        have ec : clb (n + 1) lv x (p :: rs) = clb n lv (binE p.1 x (clb n (lvl p.1 + 1) p.2 rs).1) (clb n (lvl p.1 + 1) p.2 rs).2 := by
          conv => lhs; unfold clb
          rw [if_pos hb]
        rw [ec, hl]
        refine ⟨f0 + f1 + f2 + 3, j2, ?_, by rw [g2, g1], a2⟩
        unfold ptF.plF
        rw [s1, if_pos hb]
        have q1 : ptF E L (f0 + f1 + f2 + 2) (lvl p.1 + 1) (j + 1) = some (some ((clb n (lvl p.1 + 1) p.2 rs).1, j1)) := by
          unfold ptF
          rw [paF_le c0 (by omega)]
          simp only [Option.bind_some]
          exact plF_le e1 (by omega)
        rw [q1, h1.2.2]
        simp only [Option.bind_some]
        exact plF_le e2 (by omega)
      · have ec : clb (n + 1) lv x (p :: rs) = (x, p :: rs) := by
          conv => lhs; unfold clb
          rw [if_neg hb]
        rw [ec]
        refine ⟨1, j, ?_, rfl, ⟨h1', h2'⟩⟩
        unfold ptF.plF
        rw [s1, if_neg hb]
/-- a whole row, read -/
theorem pt_top {E : Env} {L : List Wd} {wf : Ex → List (Nat × List UInt8)} {x : Ex} {ops : List (List UInt8)} {ts : List Ex} (hl : ts.length = ops.length) (hx : Reads E x (wf x)) (hr : ∀ t ∈ ts, Reads E t (wf t)) (ho : ∀ o ∈ ops, 1 ≤ lvl o)
    (ha : Wds L 0 (wf x ++ (rowW wf (ops.zip ts) ++ [(7, [])]))) : ∃ f, ptF E L f 1 0 = some (some (top ops (x :: ts), (wf x).length + (rowW wf (ops.zip ts)).length)) := by
  obtain ⟨h1, h2⟩ := ha.app
  obtain ⟨h2, h3, -⟩ := h2.app
  rw [Nat.zero_add] at h2 h3
  obtain ⟨f0, r0⟩ := hx
  have hr' : ∀ p ∈ ops.zip ts, Reads E p.2 (wf p.2) := fun p hp => hr _ (List.of_mem_zip (a := p.1) (b := p.2) hp).2
  have ho' : ∀ p ∈ ops.zip ts, 1 ≤ lvl p.1 := fun p hp => ho _ (List.of_mem_zip (a := p.1) (b := p.2) hp).1
  have hs : stg L ((wf x).length + (rowW wf (ops.zip ts)).length) = 0 := by
    unfold stg
    rw [if_neg (by rw [h3.2.1]; simp)]
  have hc : isW L ((wf x).length + (rowW wf (ops.zip ts)).length) [58] = false := by rw [isW_of h3]; simp
  have c0 := r0 L 0 h1 (by rw [Nat.zero_add]; exact rowW_head ho' h2 hc)
  rw [Nat.zero_add] at c0
  obtain ⟨f1, j1, e1, g1, -⟩ := pl_clb E L wf (ops.zip ts).length 1 x (ops.zip ts) (wf x).length (Nat.le_refl _) hr' ho' h2 hs hc (Nat.le_refl _)
  rw [clb_all _ _ _ _ (Nat.le_refl _) ho'] at g1
  have g1 : j1 = (wf x).length + (rowW wf (ops.zip ts)).length := g1
  subst g1
  refine ⟨f0 + f1 + 1, ?_⟩
  unfold ptF
  rw [paF_le c0 (by omega)]
  simp only [Option.bind_some]
  exact plF_le e1 (by omega)
/-- one tree, read -/
theorem pt_one {E : Env} {L : List Wd} {x : Ex} {ws : List (Nat × List UInt8)} (hx : Reads E x ws) (ha : Wds L 0 (ws ++ [(7, [])])) : ∃ f, ptF E L f 1 0 = some (some (x, ws.length)) := by
  obtain ⟨h1, h3, -⟩ := ha.app
  rw [Nat.zero_add] at h3
  obtain ⟨f0, r0⟩ := hx
  have c0 := r0 L 0 h1 (by rw [Nat.zero_add, isW_of h3]; simp)
  rw [Nat.zero_add] at c0
  refine ⟨f0 + 2, ?_⟩
  unfold ptF
  rw [paF_le c0 (by omega)]
  simp only [Option.bind_some]
  unfold ptF.plF
  rw [show stg L ws.length = 0 by unfold stg; rw [if_neg (by rw [h3.2.1]; simp)], if_neg (by omega)]
end Go.Proofs.YtgheopdadfnilaaDoor
namespace Go.Proofs.YtgheopdadfnilaaDoor
open Go.RowKit
set_option linter.unusedVariables false
set_option linter.unusedSimpArgs false

/-- a text is cut into words of these kinds and texts -/
def ScanTo (l : List UInt8) (S : List (Nat × List UInt8)) : Prop := ∀ a acc, ∃ ws : List Wd, scanF l a acc = (some (acc ++ ws), 0) ∧ ws.map (fun w => (w.k, w.t)) = S
theorem scan_nil : ScanTo [] [] := fun a acc => ⟨[], by rw [scanF_nil, List.append_nil], rfl⟩
theorem scan_word {p r : List UInt8} {k : Nat} {t : List UInt8} {S : List (Nat × List UInt8)} (h : wordF (p ++ r) = (k, t, p.length)) (hp : 0 < p.length) (h32 : (p ++ r).headD 0 ≠ 32) (hr : ScanTo r S) : ScanTo (p ++ r) ((k, t) :: S) := by
  intro a acc
  obtain ⟨ws, h1, h2⟩ := hr (a + p.length) (acc ++ [⟨k, t, a⟩])
  refine ⟨⟨k, t, a⟩ :: ws, ?_, by simp [h2]⟩
  have e : (wordF (p ++ r)).2.2 = p.length := by rw [h]
  rw [scanF_word a acc (by intro e; simp at e; rw [e.1] at hp; simp at hp) h32 (by rw [e]; omega), e, h]
  simp only [List.drop_left]
  rw [h1, List.append_assoc]
  rfl
theorem scan_l {l : List UInt8} {S : List (Nat × List UInt8)} (h : ScanTo l S) (hl : l.length ≤ 1000) : ∃ L, scanL l = (some L, 0) ∧ L.map (fun w => (w.k, w.t)) = S ++ [(7, [])] := by
  obtain ⟨ws, h1, h2⟩ := h 0 []
  exact ⟨_, scanL_yes (by omega) h1, by simp [h2]⟩
theorem w_neg (r : List UInt8) : wordF (45 :: r) = (6, [45], 1) := by kernel_rfl
theorem w_open (r : List UInt8) : wordF (40 :: r) = (6, [40], 1) := by kernel_rfl
theorem w_shut (r : List UInt8) : wordF (41 :: r) = (6, [41], 1) := by kernel_rfl
/-- the operators, by their numbers -/
def opL : List (List UInt8) := [[61], [60, 62], [60], [60, 61], [62], [62, 61], [38], [43], [45], [42], [47]]
def opB (k : Nat) : List UInt8 := opL.getD k [43]
def lvL : List Nat := [1, 1, 1, 1, 1, 1, 2, 3, 3, 4, 4]
theorem op_all : ∀ k : Nat, k < 11 → lvl (opB k) = lvL.getD k 0 ∧ 1 ≤ lvl (opB k) ∧ (opB k).length ≤ 2 ∧ 0 < (opB k).length := by decide
/-- how a term begins -/
def Hd (T : List UInt8) : Prop := ∃ c r, T = c :: r ∧ (c = 65 ∨ c = 66 ∨ c = 45 ∨ c = 40)
theorem w_op {k : Nat} (hk : k < 11) {r : List UInt8} (h : Hd r) : wordF (opB k ++ r) = (6, opB k, (opB k).length) := by
  obtain ⟨c, r, rfl, h⟩ := h
  rcases (by omega : k = 0 ∨ k = 1 ∨ k = 2 ∨ k = 3 ∨ k = 4 ∨ k = 5 ∨ k = 6 ∨ k = 7 ∨ k = 8 ∨ k = 9 ∨ k = 10) with rfl | rfl | rfl | rfl | rfl | rfl | rfl | rfl | rfl | rfl | rfl <;> rcases h with rfl | rfl | rfl | rfl <;> kernel_rfl
theorem op_head {k : Nat} (hk : k < 11) (r : List UInt8) : joinB ((opB k ++ r).headD 32) = false ∧ (opB k ++ r).headD 0 ≠ 32 := by
  rcases (by omega : k = 0 ∨ k = 1 ∨ k = 2 ∨ k = 3 ∨ k = 4 ∨ k = 5 ∨ k = 6 ∨ k = 7 ∨ k = 8 ∨ k = 9 ∨ k = 10) with rfl | rfl | rfl | rfl | rfl | rfl | rfl | rfl | rfl | rfl | rfl <;> exact ⟨by kernel_rfl, by simp [opB, opL]⟩
theorem scan_op {k : Nat} (hk : k < 11) {r : List UInt8} (h : Hd r) {S : List (Nat × List UInt8)} (hr : ScanTo r S) : ScanTo (opB k ++ r) ((6, opB k) :: S) :=
  scan_word (w_op hk h) (op_all k hk).2.2.2 (op_head hk r).2 hr
theorem w_ref {a b : UInt8} (h1 : joinB a = true) (h2 : joinB b = true) (h3 : V.pf (V.parseO [a, b]) = false) (h4 : refF [a, b] = true) (h5 : a ≠ 34) (h6 : a ≠ 35) {r : List UInt8} (h : joinB (r.headD 32) = false) : wordF ([a, b] ++ r) = (3, [a, b], 2) := by
  have e : ([a, b] ++ r).takeWhile joinB = [a, b] := by
    cases r with
    | nil => simp [List.takeWhile, h1, h2]
    | cons c r =>
      simp only [List.headD_cons] at h
      simp [List.takeWhile, h1, h2, h]
  have ek : ∀ c, kindJ [a, b] c = 3 := fun c => by
    unfold kindJ
    rw [h3, h4]
    rfl
  unfold wordF
  rw [show ([a, b] ++ r).headD 0 = a from rfl, if_neg h5, if_neg h6, h1, if_pos rfl]
  unfold joinW
  rw [e, ek]
  rfl
/-- a text is a term's: how it is cut, what is read of its words, how it begins -/
structure Tx (x : Ex) (T : List UInt8) (ws : List (Nat × List UInt8)) : Prop where
  sc : ∀ r S, joinB (r.headD 32) = false → ScanTo r S → ScanTo (T ++ r) (ws ++ S)
  rd : Reads EE x ws
  hd : Hd T
theorem Hd.app {T : List UInt8} (h : Hd T) (r : List UInt8) : Hd (T ++ r) := by
  obtain ⟨c, t, rfl, h⟩ := h
  exact ⟨c, t ++ r, rfl, h⟩
theorem tx_atom {a b : UInt8} (h1 : joinB a = true) (h2 : joinB b = true) (h3 : V.pf (V.parseO [a, b]) = false) (h4 : refF [a, b] = true) (h5 : a = 65 ∨ a = 66) : Tx (refE (EE.ref [a, b])) [a, b] [(3, [a, b])] := by
  have ha : a ≠ 34 ∧ a ≠ 35 ∧ a ≠ 32 := by rcases h5 with rfl | rfl <;> decide
  refine ⟨fun r S hr hs => scan_word (p := [a, b]) (w_ref h1 h2 h3 h4 ha.1 ha.2.1 hr) (by simp) ha.2.2 hs, reads_atom h4, a, [b], rfl, ?_⟩
  rcases h5 with h | h
  · exact .inl h
  · exact .inr (.inl h)
theorem tx_neg {x : Ex} {T : List UInt8} {ws : List (Nat × List UInt8)} (h : Tx x T ws) : Tx (negE x) (45 :: T) ((6, [45]) :: ws) := by
  refine ⟨fun r S hr hs => ?_, reads_neg h.rd, 45, T, rfl, .inr (.inr (.inl rfl))⟩
  exact scan_word (p := [45]) (r := T ++ r) (w_neg _) (by simp) (by simp) (h.sc r S hr hs)
theorem tx_bin {x y : Ex} {T U : List UInt8} {wx wy : List (Nat × List UInt8)} {k : Nat} (hk : k < 11) (hx : Tx x T wx) (hy : Tx y U wy) :
    Tx (binE (opB k) x y) (40 :: (T ++ (opB k ++ (U ++ [41])))) ((6, [40]) :: (wx ++ (6, opB k) :: (wy ++ [(6, [41])]))) := by
  refine ⟨fun r S hr hs => ?_, reads_bin hx.rd hy.rd (op_all k hk).2.1, 40, _, rfl, .inr (.inr (.inr rfl))⟩
  have s1 : ScanTo (41 :: r) ((6, [41]) :: S) := scan_word (p := [41]) (r := r) (w_shut _) (by simp) (by simp) hs
  have s2 := hy.sc (41 :: r) _ (by kernel_rfl) s1
  have s3 := scan_op hk (hy.hd.app _) s2
  have s4 := hx.sc _ _ (op_head hk _).1 s3
  have s5 := scan_word (p := [40]) (w_open _) (by simp) (by simp) s4
  have e1 : 40 :: (T ++ (opB k ++ (U ++ [41]))) ++ r = [40] ++ (T ++ (opB k ++ (U ++ 41 :: r))) := by simp
  have e2 : (6, [40]) :: (wx ++ (6, opB k) :: (wy ++ [(6, [41])])) ++ S = (6, [40]) :: (wx ++ (6, opB k) :: (wy ++ (6, [41]) :: S)) := by simp
  rw [e1, e2]
  exact s5
/-- the terms that are made: their texts, trees and words -/
def aT (ng : Bool) (i : Nat) : List UInt8 := if ng then [45, 66, UInt8.ofNat (49 + i)] else [66, UInt8.ofNat (49 + i)]
def aX (ng : Bool) (i : Nat) : Ex := if ng then negE (refE (EE.ref [66, UInt8.ofNat (49 + i)])) else refE (EE.ref [66, UInt8.ofNat (49 + i)])
def aW (ng : Bool) (i : Nat) : List (Nat × List UInt8) := if ng then [(6, [45]), (3, [66, UInt8.ofNat (49 + i)])] else [(3, [66, UInt8.ofNat (49 + i)])]
def zX : Ex := refE (EE.ref [65, 49])
def wfR (x : Ex) : List (Nat × List UInt8) := match x.rs with
  | r :: _ => [(3, [UInt8.ofNat (65 + r.2.2.1.toNat), UInt8.ofNat (49 + r.2.1.toNat)])]
  | [] => []
def wf (x : Ex) : List (Nat × List UInt8) := match x.ks with
  | y :: _ => (6, [45]) :: wfR y
  | [] => wfR x
theorem tx_zero : Tx zX [65, 49] (wf zX) := by
  rw [show wf zX = [(3, [65, 49])] by kernel_rfl]
  exact tx_atom (by kernel_rfl) (by kernel_rfl) (by kernel_rfl) (by kernel_rfl) (.inl rfl)
theorem tx_b : ∀ i : Nat, i < 7 → Tx (refE (EE.ref [66, UInt8.ofNat (49 + i)])) [66, UInt8.ofNat (49 + i)] [(3, [66, UInt8.ofNat (49 + i)])] := by
  intro i hi
  rcases (by omega : i = 0 ∨ i = 1 ∨ i = 2 ∨ i = 3 ∨ i = 4 ∨ i = 5 ∨ i = 6) with rfl | rfl | rfl | rfl | rfl | rfl | rfl <;> exact tx_atom (by kernel_rfl) (by kernel_rfl) (by kernel_rfl) (by kernel_rfl) (.inr rfl)
theorem wf_a (ng : Bool) : ∀ i : Nat, i < 7 → wf (aX ng i) = aW ng i := by
  intro i hi
  rcases (by omega : i = 0 ∨ i = 1 ∨ i = 2 ∨ i = 3 ∨ i = 4 ∨ i = 5 ∨ i = 6) with rfl | rfl | rfl | rfl | rfl | rfl | rfl <;> cases ng <;> kernel_rfl
theorem tx_a (ng : Bool) (i : Nat) (hi : i < 7) : Tx (aX ng i) (aT ng i) (wf (aX ng i)) := by
  rw [wf_a ng i hi]
  cases ng with
  | false => exact tx_b i hi
  | true => exact tx_neg (tx_b i hi)
theorem nodes_a (ng : Bool) (i : Nat) : nodes (aX ng i) ≤ 2 ∧ (aT ng i).length ≤ 3 := by
  cases ng with
  | false => exact ⟨by show nodes (refE _) ≤ 2; rw [refE, nodes_leaf]; omega, by simp [aT]⟩
  | true => exact ⟨by show nodes (negE (refE _)) ≤ 2; rw [nodes_neg, refE, nodes_leaf]; omega, by simp [aT]⟩
/-- the row as the first loop makes it: numbers of operators, terms with their texts, the text of all -/
structure Fs (cs : List Nat) (ps : List (Ex × List UInt8)) (src : List UInt8) : Prop where
  len : ps.length = cs.length
  c : ∀ k ∈ cs, k < 11
  tx : ∀ p ∈ ps, Tx p.1 p.2 (wf p.1) ∧ nodes p.1 ≤ 2 ∧ p.2.length ≤ 3
  sc : ∀ r S, joinB (r.headD 32) = false → ScanTo r S → ScanTo (src ++ r) (wf zX ++ (rowW wf ((cs.map opB).zip (ps.map (·.1))) ++ S))
  sl : src.length ≤ 2 + 5 * cs.length
theorem fs_nil : Fs [] [] [65, 49] := ⟨rfl, by simp, by simp, fun r S hr hs => tx_zero.sc r S hr hs, by simp⟩
theorem Fs.snoc {cs : List Nat} {ps : List (Ex × List UInt8)} {src : List UInt8} (h : Fs cs ps src) {k : Nat} (hk : k < 11) (ng : Bool) (i : Nat) (hi : i < 7) : Fs (cs ++ [k]) (ps ++ [(aX ng i, aT ng i)]) (src ++ (opB k ++ aT ng i)) := by
  have ht := tx_a ng i hi
  have hn := nodes_a ng i
  refine ⟨by simp [h.len], ?_, ?_, ?_, ?_⟩
  · intro c hc
    rcases List.mem_append.1 hc with hc | hc
    · exact h.c c hc
    · rw [List.mem_singleton.1 hc]; exact hk
  · intro p hp
    rcases List.mem_append.1 hp with hp | hp
    · exact h.tx p hp
    · rw [List.mem_singleton.1 hp]; exact ⟨ht, hn⟩
  · intro r S hr hs
    have s1 := ht.sc r S hr hs
    have s2 := scan_op hk (ht.hd.app r) s1
    have s3 := h.sc _ _ (op_head hk _).1 s2
    rw [List.map_append, List.map_append, List.zip_append (by simp [h.len]), rowW_app]
    have e1 : src ++ (opB k ++ aT ng i) ++ r = src ++ (opB k ++ (aT ng i ++ r)) := by simp
    rw [e1]
    simpa [rowW] using s3
  · have := (op_all k hk).2.2.1
    have := h.sl
    have := hn.2
    simp only [List.length_append, List.length_cons, List.length_nil]
    omega
/-- the row as the second loop holds it -/
structure Sn (X : Ex) (cs : List Nat) (ps : List (Ex × List UInt8)) : Prop where
  len : ps.length = cs.length + 1
  c : ∀ k ∈ cs, k < 11
  tx : ∀ p ∈ ps, ∃ ws, Tx p.1 p.2 ws
  tp : top (cs.map opB) (ps.map (·.1)) = X
  nd : (ps.map fun p => nodes p.1).sum + cs.length ≤ 22
  tl : (ps.map fun p => p.2.length).sum + 4 * cs.length ≤ 51
theorem sum_le {α : Type} (f : α → Nat) (c : Nat) : ∀ l : List α, (∀ p ∈ l, f p ≤ c) → (l.map f).sum ≤ c * l.length
  | [], _ => by simp
  | p :: l, h => by
    have h1 := h p (by simp)
    have h2 := sum_le f c l fun q hq => h q (List.mem_cons_of_mem _ hq)
    simp only [List.map_cons, List.sum_cons, List.length_cons]
    rw [Nat.mul_succ]
    omega
theorem Fs.sn {cs : List Nat} {ps : List (Ex × List UInt8)} {src : List UInt8} (h : Fs cs ps src) (h7 : cs.length ≤ 7) : Sn (top (cs.map opB) (zX :: ps.map (·.1))) cs ((zX, [65, 49]) :: ps) := by
  have h1 := sum_le (fun p : Ex × List UInt8 => nodes p.1) 2 ps fun p hp => (h.tx p hp).2.1
  have h2 := sum_le (fun p : Ex × List UInt8 => p.2.length) 3 ps fun p hp => (h.tx p hp).2.2
  have h3 := h.len
  refine ⟨by simp [h.len], h.c, ?_, rfl, ?_, ?_⟩
  · intro p hp
    rcases List.mem_cons.1 hp with rfl | hp
    · exact ⟨_, tx_zero⟩
    · exact ⟨_, (h.tx p hp).1⟩
  · simp only [List.map_cons, List.sum_cons]
    rw [show nodes zX = 1 from nodes_leaf _ _ _ _ _ _]
    omega
  · simp only [List.map_cons, List.sum_cons, List.length_cons, List.length_nil]
    omega
theorem sum_cut {α : Type} (f : α → Nat) {l : List α} {i : Nat} (h : i + 1 < l.length) (y : α) : ((l.take i ++ y :: l.drop (i + 2)).map f).sum + f l[i] + f l[i + 1] = (l.map f).sum + f y := by
  induction i generalizing l with
  | zero =>
    match l, h with
    | a :: b :: l, _ =>
      simp only [List.take_zero, List.nil_append, List.drop_succ_cons, List.drop_zero, List.map_cons, List.sum_cons, List.getElem_cons_zero, List.getElem_cons_succ]
      omega
    | [], h => simp at h
    | [a], h => simp at h
  | succ i ih =>
    match l, h with
    | a :: l, h =>
      have := ih (l := l) (by simpa using h)
      simp only [List.take_succ_cons, List.drop_succ_cons, List.cons_append, List.map_cons, List.sum_cons, List.getElem_cons_succ]
      omega
    | [], h => simp at h
/-- the text of two terms and an operator between them, in brackets -/
def bT (T : List UInt8) (k : Nat) (U : List UInt8) : List UInt8 := 40 :: (T ++ (opB k ++ (U ++ [41])))
theorem Sn.step {X : Ex} {cs : List Nat} {ps : List (Ex × List UInt8)} (h : Sn X cs ps) {i M : Nat} (hi : i < cs.length) (hM : ∀ k ∈ cs, lvL.getD k 0 ≤ M) (h1 : 1 ≤ M) (hm : lvL.getD cs[i] 0 = M) (hb : ∀ j, (hj : j < i) → lvL.getD (cs[j]'(by omega)) 0 < M) :
    Sn X (cs.take i ++ cs.drop (i + 1)) (ps.take i ++ (binE (opB cs[i]) (ps[i]'(by have := h.len; omega)).1 (ps[i + 1]'(by have := h.len; omega)).1, bT (ps[i]'(by have := h.len; omega)).2 cs[i] (ps[i + 1]'(by have := h.len; omega)).2) :: ps.drop (i + 2)) := by
  have hl := h.len
  have hk : cs[i] < 11 := h.c _ (List.getElem_mem _)
  have ho := op_all _ hk
  refine ⟨?_, ?_, ?_, ?_, ?_, ?_⟩
  · simp only [List.length_append, List.length_take, List.length_cons, List.length_drop]
    omega
  · intro k hk
    rcases List.mem_append.1 hk with hk | hk
    · exact h.c k (List.mem_of_mem_take hk)
    · exact h.c k (List.mem_of_mem_drop hk)
  · intro p hp
    rcases List.mem_append.1 hp with hp | hp
    · exact h.tx p (List.mem_of_mem_take hp)
    · rcases List.mem_cons.1 hp with rfl | hp
      · obtain ⟨w1, t1⟩ := h.tx _ (List.getElem_mem (show i < ps.length by omega))
        obtain ⟨w2, t2⟩ := h.tx _ (List.getElem_mem (show i + 1 < ps.length by omega))
        exact ⟨_, tx_bin hk t1 t2⟩
      · exact h.tx p (List.mem_of_mem_drop hp)
  · refine Eq.trans ?_ h.tp
    have := top_step (ops := cs.map opB) (ts := ps.map (·.1)) (i := i) (M := M) (by simp [hl]) (by simpa using hi) (by
      intro o ho
      obtain ⟨k, hk, rfl⟩ := List.mem_map.1 ho
      rw [(op_all k (h.c k hk)).1]
      exact hM k hk) h1 (by rw [List.getElem_map, ho.1]; exact hm) (by
      intro j hj
      rw [List.getElem_map, (op_all _ (h.c _ (List.getElem_mem (show j < cs.length by omega)))).1]
      exact hb j hj)
    rw [← this]
    simp [List.map_take, List.map_drop]
  · have := sum_cut (fun p : Ex × List UInt8 => nodes p.1) (l := ps) (i := i) (by omega) (binE (opB cs[i]) (ps[i]'(by omega)).1 (ps[i + 1]'(by omega)).1, bT (ps[i]'(by omega)).2 cs[i] (ps[i + 1]'(by omega)).2)
    simp only [nodes_bin] at this
    have := h.nd
    simp only [List.length_append, List.length_take, List.length_drop]
    omega
  · have := sum_cut (fun p : Ex × List UInt8 => p.2.length) (l := ps) (i := i) (by omega) (binE (opB cs[i]) (ps[i]'(by omega)).1 (ps[i + 1]'(by omega)).1, bT (ps[i]'(by omega)).2 cs[i] (ps[i + 1]'(by omega)).2)
    simp only [bT, List.length_cons, List.length_append, List.length_nil] at this
    have := h.tl
    simp only [bT, List.length_append, List.length_take, List.length_drop, List.length_cons, List.length_nil] at *
    omega
end Go.Proofs.YtgheopdadfnilaaDoor
namespace Go.Proofs.YtgheopdadfnilaaDoor
open Go.RowKit
set_option linter.unusedVariables false
set_option linter.unusedSimpArgs false

theorem nodes_mem {ks : List Ex} {y : Ex} (h : y ∈ ks) : nodes y ≤ nodes.nodesL ks := by
  induction ks with
  | nil => cases h
  | cons x xs ih =>
    rw [nodes.nodesL]
    rcases List.mem_cons.1 h with rfl | h
    · omega
    · have := ih h
      omega
theorem shl_of : ∀ (m : Nat) (x : Ex), nodes x ≤ m → shl m x = true
  | 0, .mk k n t b e rs ks, h => by rw [nodes] at h; omega
  | m + 1, .mk k n t b e rs ks, h => by
    rw [nodes] at h
    unfold shl
    rw [List.all_eq_true]
    intro y hy
    have := nodes_mem hy
    exact shl_of m y (by omega)
theorem fit_of {x : Ex} (h : nodes x ≤ 50) : fitB x = true := by
  unfold fitB
  rw [shl_of 50 x h, decide_eq_true (by omega)]
  rfl
theorem fin_ok {L : List Wd} {x : Ex} {j : Nat} (hk : kAt L j = 7) (h : nodes x ≤ 50) : finR L (some (x, j)) = (x, 0) := by
  unfold finR
  simp only
  rw [if_pos hk, fit_of h]
  rfl
/-- a term, parsed -/
theorem parse_tx {x : Ex} {T : List UInt8} {ws : List (Nat × List UInt8)} (h : Tx x T ws) (hl : T.length ≤ 1000) (hn : nodes x ≤ 50) (s : ByteArray) (hs : s.data.toList = T) (W : World) (hw : Std W) : Calls Tryd.prog 5 #[.string s] W fun e W' => RepR W (x, 0) e W' := by
  have h1 := h.sc [] [] (by kernel_rfl) scan_nil
  rw [List.append_nil, List.append_nil] at h1
  obtain ⟨L, h2, h3⟩ := scan_l h1 hl
  have h4 : Wds L 0 (L.map fun w => (w.k, w.t)) := wds_map (L := L) L [] rfl
  rw [h3] at h4
  obtain ⟨f, h5⟩ := pt_one h.rd h4
  obtain ⟨-, h6, -⟩ := h4.app
  rw [Nat.zero_add] at h6
  rw [← hs] at h2
  have key := pparse_any s W hw (by rw [← len_data, hs]; omega) L 0 f _ h2 h5
  rw [fin_ok h6.2.1 hn] at key
  exact key
/-- the row without brackets, parsed -/
theorem parse_fs {cs : List Nat} {ps : List (Ex × List UInt8)} {src : List UInt8} (h : Fs cs ps src) (h7 : cs.length ≤ 7) {X : Ex} (hX : top (cs.map opB) (zX :: ps.map (·.1)) = X) (hn : nodes X ≤ 50) (s : ByteArray) (hs : s.data.toList = src) (W : World) (hw : Std W) : Calls Tryd.prog 5 #[.string s] W fun e W' => RepR W (X, 0) e W' := by
  subst hX
  have hsl := h.sl
  have h1 := h.sc [] [] (by kernel_rfl) scan_nil
  rw [List.append_nil, List.append_nil] at h1
  obtain ⟨L, h2, h3⟩ := scan_l h1 (by omega)
  have h4 : Wds L 0 (L.map fun w => (w.k, w.t)) := wds_map (L := L) L [] rfl
  rw [h3, List.append_assoc] at h4
  obtain ⟨f, h5⟩ := pt_top (by simp [h.len]) tx_zero.rd (fun t ht => by
    obtain ⟨p, hp, rfl⟩ := List.mem_map.1 ht
    exact (h.tx p hp).1.rd) (fun o ho => by
    obtain ⟨k, hk, rfl⟩ := List.mem_map.1 ho
    exact (op_all k (h.c k hk)).2.1) h4
  rw [← List.append_assoc] at h4
  obtain ⟨-, h6, -⟩ := h4.app
  rw [Nat.zero_add, List.length_append] at h6
  rw [← hs] at h2
  have key := pparse_any s W hw (by rw [← len_data, hs]; omega) L 0 f _ h2 h5
  rw [fin_ok h6.2.1 hn] at key
  exact key
/-- the end of the second loop -/
theorem Sn.fin {X : Ex} {ps : List (Ex × List UInt8)} (h : Sn X [] ps) : ∃ T, ps = [(X, T)] ∧ T.length ≤ 51 ∧ nodes X ≤ 22 ∧ ∃ ws, Tx X T ws := by
  have hl := h.len
  match ps, hl with
  | [(x, T)], _ =>
    have e : x = X := h.tp
    subst e
    have h1 := h.nd
    have h2 := h.tl
    simp at h1 h2
    exact ⟨T, rfl, by omega, by omega, h.tx (x, T) (by simp)⟩
end Go.Proofs.YtgheopdadfnilaaDoor
namespace Go.Proofs.YtgheopdadfnilaaDoor
open Go.RowKit
set_option linter.unusedVariables false
set_option linter.unusedSimpArgs false

section
variable {α : Type} {enc : α → List Value} {k : Nat}
theorem sl_take {W : World} {ao : Option Addr} {cap : Nat} {L : List α} (h : Sl enc k W (.slice ao L.length cap) L) (n : Nat) (hn : n ≤ L.length) : Sl enc k W (.slice ao n cap) (L.take n) := by
  obtain ⟨ao', cap', hv, h1, h2, h⟩ := h
  simp only [Value.slice.injEq, true_and] at hv
  obtain ⟨rfl, rfl⟩ := hv
  have e : (L.take n).length = n := by rw [List.length_take]; omega
  refine ⟨ao, cap, by rw [e], by rw [e]; omega, h2, fun hl => ?_⟩
  obtain ⟨b, off, ha, hc⟩ := h (by rw [e] at hl; omega)
  refine ⟨b, off, ha, fun i hi => ?_⟩
  have := hc i (by rw [e] at hi; omega)
  rw [List.getElem_take]
  exact this
theorem sl_drop {W : World} {b off cap : Nat} {L : List α} (h : Sl enc k W (.slice (some ⟨b, off, none⟩) L.length cap) L) (n : Nat) (hn : n ≤ L.length) : Sl enc k W (.slice (some ⟨b, off + n * k, none⟩) (L.length - n) (cap - n)) (L.drop n) := by
  obtain ⟨ao', cap', hv, h1, h2, h⟩ := h
  simp only [Value.slice.injEq, true_and] at hv
  obtain ⟨rfl, rfl⟩ := hv
  refine ⟨_, _, by rw [List.length_drop], by rw [List.length_drop]; omega, by omega, fun hl => ?_⟩
  rw [List.length_drop] at hl
  obtain ⟨b', off', ha, hc⟩ := h (by omega)
  cases ha
  refine ⟨b, off + n * k, rfl, fun i hi => ?_⟩
  rw [List.length_drop] at hi
  have := hc (n + i) (by omega)
  rw [List.getElem_drop]
  rw [Nat.add_mul] at this
  rw [show off + n * k + i * k = off + (n * k + i * k) by omega]
  exact this
theorem sl_news {W : World} {ad : Addr} {n cap : Nat} {L : List α} (h : Sl enc k W (.slice (some ad) n cap) L) (hk : ∀ x, (enc x).length = k) (hp : 0 < k) : ∀ j u, (flat enc L)[j]? = some u → W.cell? (ad.add j) = some u := by
  obtain ⟨ao, cap', hv, h⟩ := h.cells hk hp
  simp only [Value.slice.injEq] at hv
  rcases h with rfl | ⟨ad', rfl, h⟩
  · intro j u hu; simp [flat] at hu
  · obtain ⟨e, _, _⟩ := hv
    cases e
    exact h
end
theorem own_first {α : Type} {enc : α → List Value} {e : TypeId} {k B : Nat} {W : World} {v : Value} {L : List α} {n : Nat} (h : W.ownsRow B e k v n ([] ++ flat enc L)) (hn : n = L.length) : Own enc e k B W v L := by
  subst hn
  exact h
theorem own_append' {α : Type} {enc : α → List Value} {e : TypeId} {k B : Nat} {W : World} {v : Value} {L L' : List α} {n : Nat} (h : W.ownsRow B e k v n (flat enc L ++ flat enc L')) (hn : n = L.length + L'.length) : Own enc e k B W v (L ++ L') := by
  subst hn
  exact own_append h
theorem wpList_append_src {w : World} {ops : Array Oper} {rest : List Oper} {o : Oper} {a : Act} {Q : Exit → Act → World → Prop} (hgd : o.guard = none) (s x : Operand) (t : TypeId)
    (ho : o.op = .call { callee := .builtin .append, args := #[s, x], argTypes := #[t, t] })
    (base : Nat) (e : TypeId) (i : TypeInfo) (z : Value) (size bytes : Nat) (ht : Tryd.prog.underlying t = some (.slice e)) (hi : Tryd.prog.info? e = some i) (hz : i.zero = some z)
    (hsize : i.size = size) (hby : i.bytes = bytes) (hzs : z.cells.size = size) (hsz : 0 < size)
    (v : Value) (n : Nat) (xs : List Value) (hs : a.eval s = v) (hown : w.ownsRow base e size v n xs)
    (u : Value) (hx : a.eval x = u) (m : Nat) (news : List Value) (hu : (u = .slice none 0 0 ∧ m = 0 ∧ news = []) ∨ ∃ ad c, u = .slice (some ad) m c ∧ ∀ j u, news[j]? = some u → w.cell? (ad.add j) = some u)
    (hl : news.length = m * size) (h1 : ∀ u ∈ news, u.oneCell' = true)
    (h63 : n + m ≤ maxLen) (hbytes : (n + m) * bytes ≤ 140737488355328) (hbase : base ≤ w.heap.size)
    (h : ∀ v' w', w'.ownsRow base e size v' (n + m) (xs ++ news) → w.grownBy w' v.ownBlock → wpList Tryd.prog ops Q rest (a.put o.dst v') w') : wpList Tryd.prog ops Q (o :: rest) a w := by
  rcases hu with ⟨rfl, rfl, rfl⟩ | ⟨ad, c, rfl, hnews⟩
  · refine wpList_append_own_none hgd s x t ho base e i size ht hi v n xs hs hown hx (h v w (by simpa using hown) ⟨rfl, rfl, rfl, Nat.le_refl _, fun _ _ _ => rfl⟩)
  · exact wpList_append_own w hgd s x t ho base e i z size bytes ht hi hz hsize hby hzs hsz v n xs hs hown ad m c news hx hl hnews h1 h63 hbytes hbase fun v' w' h2 h3 _ => h v' w' h2 h3
theorem own_src {α : Type} {enc : α → List Value} {e : TypeId} {k B : Nat} {W : World} {v : Value} {L : List α} (h : Own enc e k B W v L) (hk : ∀ x, (enc x).length = k) (hp : 0 < k) : (v = .slice none 0 0 ∧ L.length = 0 ∧ flat enc L = []) ∨ ∃ ad c, v = .slice (some ad) L.length c ∧ ∀ j u, (flat enc L)[j]? = some u → W.cell? (ad.add j) = some u := by
  have hs := h.sl hk hp
  obtain ⟨_, h⟩ := h
  rcases h with ⟨hv, hn⟩ | ⟨g, cap, cur, hv, _⟩
  · exact .inl ⟨hv, hn, by rw [List.eq_nil_of_length_eq_zero hn]; rfl⟩
  · rw [hv] at hs
    exact .inr ⟨_, _, hv, sl_news hs hk hp⟩
theorem sl_src {α : Type} {enc : α → List Value} {k n cap b off : Nat} {W : World} {L : List α} (h : Sl enc k W (.slice (some ⟨b, off, none⟩) n cap) L) (hn : n = L.length) (hk : ∀ x, (enc x).length = k) (hp : 0 < k) : (Value.slice (some ⟨b, off, none⟩) n cap = .slice none 0 0 ∧ n = 0 ∧ flat enc L = []) ∨ ∃ ad c, Value.slice (some ⟨b, off, none⟩) n cap = .slice (some ad) n c ∧ ∀ j u, (flat enc L)[j]? = some u → W.cell? (ad.add j) = some u :=
  .inr ⟨_, _, rfl, sl_news h hk hp⟩

end Go.Proofs.YtgheopdadfnilaaDoor
namespace Go.Proofs.YtgheopdadfnilaaDoor
open Go.RowKit
set_option linter.unusedVariables false
set_option linter.unusedSimpArgs false

/-- texts, numbers of operators, numbers: as they lie in memory -/
def se (T : List UInt8) : List Value := [.string ⟨T.toArray⟩]
def ie (c : Nat) : List Value := [.int .i64 (c : Int)]
def iz (c : Int) : List Value := [.int .i64 c]
theorem se_len (T : List UInt8) : (se T).length = 1 := rfl
theorem ie_len (c : Nat) : (ie c).length = 1 := rfl
theorem iz_len (c : Int) : (iz c).length = 1 := rfl
theorem se_one (T : List UInt8) : ∀ u ∈ se T, u.oneCell' = true := by
  intro u hu
  rw [List.mem_singleton.1 hu]
  rfl
theorem ie_one (c : Nat) : ∀ u ∈ ie c, u.oneCell' = true := by
  intro u hu
  rw [List.mem_singleton.1 hu]
  rfl
theorem iz_one (c : Int) : ∀ u ∈ ([.int .i64 c] : List Value), u.oneCell' = true := by
  intro u hu
  rw [List.mem_singleton.1 hu]
  rfl
theorem st_one (X : ByteArray) : ∀ u ∈ ([.string X] : List Value), u.oneCell' = true := by
  intro u hu
  rw [List.mem_singleton.1 hu]
  rfl
theorem info9 : (Tryd.prog.info? 9).map (fun i => (i.zero, i.size, i.bytes)) = some (some (.string ⟨#[]⟩), 1, 16) := by kernel_rfl
theorem info3 : (Tryd.prog.info? 3).map (fun i => (i.zero, i.size, i.bytes)) = some (some (.int .i64 0), 1, 8) := by kernel_rfl
/-- the two tables -/
structure Tab (w : World) (bo bl : Nat) : Prop where
  o : ∀ k : Nat, k < 11 → w.cell? ⟨bo, k, none⟩ = some (.string ⟨(opB k).toArray⟩)
  l : ∀ k : Nat, k < 11 → w.cell? ⟨bl, k, none⟩ = some (.int .i64 ((lvL.getD k 0 : Nat) : Int))
theorem Tab.on {w w' : World} {bo bl : Nat} (h : Tab w bo bl) (q : Q w w') : Tab w' bo bl :=
  ⟨fun k hk => (q.cell (World.block_lt_of_cell? w _ (h.o k hk))).trans (h.o k hk), fun k hk => (q.cell (World.block_lt_of_cell? w _ (h.l k hk))).trans (h.l k hk)⟩
theorem tab_new (w : World) : Tab ((w.alloc (.cells #[.string ⟨#[61]⟩, .string ⟨#[60, 62]⟩, .string ⟨#[60]⟩, .string ⟨#[60, 61]⟩, .string ⟨#[62]⟩, .string ⟨#[62, 61]⟩, .string ⟨#[38]⟩, .string ⟨#[43]⟩, .string ⟨#[45]⟩, .string ⟨#[42]⟩, .string ⟨#[47]⟩] 9)).alloc (.cells #[.int .i64 1, .int .i64 1, .int .i64 1, .int .i64 1, .int .i64 1, .int .i64 1, .int .i64 2, .int .i64 3, .int .i64 3, .int .i64 4, .int .i64 4] 3)) w.heap.size (w.heap.size + 1) := by
  refine ⟨fun k hk => ?_, fun k hk => ?_⟩
  · rcases (by omega : k = 0 ∨ k = 1 ∨ k = 2 ∨ k = 3 ∨ k = 4 ∨ k = 5 ∨ k = 6 ∨ k = 7 ∨ k = 8 ∨ k = 9 ∨ k = 10) with rfl | rfl | rfl | rfl | rfl | rfl | rfl | rfl | rfl | rfl | rfl <;> (rw [World.cell?_alloc_past _ _ _ (by simp), World.cell?_alloc_at _ _ _ _ rfl]; rfl)
  · rcases (by omega : k = 0 ∨ k = 1 ∨ k = 2 ∨ k = 3 ∨ k = 4 ∨ k = 5 ∨ k = 6 ∨ k = 7 ∨ k = 8 ∨ k = 9 ∨ k = 10) with rfl | rfl | rfl | rfl | rfl | rfl | rfl | rfl | rfl | rfl | rfl <;> (rw [World.cell?_alloc_at _ _ _ _ (by simp)]; rfl)

theorem own_one (w : World) (T : List UInt8) : Own se 9 1 w.heap.size (w.alloc (.cells #[.string ⟨T.toArray⟩] 9)) (.slice (some ⟨w.heap.size, 0, none⟩) 1 1) [T] :=
  ⟨rfl, .inr ⟨w.heap.size, 1, #[.string ⟨T.toArray⟩], rfl, Nat.le_refl _, heap_alloc_new w _, Nat.le_refl _, by unfold maxLen; omega, rfl, rfl⟩⟩
theorem byte_cv (wr : World) (n : Nat) (h : n < 7) (b : Nat) (hb : b = wr.heap.size) : (convert 25 9 (.slice (some ⟨b, 0, none⟩) 1 1)).run Tryd.prog (wr.alloc (.cells #[.int .u8 (49 + (n : Int))] 5)) = .ok (.string ⟨[UInt8.ofNat (49 + n)].toArray⟩) (wr.alloc (.cells #[.int .u8 (49 + (n : Int))] 5)) :=
  run_convert_bytes_back (P := Tryd.prog) (wr.alloc (.cells #[.int .u8 (49 + (n : Int))] 5)) 25 9 5 ⟨b, 0, none⟩ 1 [UInt8.ofNat (49 + n)] Tryd.underlying25 Tryd.underlying5 Tryd.underlying9 (fun j hj => by
    obtain rfl : j = 0 := by simpa using hj
    rw [Lib.add_plain, World.cell?_alloc_at _ _ _ _ (by simpa using hb)]
    rcases (by omega : n = 0 ∨ n = 1 ∨ n = 2 ∨ n = 3 ∨ n = 4 ∨ n = 5 ∨ n = 6) with rfl | rfl | rfl | rfl | rfl | rfl | rfl <;> rfl)
/-- the two loops' states in memory -/
structure Lp (w0 wr : World) (t r : Value) (cs : List Nat) (Ts : List (List UInt8)) : Prop where
  t : Own se 9 1 w0.heap.size wr t Ts
  r : Own ie 3 1 w0.heap.size wr r cs
  q : Q w0 wr
theorem Lp.alloc {w0 wr : World} {t r : Value} {cs : List Nat} {Ts : List (List UInt8)} (h : Lp w0 wr t r cs Ts) (o : Obj) : Lp w0 (wr.alloc o) t r cs Ts := ⟨h.t.alloc o, h.r.alloc o, h.q.alloc o⟩
/-- behind what is put behind the numbers -/
theorem Lp.numbers {w0 wr w3 : World} {t r v3 : Value} {cs : List Nat} {Ts : List (List UInt8)} (h : Lp w0 wr t r cs Ts) {k n : Nat} {x : Int} (hx : (k : Int) = x) (ho : w3.ownsRow w0.heap.size 3 1 v3 n (flat ie cs ++ [.int .i64 x])) (hn : n = cs.length + 1) (g : wr.grownBy w3 r.ownBlock) : Lp w0 w3 t v3 (cs ++ [k]) Ts :=
  ⟨h.t.grown g (own_ne h.t h.r (by decide)), own_snoc' (enc := ie) (L := cs) (x := k) (by rw [← hx] at ho; exact ho) hn, Below.grown h.q g h.q.size h.r.blk⟩
/-- behind what is put behind the texts -/
theorem Lp.texts {w0 wr w3 : World} {t r v3 : Value} {cs : List Nat} {Ts : List (List UInt8)} (h : Lp w0 wr t r cs Ts) {T : List UInt8} {n : Nat} {X : ByteArray} (hx : ⟨T.toArray⟩ = X) (ho : w3.ownsRow w0.heap.size 9 1 v3 n (flat se Ts ++ [.string X])) (hn : n = Ts.length + 1) (g : wr.grownBy w3 t.ownBlock) : Lp w0 w3 v3 r cs (Ts ++ [T]) :=
  ⟨own_snoc' (enc := se) (L := Ts) (x := T) (by rw [← hx] at ho; exact ho) hn, h.r.grown g (own_ne h.r h.t (by decide)), Below.grown h.q g h.q.size h.t.blk⟩
end Go.Proofs.YtgheopdadfnilaaDoor
namespace Go.Proofs.YtgheopdadfnilaaDoor
open Go.RowKit
set_option linter.unusedVariables false
set_option linter.unusedSimpArgs false

theorem Lp.on {w0 wr wr' : World} {t r : Value} {cs : List Nat} {Ts : List (List UInt8)} (h : Lp w0 wr t r cs Ts) (q : Q wr wr') : Lp w0 wr' t r cs Ts := ⟨h.t.on q, h.r.on q, h.q.trans q⟩
theorem own_slen {α : Type} {enc : α → List Value} {e : TypeId} {k B : Nat} {W : World} {v : Value} {L : List α} (h : Own enc e k B W v L) : slen v = L.length := by
  obtain ⟨_, h⟩ := h
  rcases h with ⟨rfl, hn⟩ | ⟨g, cap, cur, rfl, _⟩
  · rw [hn]; rfl
  · rfl
set_option maxHeartbeats 1000000 in
theorem tail24 (g n cap m : Nat) (x : Int) (hx : x = (m : Int)) (h : m ≤ n) (hc : n ≤ cap) (hmx : cap ≤ maxLen) : ∃ o, (o = m ∨ n - m = 0) ∧ ∀ W, (Instr.sliceAt 24 (.slice (some ⟨g, 0, none⟩) n cap) (some (.int .i64 x)) none none).run Tryd.prog W = .ok (.slice (some ⟨g, o, none⟩) (n - m) (cap - m)) W := by
  subst hx
  have u24 := Tryd.underlying24
  have u9 := Tryd.isAgg9
  have h1 : (cap : Int) ≤ 9223372036854775807 := by unfold maxLen at hmx; omega
  have h2 : (m : Int) ≤ (n : Int) := by omega
  have h3 : (n : Int) ≤ (cap : Int) := by omega
  have h4 : (m : Int) ≤ (cap : Int) := by omega
  by_cases hck : cap = m
  · refine ⟨0, .inr (by omega), fun W => ?_⟩
    have hck' : (cap = m) = True := _root_.eq_true hck
    go_simp
  · refine ⟨m, .inl rfl, fun W => ?_⟩
    have hck' : (cap = m) = False := _root_.eq_false hck
    go_simp
set_option maxHeartbeats 1000000 in
theorem tail22 (g n cap m : Nat) (x : Int) (hx : x = (m : Int)) (h : m ≤ n) (hc : n ≤ cap) (hmx : cap ≤ maxLen) : ∃ o, (o = m ∨ n - m = 0) ∧ ∀ W, (Instr.sliceAt 22 (.slice (some ⟨g, 0, none⟩) n cap) (some (.int .i64 x)) none none).run Tryd.prog W = .ok (.slice (some ⟨g, o, none⟩) (n - m) (cap - m)) W := by
  subst hx
  have u22 := Tryd.underlying22
  have h1 : (cap : Int) ≤ 9223372036854775807 := by unfold maxLen at hmx; omega
  have h2 : (m : Int) ≤ (n : Int) := by omega
  have h3 : (n : Int) ≤ (cap : Int) := by omega
  have h4 : (m : Int) ≤ (cap : Int) := by omega
  by_cases hck : cap = m
  · refine ⟨0, .inr (by omega), fun W => ?_⟩
    have hck' : (cap = m) = True := _root_.eq_true hck
    go_simp
  · refine ⟨m, .inl rfl, fun W => ?_⟩
    have hck' : (cap = m) = False := _root_.eq_false hck
    go_simp
/-- what is read of the tail -/
theorem tail_src {α : Type} {enc : α → List Value} {W : World} {g n cap m o : Nat} {L : List α} (h : Sl enc 1 W (.slice (some ⟨g, 0, none⟩) L.length cap) L) (hk : ∀ x, (enc x).length = 1) (hn : n = L.length) (hm : m ≤ L.length) (ho : o = m ∨ n - m = 0) :
    (Value.slice (some ⟨g, o, none⟩) (n - m) (cap - m) = .slice none 0 0 ∧ n - m = 0 ∧ flat enc (L.drop m) = []) ∨ ∃ ad c, Value.slice (some ⟨g, o, none⟩) (n - m) (cap - m) = .slice (some ad) (n - m) c ∧ ∀ j u, (flat enc (L.drop m))[j]? = some u → W.cell? (ad.add j) = some u := by
  refine .inr ⟨_, _, rfl, fun j u hu => ?_⟩
  rcases ho with rfl | ho
  · have := sl_drop h o hm
    rw [Nat.mul_one, Nat.zero_add] at this
    exact sl_news this hk (by decide) j u hu
  · rw [List.drop_eq_nil_of_le (by omega)] at hu
    simp [flat] at hu
theorem mem_sum {α : Type} (f : α → Nat) : ∀ (l : List α) (p : α), p ∈ l → f p ≤ (l.map f).sum
  | [], p, h => by cases h
  | q :: l, p, h => by
    simp only [List.map_cons, List.sum_cons]
    rcases List.mem_cons.1 h with rfl | h
    · omega
    · have := mem_sum f l p h
      omega
theorem lvL_le : ∀ k : Nat, k < 11 → lvL.getD k 0 ≤ 4 ∧ 1 ≤ lvL.getD k 0 := by decide
end Go.Proofs.YtgheopdadfnilaaDoor
