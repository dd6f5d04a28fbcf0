/- The reference's reader of a file. -/
import Derived.Test.YtcefpjjefokjjaaDoorFn
namespace Go.Proofs.YtcefpjjefokjjaaDoor
open Go.RowKit
set_option linter.unusedVariables false
set_option linter.unusedSimpArgs false

theorem run_mid (W : World) (ao : Option Addr) (n cap lo hi : Nat) (hl : lo ≤ hi) (hk : hi ≤ n) (hn : n ≤ cap) (hc : cap ≤ maxLen) : (Instr.sliceAt 23 (.slice ao n cap) (some (.int .i64 lo)) (some (.int .i64 hi)) none).run Tryd.prog W = .ok (.slice (if cap = lo then ao else ao.map (·.add lo)) (hi - lo) (cap - lo)) W := by
  have u25 := Tryd.underlying23
  have h1 : (cap : Int) ≤ 9223372036854775807 := by unfold maxLen at hc; omega
  have h2 : (hi : Int) ≤ (n : Int) := by omega
  have h3 : (n : Int) ≤ (cap : Int) := by omega
  have h4 : (hi : Int) ≤ (cap : Int) := by omega
  have h5 : (lo : Int) ≤ (hi : Int) := by omega
  have h6 : (lo : Int) ≤ (cap : Int) := by omega
  go_simp
theorem sb_mid {w0 : World} {v : Value} {D : List UInt8} (h : Sb w0 v D) (lo hi : Nat) (hl : lo ≤ hi) (hk : hi ≤ D.length) : ∃ a c, Hid (∀ W, (Instr.sliceAt 23 v (some (.int .i64 lo)) (some (.int .i64 hi)) none).run Tryd.prog W = .ok (.slice a (hi - lo) c) W) ∧ Sb w0 (.slice a (hi - lo) c) ((D.drop lo).take (hi - lo)) := by
  obtain ⟨ao, cap, rfl, h1, h2⟩ := h.s.len
  have h3 := cut_from h.s lo (by omega)
  obtain ⟨a', c', e', h4, h5, h6⟩ := h3
  injection e' with e1 e2 e3
  refine ⟨_, _, hid (fun W => run_mid W ao D.length cap lo hi hl hk h1 h2), ⟨⟨_, _, by rw [List.length_take, List.length_drop]; congr 1; omega, by rw [List.length_take, List.length_drop]; omega, by omega, fun hp => ?_⟩, fun m c e => ?_⟩⟩
  · rw [List.length_take, List.length_drop] at hp
    obtain ⟨g, o, e9, hc⟩ := h6 (by rw [List.length_drop]; omega)
    refine ⟨g, o, e1.trans e9, fun i hi => ?_⟩
    rw [List.length_take] at hi
    rw [List.getElem_take]
    exact hc i (by omega)
  · injection e with e4 e5 e6
    have := h.n D.length cap
    by_cases hc : cap = lo
    · omega
    · rw [if_neg hc] at e4
      cases ao with
      | none => have := this rfl; omega
      | some x => cases e4
/-- the reader's tests, as the reference puts them -/
theorem fst_r1 {X : List UInt8} (h : 4194304 < rd4 X) : fst1 X = none := by
  unfold fst1
  split
  · rfl
  · rw [if_pos (by omega)]
theorem fst_r2 {X : List UInt8} (h : X.length < 8 + rd4 X) : fst1 X = none := by
  unfold fst1
  split
  · rfl
  · rw [if_pos (by omega)]
theorem fst_r3 {X : List UInt8} (h8 : 8 ≤ X.length) (h1 : ¬ 4194304 < rd4 X) (h2 : ¬ X.length < 8 + rd4 X) :
    fst1 X = if frm ((X.drop 8).take (rd4 X)) = X.take (8 + rd4 X) then some ((X.drop 8).take (rd4 X)) else none := by
  have hb : ((X.drop 8).take (rd4 X)).length = rd4 X := by simp; omega
  have e1 : X.take (8 + rd4 X) = X.take 4 ++ ((X.drop 4).take 4 ++ (X.drop 8).take (rd4 X)) := by
    rw [show 8 + rd4 X = 4 + (4 + rd4 X) by omega, List.take_add, List.take_add, List.drop_drop]
  have e2 : frm ((X.drop 8).take (rd4 X)) = X.take 4 ++ (le4 (sm (X.take 4 ++ (X.drop 8).take (rd4 X))) ++ (X.drop 8).take (rd4 X)) := by
    unfold frm
    rw [hb, le4_rd4 X (by omega)]
  have e3 : (X.drop 4).take 4 = le4 (rd4 (X.drop 4)) := (le4_rd4 _ (by simp; omega)).symm
  have e4 : frm ((X.drop 8).take (rd4 X)) = X.take (8 + rd4 X) ↔ rd4 (X.drop 4) = sm (X.take 4 ++ (X.drop 8).take (rd4 X)) := by
    rw [e1, e2, e3, List.append_cancel_left_eq, List.append_cancel_right_eq]
    exact ⟨fun h => (le4_inj (sm_lt _) (rd4_lt _) h).symm, fun h => by rw [h]⟩
  unfold fst1
  rw [if_neg (by omega), if_neg (by omega)]
  by_cases h : rd4 (X.drop 4) = sm (X.take 4 ++ (X.drop 8).take (rd4 X))
  · rw [if_pos h, if_pos (e4.2 h)]
  · rw [if_neg h, if_neg (fun h' => h (e4.1 h'))]
/-- records that lie in the file -/
structure Rf (w0 : World) (B : Nat) (W : World) (v : Value) (LL : List (List UInt8)) : Prop where
  h : ∃ vs : List Value, vs.length = LL.length ∧ Own ev 23 1 B W v vs ∧ ∀ i (h : i < vs.length) (h' : i < LL.length), Sl eb 1 w0 vs[i] LL[i]
theorem Rf.on {w0 : World} {B : Nat} {W W' : World} {v : Value} {LL : List (List UInt8)} (h : Rf w0 B W v LL) (q : Q W W') : Rf w0 B W' v LL := by
  obtain ⟨vs, h1, h2, h3⟩ := h.h
  exact ⟨vs, h1, h2.on q, h3⟩
theorem rf_nil (w0 : World) (B : Nat) (W : World) : Rf w0 B W (.slice none 0 0) [] := ⟨[], rfl, own_nil W, fun i h _ => absurd h (by simp)⟩
theorem Rf.recs {w0 : World} {B : Nat} {W : World} {v : Value} {LL : List (List UInt8)} (h : Rf w0 B W v LL) (q : Q w0 W) : Recs W v LL := by
  obtain ⟨vs, h1, h2, h3⟩ := h.h
  exact ⟨vs, h1, h2.sl ev_len (by omega), fun i a b => (h3 i a b).on q⟩
theorem rf_snoc {w0 : World} {B : Nat} {W' : World} {o' x : Value} {LL : List (List UInt8)} {L : List UInt8} (hx : Sl eb 1 w0 x L) (vs : List Value) (h1 : vs.length = LL.length) (h3 : ∀ i (h : i < vs.length) (h' : i < LL.length), Sl eb 1 w0 vs[i] LL[i]) (ho : Own ev 23 1 B W' o' (vs ++ [x])) : Rf w0 B W' o' (LL ++ [L]) := by
  refine ⟨vs ++ [x], by simp [h1], ho, fun i a b => ?_⟩
  by_cases hi : i < vs.length
  · rw [List.getElem_append_left hi, List.getElem_append_left (by omega)]
    exact h3 i hi (by omega)
  · have hie : i = vs.length := by simp at a; omega
    subst hie
    rw [List.getElem_append_right (Nat.le_refl _), List.getElem_append_right (by omega)]
    simp only [Nat.sub_self, List.getElem_cons_zero, h1]
    exact hx
/-- four bytes of the file -/
theorem four_at {W : World} {ao : Option Addr} {n cap : Nat} {D : List UInt8} (h : Sl eb 1 W (.slice ao n cap) D) (at' : Nat) (hl : at' + 4 ≤ D.length) : ∃ (g o a b c d : Nat), ao = some ⟨g, o, none⟩ ∧ a < 256 ∧ b < 256 ∧ c < 256 ∧ d < 256 ∧ rd4 (D.drop at') = a + 256 * b + 65536 * c + 16777216 * d ∧
    ∀ V, Q W V → V.cell? ⟨g, o + at', none⟩ = some (.int .u8 a) ∧ V.cell? ⟨g, o + (at' + 1), none⟩ = some (.int .u8 b) ∧ V.cell? ⟨g, o + (at' + 2), none⟩ = some (.int .u8 c) ∧ V.cell? ⟨g, o + (at' + 3), none⟩ = some (.int .u8 d) := by
  obtain ⟨g, o, cap', e, hc⟩ := sl_cell h (by omega)
  cases e
  have hd : ∀ k, k < 4 → (D.drop at').getD k 0 = D.getD (at' + k) 0 := fun k hk => by simp [List.getD_eq_getElem?_getD]
  have hg : ∀ k, k < 4 → ∀ V, Q W V → V.cell? ⟨g, o + (at' + k), none⟩ = some (.int .u8 (D.getD (at' + k) 0).toNat) := fun k hk V q => by
    have h1 := hc (at' + k) (by omega)
    rw [q.cell (World.block_lt_of_cell? W ⟨g, _, none⟩ h1), h1, List.getD_eq_getElem?_getD, List.getElem?_eq_getElem (by omega)]
    rfl
  refine ⟨g, o, (D.getD (at' + 0) 0).toNat, (D.getD (at' + 1) 0).toNat, (D.getD (at' + 2) 0).toNat, (D.getD (at' + 3) 0).toNat, rfl, UInt8.toNat_lt _, UInt8.toNat_lt _, UInt8.toNat_lt _, UInt8.toNat_lt _, ?_, fun V q => ⟨hg 0 (by omega) V q, hg 1 (by omega) V q, hg 2 (by omega) V q, hg 3 (by omega) V q⟩⟩
  unfold rd4
  rw [hd 0 (by omega), hd 1 (by omega), hd 2 (by omega), hd 3 (by omega)]
end Go.Proofs.YtcefpjjefokjjaaDoor
