/- DiskPrefix, plainly. -/
import Derived.Test.YtbknbffmpnomlaaDp
namespace Go.Proofs.Ytbknbffmpnomlaa
open Go.RowKit
set_option linter.unusedVariables false
set_option linter.unusedSimpArgs false

def xf : ByteArray := ⟨#[102]⟩
def xg : ByteArray := ⟨#[103]⟩
theorem xfg : xf ≠ xg := by decide
theorem xgf : xg ≠ xf := by decide
def Z (n : Nat) : List UInt8 := List.replicate n 0
theorem Z_len (n : Nat) : (Z n).length = n := List.length_replicate
def G1 (a : Nat) : Pd := Pd.new.append xf (Z a)
def G2 (a : Nat) : Pd := (G1 a).sync
def G3 (a : Nat) : Pd := (G2 a).create xg
def G4 (a b : Nat) : Pd := (G3 a).append xg (Z b)
def G5 (a b : Nat) : Pd := (G4 a b).rename xg xf
theorem g1 (a : Nat) (ha : 1 ≤ a) : G1 a = ⟨upd (fun _ => none) xf (some (Z a)), [⟨xf, [], false, a⟩], a, 0⟩ := by
  unfold G1 Pd.append
  rw [if_neg (by rw [Z_len]; omega)]
  show (⟨_, _, _, _⟩ : Pd) = _
  congr 1
  · show [pm (fun _ => none) xf (Z a).length] = _
    rw [Z_len]; rfl
  · show 0 + (Z a).length = a
    rw [Z_len]; omega
theorem g2 (a : Nat) (ha : 1 ≤ a) : G2 a = ⟨upd (fun _ => none) xf (some (Z a)), [], a, a⟩ := by
  unfold G2
  rw [g1 a ha]
  rfl
def F3 (a : Nat) : Fs := upd (upd (fun _ => none) xf (some (Z a))) xg (some [])
theorem g3 (a : Nat) (ha : 1 ≤ a) : G3 a = ⟨F3 a, [⟨xg, [], false, 1⟩], a + 1, a⟩ := by
  unfold G3
  rw [g2 a ha]
  have e : (upd (fun _ => none) xf (some (Z a)) : Fs) xg = none := upd_other _ _ xgf
  unfold Pd.create Pd.note Pd.put F3 pm gd
  simp only [e]
  rfl
def F4 (a b : Nat) : Fs := upd (F3 a) xg (some (Z b))
theorem g4 (a b : Nat) (ha : 1 ≤ a) (hb : 1 ≤ b) : G4 a b = ⟨F4 a b, [⟨xg, [], false, 1⟩, ⟨xg, [], true, b⟩], a + 1 + b, a⟩ := by
  unfold G4 Pd.append
  rw [if_neg (by rw [Z_len]; omega), g3 a ha]
  have e : gd (F3 a) xg = [] := by unfold gd F3; rw [upd_same]; rfl
  have e2 : (F3 a) xg = some [] := by unfold F3; rw [upd_same]
  unfold Pd.note Pd.put F4 pm
  rw [Z_len]
  simp only [e, e2]
  rfl
theorem g5 (a b : Nat) (ha : 1 ≤ a) (hb : 1 ≤ b) : G5 a b = ⟨upd (upd (F4 a b) xg none) xf (some (Z b)), [⟨xg, [], false, 1⟩, ⟨xg, [], true, b⟩, ⟨xg, Z b, true, 1⟩, ⟨xf, Z a, true, 0⟩], a + b + 2, a⟩ := by
  unfold G5
  rw [g4 a b ha hb]
  have e : (F4 a b) xg = some (Z b) := by unfold F4; rw [upd_same]
  have e1 : (F4 a b) xf = some (Z a) := by unfold F4 F3; rw [upd_other _ _ xfg, upd_other _ _ xfg, upd_same]
  unfold Pd.rename
  rw [if_pos (by show ((F4 a b) xg).isSome = true; rw [e]; rfl)]
  unfold Pd.put Pd.del Pd.note pm gd
  simp only [e, e1]
  show (⟨_, _, _, _⟩ : Pd) = _
  congr 1
  omega
/-- what stands behind a cut -/
theorem g_cut (a b : Nat) (ha : 1 ≤ a) (hb : 1 ≤ b) (n : Nat) (h1 : a ≤ n) (h2 : n ≤ a + b + 2) :
    (n = a + b + 2 → (G5 a b).at n xf = some (Z b) ∧ (G5 a b).at n xg = none) ∧
    (n < a + b + 2 → (G5 a b).at n xf = some (Z a) ∧ (n = a → (G5 a b).at n xg = none) ∧ (a < n → ∃ L, (G5 a b).at n xg = some L ∧ L.length = n - a - 1)) := by
  unfold Pd.at
  rw [g5 a b ha hb]
  show (_ → back [⟨xf, Z a, true, 0⟩, ⟨xg, Z b, true, 1⟩, ⟨xg, [], true, b⟩, ⟨xg, [], false, 1⟩] (a + b + 2 - n) _ xf = _ ∧ back [⟨xf, Z a, true, 0⟩, ⟨xg, Z b, true, 1⟩, ⟨xg, [], true, b⟩, ⟨xg, [], false, 1⟩] (a + b + 2 - n) _ xg = _) ∧
    (_ → back [⟨xf, Z a, true, 0⟩, ⟨xg, Z b, true, 1⟩, ⟨xg, [], true, b⟩, ⟨xg, [], false, 1⟩] (a + b + 2 - n) _ xf = _ ∧ (_ → back [⟨xf, Z a, true, 0⟩, ⟨xg, Z b, true, 1⟩, ⟨xg, [], true, b⟩, ⟨xg, [], false, 1⟩] (a + b + 2 - n) _ xg = _) ∧ (_ → ∃ L, back [⟨xf, Z a, true, 0⟩, ⟨xg, Z b, true, 1⟩, ⟨xg, [], true, b⟩, ⟨xg, [], false, 1⟩] (a + b + 2 - n) _ xg = some L ∧ _))
  generalize ho : a + b + 2 - n = o
  have u1 : ∀ (f : Fs) (x : Option (List UInt8)), upd f xf x xf = x := fun f x => upd_same f xf x
  have u2 : ∀ (f : Fs) (x : Option (List UInt8)), upd f xg x xg = x := fun f x => upd_same f xg x
  have u3 : ∀ (f : Fs) (x : Option (List UInt8)), upd f xg x xf = f xf := fun f x => upd_other f x xfg
  have u4 : ∀ (f : Fs) (x : Option (List UInt8)), upd f xf x xg = f xg := fun f x => upd_other f x xgf
  refine ⟨fun h => ?_, fun h => ?_⟩
  · obtain rfl : o = 0 := by omega
    simp only [back, if_true, u1, u4, u2]
    exact ⟨trivial, trivial⟩
  · simp only [back, give, if_neg (show ¬ o = 0 by omega), if_neg (show ¬ o < 0 by omega), Nat.sub_zero, if_neg (show ¬ o < 1 by omega)]
    by_cases h3 : o - 1 = 0
    · simp only [h3, if_true, u1, u2, u3, u4]
      exact ⟨trivial, fun h => by omega, fun _ => ⟨_, rfl, by rw [Z_len]; omega⟩⟩
    · simp only [if_neg h3]
      by_cases h4 : o - 1 < b
      · simp only [if_pos h4, u1, u2, u3, u4, gd, if_true]
        refine ⟨trivial, fun h => by omega, fun _ => ⟨_, rfl, ?_⟩⟩
        simp only [Option.getD_some, List.length_take, Z_len]
        omega
      · simp only [if_neg h4]
        by_cases h5 : o - 1 - b = 0
        · simp only [h5, if_true, u1, u2, u3, u4]
          exact ⟨trivial, fun h => by omega, fun _ => ⟨_, rfl, by simp; omega⟩⟩
        · simp only [if_neg h5, if_neg (show ¬ o - 1 - b < 1 by omega), if_true, u1, u2, u3, u4]
          exact ⟨trivial, fun _ => (by simp), fun h => by omega⟩
theorem g_wf (a b : Nat) : Wf (G5 a b) := (((wf_new.append xf (Z a)).sync.create xg).append xg (Z b)).rename xg xf
theorem g1_bd (a : Nat) : Bd (G1 a) a := by have := bd_new.append xf (Z a); rw [Z_len, Nat.zero_add] at this; exact this
theorem g3_bd (a : Nat) : Bd (G3 a) a := (g1_bd a).sync.create xg
theorem g4_bd (a b : Nat) : Bd (G4 a b) (a + b) := by have := (g3_bd a).append xg (Z b); rw [Z_len] at this; exact this
theorem g5_bd (a b : Nat) : Bd (G5 a b) (a + b) := (g4_bd a b).rename xg xf
end Go.Proofs.Ytbknbffmpnomlaa
