/- How long files may be, plainly. -/
import Derived.Test.YtbknbffmpnomlaaDe
namespace Go.Proofs.Ytbknbffmpnomlaa
open Go.RowKit
set_option linter.unusedVariables false
set_option linter.unusedSimpArgs false

/-- no file, and no mark's, is longer -/
structure Bd (P : Pd) (K : Nat) : Prop where
  f : ∀ x, (gd P.f x).length ≤ K
  m : ∀ m ∈ P.ms, m.L.length ≤ K
theorem bd_new : Bd Pd.new 0 := ⟨fun x => Nat.le_refl _, fun m h => by cases h⟩
theorem Bd.mono {P : Pd} {K K' : Nat} (h : Bd P K) (hk : K ≤ K') : Bd P K' := ⟨fun x => Nat.le_trans (h.f x) hk, fun m hm => Nat.le_trans (h.m m hm) hk⟩
theorem gd_upd {f : Fs} {x : ByteArray} {o : Option (List UInt8)} {K : Nat} (h : ∀ x, (gd f x).length ≤ K) (ho : (o.getD []).length ≤ K) : ∀ y, (gd (upd f x o) y).length ≤ K := fun y => by
  unfold gd
  by_cases e : y = x
  · subst e
    rw [upd_same]
    exact ho
  · rw [upd_other _ _ e]
    exact h y
theorem Bd.note {P : Pd} {K : Nat} (h : Bd P K) (x : ByteArray) (k : Nat) : Bd (P.note x k) K := ⟨h.f, fun m hm => by
  rcases List.mem_append.1 hm with hm | hm
  · exact h.m m hm
  · obtain rfl : m = pm P.f x k := by simpa using hm
    exact h.f x⟩
theorem Bd.append {P : Pd} {K : Nat} (h : Bd P K) (x : ByteArray) (B : List UInt8) : Bd (P.append x B) (K + B.length) := by
  unfold Pd.append
  split
  · exact h.mono (by omega)
  · have h1 := (h.note x B.length).mono (Nat.le_add_right K B.length)
    exact ⟨gd_upd h1.f (by have := h.f x; simp; omega), h1.m⟩
theorem Bd.create {P : Pd} {K : Nat} (h : Bd P K) (x : ByteArray) : Bd (P.create x) K := ⟨gd_upd h.f (by simp), (h.note x 1).m⟩
theorem Bd.remove {P : Pd} {K : Nat} (h : Bd P K) (x : ByteArray) : Bd (P.remove x) K := ⟨gd_upd h.f (by simp), (h.note x 1).m⟩
theorem Bd.sync {P : Pd} {K : Nat} (h : Bd P K) : Bd P.sync K := ⟨h.f, fun m hm => by cases hm⟩
theorem Bd.rename {P : Pd} {K : Nat} (h : Bd P K) (x y : ByteArray) : Bd (P.rename x y) K := by
  unfold Pd.rename
  split
  · exact ⟨gd_upd (gd_upd h.f (by simp)) (h.f x), ((h.note x 1).note y 0).m⟩
  · exact h.note x 1
theorem back_bd {K : Nat} : ∀ (ms : List Pm) (o : Nat) (f : Fs), (∀ x, (gd f x).length ≤ K) → (∀ m ∈ ms, m.L.length ≤ K) → ∀ x, (gd (back ms o f) x).length ≤ K
  | [], o, f, h, _ => h
  | m :: r, o, f, h, hm => by
    unfold back
    split
    · exact h
    · split
      · exact gd_upd h (by have := h m.x; simp; omega)
      · refine back_bd r _ _ (gd_upd h ?_) (fun m' h' => hm m' (List.mem_cons_of_mem _ h'))
        split
        · exact hm m (List.mem_cons_self ..)
        · exact Nat.zero_le _
theorem Bd.cut {P : Pd} {K : Nat} (h : Bd P K) (n : Int) : Bd (P.cut n) K := ⟨back_bd _ _ _ h.f (fun m hm => h.m m (List.mem_reverse.1 hm)), fun m hm => by cases hm⟩
/-- .. nor are there more marks, more units -/
theorem ms_append (P : Pd) (x : ByteArray) (B : List UInt8) : (P.append x B).ms.length ≤ P.ms.length + 1 ∧ (P.append x B).u = P.u + B.length := by
  unfold Pd.append
  split
  · exact ⟨by omega, by omega⟩
  · exact ⟨by simp [Pd.put, Pd.note], rfl⟩
theorem ms_create (P : Pd) (x : ByteArray) : (P.create x).ms.length = P.ms.length + 1 ∧ (P.create x).u = P.u + 1 := ⟨by simp [Pd.create, Pd.put, Pd.note], rfl⟩
theorem ms_remove (P : Pd) (x : ByteArray) : (P.remove x).ms.length = P.ms.length + 1 ∧ (P.remove x).u = P.u + 1 := ⟨by simp [Pd.remove, Pd.del, Pd.note], rfl⟩
theorem ms_rename (P : Pd) (x y : ByteArray) : (P.rename x y).ms.length ≤ P.ms.length + 2 ∧ (P.rename x y).u = P.u + 1 := by
  unfold Pd.rename
  split
  · exact ⟨by simp [Pd.put, Pd.del, Pd.note], rfl⟩
  · exact ⟨by simp [Pd.note], rfl⟩
theorem ms_cut (P : Pd) (n : Int) : (P.cut n).ms.length = 0 ∧ (P.cut n).u = P.near n := ⟨rfl, rfl⟩
theorem near_le (P : Pd) (n : Int) : P.near n ≤ P.u := by unfold Pd.near; omega
/-- what begun does -/
def xa : ByteArray := ⟨#[97]⟩
def xb : ByteArray := ⟨#[98]⟩
def xyz : List UInt8 := [120, 121, 122]
def P1 : Pd := Pd.new.append xa xyz
def P2 : Pd := P1.rename xa xb
def P3 : Pd := P2.cut 2
theorem p1_ms : P1.ms.length = 1 ∧ P1.u = 3 := ⟨by kernel_rfl, by kernel_rfl⟩
theorem p2_ms : P2.ms.length = 3 ∧ P2.u = 4 := ⟨by kernel_rfl, by kernel_rfl⟩
theorem p2_b : P2.f xb = some xyz := by kernel_rfl
theorem p3_a : P3.f xa = some [120, 121] := by kernel_rfl
theorem p3_u : P3.u = 2 := by kernel_rfl
theorem p1_bd : Bd P1 3 := bd_new.append xa xyz
theorem p2_bd : Bd P2 3 := p1_bd.rename xa xb
theorem p3_bd : Bd P3 3 := p2_bd.cut 2
theorem p2_wf : Wf P2 := (wf_new.append xa xyz).rename xa xb
end Go.Proofs.Ytbknbffmpnomlaa
