/- Files and what was done to them, plainly. -/
import Derived.Test.YtbknbffmpnomlaaDd
namespace Go.Proofs.Ytbknbffmpnomlaa
open Go.RowKit
set_option linter.unusedVariables false
set_option linter.unusedSimpArgs false

abbrev Fs := ByteArray → Option (List UInt8)
/-- how a file was, ahead of what was done to it, and the units that this took -/
structure Pm where
  x : ByteArray
  L : List UInt8
  t : Bool
  k : Nat
structure Pd where
  f : Fs
  ms : List Pm
  u : Nat
  s : Nat
def gd (f : Fs) (x : ByteArray) : List UInt8 := (f x).getD []
def pm (f : Fs) (x : ByteArray) (k : Nat) : Pm := ⟨x, gd f x, (f x).isSome, k⟩
def Pd.note (P : Pd) (x : ByteArray) (k : Nat) : Pd := ⟨P.f, P.ms ++ [pm P.f x k], P.u + k, P.s⟩
def Pd.put (P : Pd) (x : ByteArray) (L : List UInt8) : Pd := ⟨upd P.f x (some L), P.ms, P.u, P.s⟩
def Pd.del (P : Pd) (x : ByteArray) : Pd := ⟨upd P.f x none, P.ms, P.u, P.s⟩
def Pd.append (P : Pd) (x : ByteArray) (B : List UInt8) : Pd := if B.length = 0 then P else (P.note x B.length).put x (gd P.f x ++ B)
def Pd.create (P : Pd) (x : ByteArray) : Pd := (P.note x 1).put x []
def Pd.rename (P : Pd) (x y : ByteArray) : Pd := if (P.f x).isSome then ((((P.note x 1).note y 0)).del x).put y (gd P.f x) else P.note x 1
def Pd.remove (P : Pd) (x : ByteArray) : Pd := (P.note x 1).del x
def Pd.sync (P : Pd) : Pd := ⟨P.f, [], P.u, P.u⟩
/-- what a mark gives back -/
def give (m : Pm) (f : Fs) : Fs := upd f m.x (if m.t then some m.L else none)
/-- from the last one back -/
def back : List Pm → Nat → Fs → Fs
  | [], _, f => f
  | m :: r, o, f => if o = 0 then f else if o < m.k then upd f m.x (some ((gd f m.x).take ((gd f m.x).length - o))) else back r (o - m.k) (give m f)
def Pd.at (P : Pd) (n : Nat) : Fs := back P.ms.reverse (P.u - n) P.f
def Pd.near (P : Pd) (n : Int) : Nat := (min (max n (P.s : Int)) (P.u : Int)).toNat
def Pd.cut (P : Pd) (n : Int) : Pd := ⟨P.at (P.near n), [], P.near n, P.near n⟩
def Pd.new : Pd := ⟨fun _ => none, [], 0, 0⟩
theorem give_pm (f g : Fs) (x : ByteArray) (k : Nat) (h : ∀ y, y ≠ x → g y = f y) : give (pm f x k) g = f := by
  funext y
  unfold give pm upd
  by_cases e : y = x
  · subst e
    simp only [if_pos rfl]
    cases hf : f y <;> simp [gd, hf]
  · simp only [if_neg e]
    exact h y e
/-- each of more than one unit left a file that long -/
def Wb : List Pm → Fs → Prop
  | [], _ => True
  | m :: r, f => (1 < m.k → m.k ≤ (gd f m.x).length) ∧ Wb r (give m f)
def units (ms : List Pm) : Nat := (ms.map (·.k)).sum
theorem units_snoc (ms : List Pm) (m : Pm) : units (ms ++ [m]) = units ms + m.k := by simp [units]
structure Wf (P : Pd) : Prop where
  b : Wb P.ms.reverse P.f
  u : P.s + units P.ms = P.u
theorem wf_new : Wf Pd.new := ⟨trivial, rfl⟩
theorem Wf.note_put {P : Pd} (h : Wf P) (x : ByteArray) (k : Nat) (L : Option (List UInt8)) (hk : 1 < k → k ≤ (L.getD []).length) : Wf ⟨upd P.f x L, P.ms ++ [pm P.f x k], P.u + k, P.s⟩ := by
  refine ⟨?_, ?_⟩
  · show Wb (P.ms ++ [pm P.f x k]).reverse (upd P.f x L)
    rw [List.reverse_append]
    refine ⟨fun h1 => ?_, ?_⟩
    · have e : gd (upd P.f x L) x = L.getD [] := by unfold gd; rw [upd_same]
      show k ≤ (gd (upd P.f x L) x).length
      rw [e]
      exact hk h1
    · show Wb P.ms.reverse (give (pm P.f x k) (upd P.f x L))
      rw [give_pm P.f _ x k (fun y hy => upd_other _ _ hy)]
      exact h.b
  · show P.s + units (P.ms ++ [pm P.f x k]) = P.u + k
    rw [units_snoc]
    have := h.u
    show P.s + (units P.ms + k) = P.u + k
    omega
theorem upd_self {α : Type} (f : ByteArray → Option α) (x : ByteArray) : upd f x (f x) = f := by
  funext y
  unfold upd
  split
  · rename_i h; rw [h]
  · rfl
theorem Wf.note {P : Pd} (h : Wf P) (x : ByteArray) (k : Nat) (hk : k ≤ 1) : Wf (P.note x k) := by
  have := h.note_put x k (P.f x) (fun h => by omega)
  rw [upd_self] at this
  exact this
theorem Wf.append {P : Pd} (h : Wf P) (x : ByteArray) (B : List UInt8) : Wf (P.append x B) := by
  unfold Pd.append
  split
  · exact h
  · exact h.note_put x B.length (some (gd P.f x ++ B)) (fun _ => by simp)
theorem Wf.create {P : Pd} (h : Wf P) (x : ByteArray) : Wf (P.create x) := h.note_put x 1 (some []) (fun h => by omega)
theorem Wf.remove {P : Pd} (h : Wf P) (x : ByteArray) : Wf (P.remove x) := h.note_put x 1 none (fun h => by omega)
theorem Wf.sync {P : Pd} (h : Wf P) : Wf P.sync := ⟨trivial, rfl⟩
theorem Wf.cut {P : Pd} (h : Wf P) (n : Int) : Wf (P.cut n) := ⟨trivial, rfl⟩
theorem Wf.rename {P : Pd} (h : Wf P) (x y : ByteArray) : Wf (P.rename x y) := by
  unfold Pd.rename
  split
  · rename_i hs
    obtain ⟨L, hL⟩ := Option.isSome_iff_exists.1 hs
    have h1 := h.note_put x 1 none (fun h => by omega)
    have h2 := h1.note_put y 0 (some (gd P.f x)) (fun h => by omega)
    refine ⟨?_, ?_⟩
    · show Wb (P.ms ++ [pm P.f x 1] ++ [pm P.f y 0]).reverse (upd (upd P.f x none) y (some (gd P.f x)))
      rw [List.reverse_append]
      refine ⟨fun h1 => by simp [pm] at h1, ?_⟩
      show Wb (P.ms ++ [pm P.f x 1]).reverse (give (pm P.f y 0) (upd (upd P.f x none) y (some (gd P.f x))))
      have e : give (pm P.f x 1) (give (pm P.f y 0) (upd (upd P.f x none) y (some (gd P.f x)))) = P.f := by
        refine give_pm P.f _ x 1 (fun z hz => ?_)
        by_cases e : z = y
        · subst e
          unfold give pm
          rw [upd_same]
          cases hf : P.f z <;> simp [gd, hf]
        · unfold give pm
          rw [upd_other _ _ e, upd_other _ _ e, upd_other _ _ hz]
      rw [List.reverse_append]
      refine ⟨fun h1 => by simp [pm] at h1, ?_⟩
      show Wb P.ms.reverse (give (pm P.f x 1) (give (pm P.f y 0) (upd (upd P.f x none) y (some (gd P.f x)))))
      rw [e]
      exact h.b
    · show P.s + units (P.ms ++ [pm P.f x 1] ++ [pm P.f y 0]) = P.u + 1 + 0
      rw [units_snoc, units_snoc]
      have := h.u
      show P.s + (units P.ms + 1 + 0) = P.u + 1 + 0
      omega
  · exact h.note x 1 (Nat.le_refl _)
end Go.Proofs.Ytbknbffmpnomlaa
