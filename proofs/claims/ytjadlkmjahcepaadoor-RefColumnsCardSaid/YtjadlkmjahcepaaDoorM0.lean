/- The next column, plainly; bytes of one block. -/
import Derived.Test.YtjadlkmjahcepaaDoorC1
import Derived.Test.YtjadlkmjahcepaaDoorI
import Derived.Laws.IdiomStrings
namespace Go.Proofs.YtjadlkmjahcepaaDoor
open Go.RowKit
set_option linter.unusedVariables false
set_option linter.unusedSimpArgs false

theorem colV_rep (x y : List UInt8) (h : colV y = colV x + 1) (r : Nat) : colV (y ++ List.replicate r 65) = colV (x ++ List.replicate r 90) + 1 := by
  induction r with
  | zero => simpa using h
  | succ r ih =>
    rw [List.replicate_succ', List.replicate_succ', ← List.append_assoc, ← List.append_assoc, colV_snoc, colV_snoc, ih]
    have e1 : (65 : UInt8).toNat = 65 := rfl
    have e2 : (90 : UInt8).toNat = 90 := rfl
    omega
theorem rep_all (r : Nat) : allL (List.replicate r 65) = true := by
  unfold allL
  rw [List.all_eq_true]
  intro c hc
  rw [List.eq_of_mem_replicate hc]
  decide
theorem succ_all (r : Nat) : nmL (colV (List.replicate r 90) + 1) = 65 :: List.replicate r 65 := by
  have h := colV_rep [] [65] (by decide) r
  rw [List.nil_append] at h
  rw [← h]
  refine nm_colV ([65] ++ List.replicate r 65) ?_
  rw [allL_app, rep_all]
  decide
theorem up_nat (c : UInt8) (h : c.toNat ≤ 90) : (UInt8.ofNat (c.toNat + 1)).toNat = c.toNat + 1 := by
  have : (UInt8.ofNat (c.toNat + 1)).toNat = (c.toNat + 1) % 256 := UInt8.toNat_ofNat'
  omega
theorem succ_one (a : List UInt8) (c : UInt8) (r : Nat) (ha : allL (a ++ c :: List.replicate r 90) = true) (hc : c ≠ 90) :
    nmL (colV (a ++ c :: List.replicate r 90) + 1) = a ++ UInt8.ofNat (c.toNat + 1) :: List.replicate r 65 := by
  have e0 : a ++ c :: List.replicate r 90 = (a ++ [c]) ++ List.replicate r 90 := by simp
  rw [e0] at ha ⊢
  rw [allL_app, Bool.and_eq_true, allL_app, Bool.and_eq_true] at ha
  have h1 := allL_mem ha.1.2 (c := c) (by simp)
  have h2 : c.toNat ≠ 90 := fun e => hc (UInt8.toNat_inj.1 e)
  have hu := up_nat c (by omega)
  have h := colV_rep (a ++ [c]) (a ++ [UInt8.ofNat (c.toNat + 1)]) (by rw [colV_snoc, colV_snoc, hu]; omega) r
  rw [← h, nm_colV]
  · simp
  · rw [allL_app, rep_all, allL_app, ha.1.1]
    unfold allL
    simp only [List.all_cons, List.all_nil]
    rw [let_yes (by omega) (by omega)]
    rfl

/-- bytes of one block, that may be written -/
structure SB (W : World) (B : Nat) (m : List UInt8) : Prop where
  cell : ∀ j (h : j < m.length), W.cell? ⟨B, j, none⟩ = some (.int .u8 (m[j].toNat : Int))
  free : ∀ j : Nat, j < m.length → W.frozen? ⟨B, j, none⟩ = false
  big : B < W.heap.size
theorem SB.on {W W' : World} {B : Nat} {m : List UInt8} (h : SB W B m) (q : Q W W') : SB W' B m :=
  ⟨fun j hj => by rw [q.cell h.big]; exact h.cell j hj, fun j hj => by rw [Below.frozen q (p := ⟨B, j, none⟩) h.big]; exact h.free j hj, q.lt h.big⟩
theorem SB.at {W : World} {B : Nat} {a x : List UInt8} {c : UInt8} (h : SB W B (a ++ c :: x)) : W.cell? ⟨B, a.length, none⟩ = some (.int .u8 (c.toNat : Int)) ∧ W.frozen? ⟨B, a.length, none⟩ = false := by
  have hl : a.length < (a ++ c :: x).length := by simp
  have h1 := h.cell a.length hl
  have e : (a ++ c :: x)[a.length] = c := by simp
  rw [e] at h1
  exact ⟨h1, h.free _ hl⟩
theorem SB.put {W : World} {B : Nat} {a x : List UInt8} {c : UInt8} (h : SB W B (a ++ c :: x)) (d : UInt8) : SB (W.setCell ⟨B, a.length, none⟩ (.int .u8 (d.toNat : Int))) B (a ++ d :: x) := by
  have hlen : (a ++ d :: x).length = (a ++ c :: x).length := by simp
  refine ⟨fun j hj => ?_, fun j hj => ?_, by rw [World.size_setCell]; exact h.big⟩
  · by_cases e : j = a.length
    · subst e
      rw [World.cell?_setCell_same _ _ _ h.at.1]
      simp
    · rw [World.cell?_setCell_other _ _ _ _ (by simp [Ne.symm e])]
      have h1 := h.cell j (by omega)
      rw [h1]
      congr 3
      by_cases hlt : j < a.length
      · rw [List.getElem_append_left hlt, List.getElem_append_left hlt]
      · obtain ⟨k, rfl⟩ : ∃ k, j = a.length + (k + 1) := ⟨j - a.length - 1, by omega⟩
        simp
  · rw [World.frozen?_setCell]
    exact h.free j (by omega)
/-- the new block's room, and the world, behind '[]byte(s)' -/
def cp (W : World) (S : ByteArray) : Nat := grownCap W S.size 0 5
def bw (W : World) (S : ByteArray) : World := W.drew.alloc (.cells (bytesRow S (cp W S)) 5 ((bytesRow S (cp W S)).size, (bytesRow S (cp W S)).size + 1))
theorem bw_run (W : World) (S : ByteArray) : (convert 9 37 (.string S)).run Tryd.prog W = .ok (.slice (some ⟨W.heap.size, 0, none⟩) S.size (cp W S)) (bw W S) :=
  run_bytes_of_string W 9 37 5 S Tryd.underlying9 Tryd.underlying37 Tryd.underlying5
theorem cp_ge (W : World) (S : ByteArray) : S.size ≤ cp W S := grownCap_ge W S.size 0 5
theorem bw_q (W : World) (S : ByteArray) : Q W (bw W S) := ((Q.refl W).drew).alloc _
theorem bw_sb (W : World) (S : ByteArray) : SB (bw W S) W.heap.size S.data.toList := by
  have hsz : S.size ≤ (bytesRow S (cp W S)).size := by
    unfold bytesRow
    rw [Array.size_append, Array.size_map]
    exact Nat.le_add_right _ _
  refine ⟨fun j hj => ?_, fun j hj => ?_, ?_⟩
  · have h := World.cell?_alloc_mark W.drew (bytesRow S (cp W S)) 5 ((bytesRow S (cp W S)).size, (bytesRow S (cp W S)).size + 1) j
    have hj' : j < S.data.size := by simpa using hj
    rw [bytesRow_at S (cp W S) j hj'] at h
    exact h
  · have h := World.frozen?_alloc_mark W.drew (bytesRow S (cp W S)) 5 (bytesRow S (cp W S)).size ((bytesRow S (cp W S)).size + 1) j
    rw [len_data] at hj
    rw [decide_eq_false (show ¬ (bytesRow S (cp W S)).size ≤ j by omega)] at h
    exact h
  · show W.heap.size < (W.drew.alloc _).heap.size
    rw [World.size_alloc]
    exact Nat.lt_succ_self _
theorem sb_back {W : World} {B : Nat} {m : List UInt8} (h : SB W B m) (L cap : Nat) (hL : L = m.length) : (convert 37 9 (.slice (some ⟨B, 0, none⟩) L cap)).run Tryd.prog W = .ok (.string ⟨m.toArray⟩) W := by
  subst hL
  exact run_convert_bytes_back (P := Tryd.prog) W 37 9 5 ⟨B, 0, none⟩ cap m Tryd.underlying37 Tryd.underlying5 Tryd.underlying9 (fun j hj => by
    rw [Lib.add_plain, Nat.zero_add]
    exact h.cell j hj)
end Go.Proofs.YtjadlkmjahcepaaDoor
