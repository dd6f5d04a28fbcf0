/- The reference: is a cell in one of some rectangles? In worlds that only grow. -/
import Derived.Test.YtkbpdgghnlnakaaK
import Derived.Test.YtkbpdgghnlnakaaC
import Derived.Shelf.SlSortCmp.QuietGrown
import Derived.Maps.AppendAt
import Derived.Deep.RegionHeld3
import Derived.Deep.DrawnRows
namespace Go.Proofs.Ytkbpdgghnlnakaa
open Go.RowKit Go.Sort
set_option linter.unusedVariables false
set_option linter.unusedSimpArgs false

theorem q_grow (w : World) (os : Array Obj) : Q w (grow w os) := by
  refine ⟨rfl, rfl, rfl, by simp, fun k hk => ?_⟩
  exact heap_grow_old _ _ hk
theorem q_grown (w : World) (n : Nat) (os : Array Obj) : Q w (grow (w.drewN n) os) := ((Q.refl w).drewN n).trans (q_grow _ _)

set_option maxRecDepth 100000 in
set_option maxHeartbeats 2000000 in
theorem in_grown (v : Value) (L : List Rg.Rc) (row col : Int) (w : World) (h : Sl rc 4 w v L) : Calls Try.prog 28 #[v, .int .i64 row, .int .i64 col] w fun e w' => e = .returned (.bool (Rg.has L row col)) ∧ ∃ q os, w' = grow (w.drewN q) os := by
  have HS := hid h
  obtain ⟨ao', cap', rfl, k1, k2⟩ := h.len
  clear h
  have k3 : L.length ≤ 9223372036854775807 := Nat.le_trans k1 (by unfold maxLen at k2; omega)
  go_enter Try.func28, Try.ntmps28
  go_wp2
  go_loopw [7] (fun s W => ∃ (n : Nat), n ≤ L.length ∧ s = .int .i64 n ∧ Hid (∃ os, W = grow w os) ∧ Hid (Rg.has (L.take n) row col = false)) (fun s _ => L.length - (intOf s).toNat)
  case atStart => exact ⟨0, Nat.zero_le _, rfl, ⟨#[], (grow_empty _).symm⟩, rfl⟩
  case round =>
    obtain ⟨n, hn, rfl, hq, HZ⟩ := hrel
    obtain ⟨os, hw⟩ := hq.out
    have HW := hid hw
    have HQ : Hid (Q w wr) := by rw [hw]; exact q_grow _ _
    clear hq hw
    by_cases hlt : n < L.length
    · have hlt' : (n : Int) < (L.length : Int) := by omega
      obtain ⟨g, off, cap2, e, _, _, hc⟩ := (HS.out.on HQ.out).at hlt
      cases e
      have HF := hid (has_take_succ hlt row col)
      generalize L[n] = x at *
      obtain ⟨xa, xb, xc, xd⟩ := x
      have c0 : wr.cell? ⟨g, off + n * 4, none⟩ = some (.int .i64 xa) := hc 0 _ rfl
      have c1 : wr.cell? ⟨g, off + n * 4 + 1, none⟩ = some (.int .i64 xb) := hc 1 _ rfl
      have c2 : wr.cell? ⟨g, off + n * 4 + 2, none⟩ = some (.int .i64 xc) := hc 2 _ rfl
      have c3 : wr.cell? ⟨g, off + n * 4 + 3, none⟩ = some (.int .i64 xd) := hc 3 _ rfl
      clear hc
      by_cases a1 : xa ≤ row
      · by_cases a2 : row < xc
        · by_cases a3 : xb ≤ col
          · by_cases a4 : col < xd
            · have HR : Hid (true = Rg.has L row col) := by
                show _ = _
                rw [has_of_take (n := n + 1) (by rw [HF.out, inR_of a1 a2 a3 a4]; simp)]
              clear HF HZ
              go_wp2
              go_ret
              exact ⟨ret_bool HR.out, 0, _, by rw [HW.out, alloc_eq_grow, grow_grow]; rfl⟩
            · have HZ2 : Hid (Rg.has (L.take (n + 1)) row col = false) := by
                show _ = _
                rw [HF.out, HZ.out, inR_no (by omega)]
                rfl
              clear HF HZ
              go_wp2
              go_roundw
              case rel => exact ⟨n + 1, by omega, by go_num, ⟨_, by rw [HW.out, alloc_eq_grow, grow_grow]⟩, HZ2⟩
              case measure => simp [intOf]; omega
          · have HZ2 : Hid (Rg.has (L.take (n + 1)) row col = false) := by
              show _ = _
              rw [HF.out, HZ.out, inR_no (by omega)]
              rfl
            clear HF HZ
            go_wp2
            go_roundw
            case rel => exact ⟨n + 1, by omega, by go_num, ⟨_, by rw [HW.out, alloc_eq_grow, grow_grow]⟩, HZ2⟩
            case measure => simp [intOf]; omega
        · have HZ2 : Hid (Rg.has (L.take (n + 1)) row col = false) := by
            show _ = _
            rw [HF.out, HZ.out, inR_no (by omega)]
            rfl
          clear HF HZ
          go_wp2
          go_roundw
          case rel => exact ⟨n + 1, by omega, by go_num, ⟨_, by rw [HW.out, alloc_eq_grow, grow_grow]⟩, HZ2⟩
          case measure => simp [intOf]; omega
      · have HZ2 : Hid (Rg.has (L.take (n + 1)) row col = false) := by
          show _ = _
          rw [HF.out, HZ.out, inR_no (by omega)]
          rfl
        clear HF HZ
        go_wp2
        go_roundw
        case rel => exact ⟨n + 1, by omega, by go_num, ⟨_, by rw [HW.out, alloc_eq_grow, grow_grow]⟩, HZ2⟩
        case measure => simp [intOf]; omega
    · have hlt' : ¬ (n : Int) < (L.length : Int) := by omega
      have HR : Hid (false = Rg.has L row col) := by
        show _ = _
        rw [← HZ.out, List.take_of_length_le (by omega)]
      clear HZ
      go_wp2
      go_ret
      exact ⟨ret_bool HR.out, 0, os, HW.out⟩

/-- the ranges that are made, and what is still to come -/
def SI (f : Int → Bool) (S : List Rg.Sp) (g : Int) (l : List Int) (T : List Rg.Sp) : Prop := (S = [] ∧ Rg.sc0 f g l = T) ∨ ∃ D c, S = D ++ [c] ∧ D ++ Rg.sc f c g l = T
theorem si_skip {f : Int → Bool} {S T : List Rg.Sp} {g h : Int} {l : List Int} (hs : SI f S g (h :: l) T) (hf : f g = false) : SI f S h l T := by
  rcases hs with ⟨h1, h2⟩ | ⟨D, c, h1, h2⟩
  · rw [Rg.sc0, hf] at h2; exact .inl ⟨h1, by simpa using h2⟩
  · rw [Rg.sc, hf] at h2; exact .inr ⟨D, c, h1, by simpa using h2⟩
theorem si_first {f : Int → Bool} {T : List Rg.Sp} {g h : Int} {l : List Int} (hs : Rg.sc0 f g (h :: l) = T) (hf : f g = true) : SI f ([] ++ [⟨g, h⟩]) h l T := by
  rw [Rg.sc0, hf] at hs
  exact .inr ⟨[], _, rfl, by simpa using hs⟩
theorem si_on {f : Int → Bool} {D T : List Rg.Sp} {c : Rg.Sp} {g h : Int} {l : List Int} (hs : D ++ Rg.sc f c g (h :: l) = T) (hf : f g = true) (ht : c.t = g) : SI f (D ++ [⟨c.f, h⟩]) h l T := by
  rw [Rg.sc, hf] at hs
  simp only [if_true] at hs
  rw [if_pos ht] at hs
  exact .inr ⟨D, _, rfl, hs⟩
theorem si_new {f : Int → Bool} {D T : List Rg.Sp} {c : Rg.Sp} {g h : Int} {l : List Int} (hs : D ++ Rg.sc f c g (h :: l) = T) (hf : f g = true) (ht : ¬ c.t = g) : SI f ((D ++ [c]) ++ [⟨g, h⟩]) h l T := by
  rw [Rg.sc, hf] at hs
  simp only [if_true] at hs
  rw [if_neg ht] at hs
  exact .inr ⟨D ++ [c], _, rfl, by simpa using hs⟩
theorem si_end {f : Int → Bool} {S T : List Rg.Sp} {g : Int} (hs : SI f S g [] T) : S = T := by
  rcases hs with ⟨h1, h2⟩ | ⟨D, c, h1, h2⟩
  · rw [h1, ← h2]; rfl
  · rw [h1, ← h2]; rfl
theorem rows_append (f t : Int) (S S' : List Rg.Sp) : Rg.rows ⟨f, t, S ++ S'⟩ = Rg.rows ⟨f, t, S⟩ ++ Rg.rows ⟨f, t, S'⟩ := by unfold Rg.rows; simp
theorem rows_one (f t : Int) (s : Rg.Sp) : Rg.rows ⟨f, t, [s]⟩ = [⟨f, s.f, t, s.t⟩] := rfl
theorem sc_len (f : Int → Bool) : ∀ (l : List Int) (c : Rg.Sp) (g : Int), (Rg.sc f c g l).length ≤ l.length + 1
  | [], c, g => by simp [Rg.sc]
  | h :: l, c, g => by
    rw [Rg.sc]
    split
    · split
      · have := sc_len f l ⟨c.f, h⟩ h; simp only [List.length_cons]; omega
      · have := sc_len f l ⟨g, h⟩ h; simp only [List.length_cons]; omega
    · have := sc_len f l c h; simp only [List.length_cons]; omega
theorem sc0_len (f : Int → Bool) : ∀ (l : List Int) (g : Int), (Rg.sc0 f g l).length ≤ l.length
  | [], g => by simp [Rg.sc0]
  | h :: l, g => by
    rw [Rg.sc0]
    split
    · exact sc_len f l _ _
    · have := sc0_len f l h; simp only [List.length_cons]; omega
end Go.Proofs.Ytkbpdgghnlnakaa
