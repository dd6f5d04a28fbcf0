/- a1.ColName: the letters of a column. -/
import Derived.Test.YtjadlkmjahcepaaDoorB4
import Derived.Test.YtjadlkmjahcepaaDoorC2
namespace Go.Proofs.YtjadlkmjahcepaaDoor
open Go.RowKit
set_option linter.unusedVariables false
set_option linter.unusedSimpArgs false

/-- nine bytes of one block, the last of which are l -/
structure RM (W : World) (B : Nat) (l : List UInt8) : Prop where
  cells : ∀ o : Nat, o < 9 → ∃ v, W.cell? ⟨B, o, none⟩ = some (.int .u8 v)
  tail : ∀ j (h : j < l.length), W.cell? ⟨B, 9 - l.length + j, none⟩ = some (.int .u8 (l[j].toNat : Int))
  free : ∀ o : Nat, o < 9 → W.frozen? ⟨B, o, none⟩ = false
  big : B < W.heap.size
theorem RM.set {W : World} {B k : Nat} {l : List UInt8} (h : RM W B l) (hk : k + l.length = 8) (c : UInt8) : RM (W.setCell ⟨B, k, none⟩ (.int .u8 (c.toNat : Int))) B (c :: l) := by
  refine ⟨fun o ho => ?_, fun j hj => ?_, fun o ho => ?_, ?_⟩
  · by_cases e : o = k
    · subst e
      obtain ⟨v, hv⟩ := h.cells o ho
      exact ⟨_, World.cell?_setCell_same _ _ _ hv⟩
    · rw [World.cell?_setCell_other _ _ _ _ (by simp [Ne.symm e])]
      exact h.cells o ho
  · have e9 : 9 - (c :: l).length = k := by rw [List.length_cons]; omega
    rw [e9]
    match j, hj with
    | 0, _ =>
      obtain ⟨v, hv⟩ := h.cells k (by omega)
      exact World.cell?_setCell_same _ _ _ hv
    | j + 1, hj =>
      rw [World.cell?_setCell_other _ _ _ _ (by simp)]
      have h1 := h.tail j (by simpa using hj)
      rw [show 9 - l.length + j = k + (j + 1) by omega] at h1
      exact h1
  · rw [World.frozen?_setCell]; exact h.free o ho
  · rw [World.size_setCell]; exact h.big
theorem RM.start (w : World) : RM (w.alloc (.cells #[.int .u8 0, .int .u8 0, .int .u8 0, .int .u8 0, .int .u8 0, .int .u8 0, .int .u8 0, .int .u8 0, .int .u8 0] 48)) w.heap.size [] := by
  refine ⟨fun o ho => ⟨0, ?_⟩, fun j hj => absurd hj (by simp), fun o ho => World.frozen?_alloc_new _ _ _ _, by rw [World.size_alloc]; omega⟩
  rw [World.cell?_alloc_new]
  rcases (by omega : o = 0 ∨ o = 1 ∨ o = 2 ∨ o = 3 ∨ o = 4 ∨ o = 5 ∨ o = 6 ∨ o = 7 ∨ o = 8) with rfl | rfl | rfl | rfl | rfl | rfl | rfl | rfl | rfl <;> rfl

set_option maxHeartbeats 1000000 in
theorem name_yes (n : Int) (N : Nat) (w : World) (hN : Hid (n + 1 = (N : Int))) (n0 : 0 ≤ n) (n1 : n < 2199023255552) :
    Calls Tryd.prog 19 #[.int .i64 n] w fun e w' => e = .returned (.string ⟨(nmL N).toArray⟩) ∧ Q w w' := by
  have HM := hid (fun W => may_any n W)
  rw [show decide (0 ≤ n ∧ n < 2199023255552) = true from decide_eq_true ⟨n0, n1⟩] at HM
  have hal : Tryd.prog.arrayLen 48 = 9 := by kernel_rfl
  have HS := hid (RM.start w)
  go_enter Tryd.func19, Tryd.ntmps19
  go_wp2_with (go_at_call 28; refine (HM.out _).mono ?_; rintro e w1 ⟨rfl, rfl⟩)
  go_loopw [0, 4] (fun a b W => ∃ (x : Int) (m k : Nat) (l : List UInt8), a = .int .i64 x ∧ b = .int .i64 (k : Int) ∧ k + l.length = 9 ∧ Hid (x = (m : Int)) ∧ 0 ≤ x ∧ x ≤ 2199023255552 ∧ NI N m l ∧ RM W w1.heap.size l ∧ Q w1 W) (fun a b _ => (intOf a).toNat)
  case atStart => exact ⟨n + 1, N, 9, [], rfl, rfl, rfl, hN, by omega, by omega, List.append_nil _, HS.out, (Q.refl _).alloc _⟩
  case round =>
    obtain ⟨x, m, k, l, rfl, rfl, hk, hx, x0, x1, di, hr, hq⟩ := hrel
    have hl20 := di.len (by have := hN.out; omega)
    have HD := hid di
    have HR := hid hr
    have HQ := hid hq
    clear di hr hq
    by_cases hp : 0 < x
    · obtain ⟨p, rfl⟩ : ∃ p, m = p + 1 := ⟨m - 1, by have := hx.out; omega⟩
      have hne : 0 < (nmL (p + 1)).length := List.length_pos_iff.2 (nm_ne _ (by omega))
      obtain ⟨k, rfl⟩ : ∃ k', k = k' + 1 := ⟨k - 1, by omega⟩
      have HN := hid (HD.out.next)
      have hc : ((UInt8.ofNat (65 + p % 26)).toNat : Int) = 65 + (x - 1) % 26 := by rw [nm_nat p, hx.out]; omega
      obtain ⟨c, ec⟩ : ∃ c, c = UInt8.ofNat (65 + p % 26) := ⟨_, rfl⟩
      rw [← ec] at HN hc
      have hx' : Hid ((x - 1) / 26 = ((p / 26 : Nat) : Int)) := by show _ = _; rw [hx.out]; omega
      obtain ⟨v, hv⟩ := HR.out.cells k (by omega)
      have hf := HR.out.free k (by omega)
      have hbg := HR.out.big
      have HW := hid (HR.out.set (k := k) (by omega) c)
      rw [hc] at HW
      clear ec hc HD
      go_wp2
      go_roundw
      case rel => exact ⟨(x - 1) / 26, p / 26, k, c :: l, rfl, rfl, by rw [List.length_cons]; omega, hx', by omega, by omega, HN.out, HW.out, HQ.out.setCell (Nat.le_refl _) _⟩
      case measure =>
        simp only [intOf]
        omega
    · have hm0 : m = 0 := by have := hx.out; omega
      subst hm0
      have HF : Hid (l = nmL N) := by have := HD.out; unfold NI at this; rw [nmL] at this; exact this
      have hlp : 0 < l.length := by rw [HF.out]; exact List.length_pos_iff.2 (nm_ne _ (by have := hN.out; omega))
      have hsl : ∀ W, (Instr.sliceAt 48 (.pointer (some ⟨w1.heap.size, 0, none⟩)) (some (.int .i64 (k : Int))) none none).run Tryd.prog W = .ok (.slice (some ⟨w1.heap.size, k, none⟩) l.length l.length) W := fun W => by
        rw [run_sliceAt_array_l W 48 ⟨w1.heap.size, 0, none⟩ (by kernel_rfl) .i64 (k : Int) (by omega) (by rw [hal]; omega)]
        go_simp
        omega
      have hcv : (convert 37 9 (.slice (some ⟨w1.heap.size, k, none⟩) l.length l.length)).run Tryd.prog wr = .ok (.string ⟨l.toArray⟩) wr :=
        run_convert_bytes_back (P := Tryd.prog) wr 37 9 5 ⟨w1.heap.size, k, none⟩ l.length l Tryd.underlying37 Tryd.underlying5 Tryd.underlying9 (fun j hj => by
          have h1 := HR.out.tail j hj
          rw [show 9 - l.length + j = k + j by omega] at h1
          rw [Lib.add_plain]
          exact h1)
      clear HD
      go_wp2
      go_ret
      exact ⟨ret_str (by rw [HF.out]), HQ.out⟩
theorem name_any (n : Int) (w : World) :
    Calls Tryd.prog 19 #[.int .i64 n] w fun e w' => e = .returned (.string ⟨(cnL n).toArray⟩) ∧ Q w w' := by
  by_cases h : 0 ≤ n ∧ n < 2199023255552
  · unfold cnL
    rw [if_pos h]
    exact name_yes n _ w (by show _ = _; omega) h.1 h.2
  · have HC : Hid (cnL n = []) := by show _ = _; unfold cnL; rw [if_neg h]
    have HM := hid (fun W => may_any n W)
    rw [show decide (0 ≤ n ∧ n < 2199023255552) = false from decide_eq_false h] at HM
    clear h
    go_enter Tryd.func19, Tryd.ntmps19
    go_wp2_with (go_at_call 28; refine (HM.out _).mono ?_; rintro e w1 ⟨rfl, rfl⟩)
    go_ret
    exact ⟨ret_str (by rw [HC.out]), Q.refl _⟩
end Go.Proofs.YtjadlkmjahcepaaDoor
