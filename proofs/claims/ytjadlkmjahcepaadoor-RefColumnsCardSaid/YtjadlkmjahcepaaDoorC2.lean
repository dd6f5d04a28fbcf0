/- counterpaneref5.ColName: the letters of a column. -/
import Derived.Test.YtjadlkmjahcepaaDoorQ
namespace Go.Proofs.YtjadlkmjahcepaaDoor
open Go.RowKit
set_option linter.unusedVariables false
set_option linter.unusedSimpArgs false

theorem nm_nat (m : Nat) : ((UInt8.ofNat (65 + m % 26)).toNat : Int) = 65 + (m : Int) % 26 := by
  rw [nm_byte]
  omega
/-- what the loop has so far -/
def NI (N m : Nat) (l : List UInt8) : Prop := nmL m ++ l = nmL N
theorem NI.next {N m : Nat} {l : List UInt8} (h : NI N (m + 1) l) : NI N (m / 26) (UInt8.ofNat (65 + m % 26) :: l) := by
  unfold NI at *
  rw [nm_succ] at h
  rw [← h]
  simp
theorem NI.len {N m : Nat} {l : List UInt8} (h : NI N m l) (hN : N ≤ 2199023255552) : (nmL m).length + l.length ≤ 9 := by
  have h1 := nm_nine N hN
  rw [← h, List.length_append] at h1
  exact h1

set_option maxHeartbeats 1000000 in
theorem rname_yes (n : Int) (N : Nat) (w : World) (hN : Hid (n + 1 = (N : Int))) (n0 : 0 ≤ n) (n1 : n < 2199023255552) :
    Calls Tryd.prog 20 #[.int .i64 n] w fun e w' => e = .returned (.string ⟨(nmL N).toArray⟩) ∧ Q w w' := by
  go_enter Tryd.func20, Tryd.ntmps20
  go_wp2
  go_loopw [0, 3] (fun a b W => ∃ (x : Int) (m : Nat) (l : List UInt8), a = .int .i64 x ∧ b = .string ⟨l.toArray⟩ ∧ Hid (x = (m : Int)) ∧ 0 ≤ x ∧ x ≤ 2199023255552 ∧ NI N m l ∧ Q w W) (fun a b _ => (intOf a).toNat)
  case atStart => exact ⟨n + 1, N, [], rfl, rfl, hN, by omega, by omega, List.append_nil _, Q.refl _⟩
  case round =>
    obtain ⟨x, m, l, rfl, rfl, hx, x0, x1, di, hq⟩ := hrel
    have hl20 := di.len (by have := hN.out; omega)
    have HD := hid di
    clear di
    by_cases hp : 0 < x
    · obtain ⟨k, rfl⟩ : ∃ k, m = k + 1 := ⟨m - 1, by have := hx.out; omega⟩
      have HN := hid (HD.out.next)
      have hc : ((UInt8.ofNat (65 + k % 26)).toNat : Int) = 65 + (x - 1) % 26 := by rw [nm_nat k, hx.out]; omega
      obtain ⟨c, ec⟩ : ∃ c, c = UInt8.ofNat (65 + k % 26) := ⟨_, rfl⟩
      rw [← ec] at HN hc
      have hcv : (convert 37 9 (.slice (some ⟨wr.heap.size, 0, none⟩) 1 1)).run Tryd.prog (wr.alloc (.cells #[.int .u8 (65 + (x - 1) % 26)] 5)) = .ok (.string ⟨#[c]⟩) (wr.alloc (.cells #[.int .u8 (65 + (x - 1) % 26)] 5)) := by
        have h := run_convert_bytes_back (P := Tryd.prog) (wr.alloc (.cells #[.int .u8 (65 + (x - 1) % 26)] 5)) 37 9 5 ⟨wr.heap.size, 0, none⟩ 1 [c] Tryd.underlying37 Tryd.underlying5 Tryd.underlying9 (fun j hj => by
          have hj0 : j = 0 := by simpa using hj
          subst hj0
          rw [Lib.add_plain, World.cell?_alloc_new]
          simp [hc])
        exact h
      have hx' : Hid ((x - 1) / 26 = ((k / 26 : Nat) : Int)) := by show _ = _; rw [hx.out]; omega
      clear ec hc HD
      go_wp2
      go_roundw
      case rel => exact ⟨(x - 1) / 26, k / 26, c :: l, rfl, congrArg Value.string (bytes_cat [c] l), hx', by omega, by omega, HN.out, hq.alloc _⟩
      case measure =>
        simp only [intOf]
        omega
    · have hm0 : m = 0 := by have := hx.out; omega
      subst hm0
      have HF : Hid (l = nmL N) := by have := HD.out; unfold NI at this; rw [nmL] at this; exact this
      clear HD
      go_wp2
      go_ret
      exact ⟨ret_str (by rw [HF.out]), hq⟩
/-- the name of a column; none: empty -/
def cnL (n : Int) : List UInt8 := if 0 ≤ n ∧ n < 2199023255552 then nmL (n + 1).toNat else []
theorem rname_any (n : Int) (w : World) :
    Calls Tryd.prog 20 #[.int .i64 n] w fun e w' => e = .returned (.string ⟨(cnL n).toArray⟩) ∧ Q w w' := by
  by_cases h : 0 ≤ n ∧ n < 2199023255552
  · unfold cnL
    rw [if_pos h]
    exact rname_yes n _ w (by show _ = _; omega) h.1 h.2
  · have HC : Hid (cnL n = []) := by show _ = _; unfold cnL; rw [if_neg h]
    by_cases h0 : n < 0
    · clear h
      go_enter Tryd.func20, Tryd.ntmps20
      go_wp2
      go_ret
      exact ⟨ret_str (by rw [HC.out]), Q.refl _⟩
    · have h1 : 2199023255552 ≤ n := by omega
      clear h
      go_enter Tryd.func20, Tryd.ntmps20
      go_wp2
      go_ret
      exact ⟨ret_str (by rw [HC.out]), Q.refl _⟩
end Go.Proofs.YtjadlkmjahcepaaDoor
