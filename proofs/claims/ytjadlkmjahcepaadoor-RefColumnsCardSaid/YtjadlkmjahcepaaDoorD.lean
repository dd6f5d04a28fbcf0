/- counterpaneref1.dec, Dec: the decimal numeral. -/
import Derived.Test.YtjadlkmjahcepaaDoorQ
namespace Go.Proofs.YtjadlkmjahcepaaDoor
open Go.RowKit
set_option linter.unusedVariables false
set_option linter.unusedSimpArgs false

/-- what the loop of dec has so far -/
def DI (N m : Nat) (l : List UInt8) : Prop := (l = [] ∧ m = N) ∨ (l ≠ [] ∧ (if m = 0 then l else Lib.decDigits m ++ l) = Lib.decDigits N)

theorem dec_small {m : Nat} (h : m < 10) : Lib.decDigits m = [UInt8.ofNat (48 + m % 10)] := by
  rw [Lib.decDigits_one h, Nat.mod_eq_of_lt h]
theorem dec_big {m : Nat} (h : ¬ m < 10) : Lib.decDigits m = Lib.decDigits (m / 10) ++ [UInt8.ofNat (48 + m % 10)] := by
  rw [Lib.decDigits, dif_neg h]
theorem nDigits_le (N : Nat) (h : N < 18446744073709551616) : Lib.nDigits N ≤ 20 := by
  rcases Nat.eq_zero_or_pos N with h0 | h0
  · subst h0
    have h1 := congrArg List.length (dec_small (m := 0) (by omega))
    rw [Lib.decDigits_length] at h1
    have h2 : ([UInt8.ofNat (48 + 0 % 10)] : List UInt8).length = 1 := rfl
    omega
  · have := Lib.numDigits_eq N h0 h
    split at this <;> omega

theorem DI.next {N m : Nat} {l : List UInt8} (h : DI N m l) (hg : 0 < m ∨ l = []) : DI N (m / 10) (UInt8.ofNat (48 + m % 10) :: l) := by
  refine .inr ⟨by simp, ?_⟩
  have e : Lib.decDigits m ++ l = Lib.decDigits N := by
    rcases h with ⟨rfl, rfl⟩ | ⟨hl, h⟩
    · simp
    · rw [if_neg (by rcases hg with h | h; omega; exact absurd h hl)] at h
      exact h
  rw [← e]
  by_cases h10 : m < 10
  · rw [if_pos (by omega), dec_small h10]; rfl
  · rw [if_neg (by omega), dec_big h10]; simp
theorem DI.done {N m : Nat} {l : List UInt8} (h : DI N m l) (hm : m = 0) (hl : l ≠ []) : l = Lib.decDigits N := by
  rcases h with ⟨h, _⟩ | ⟨_, h⟩
  · exact absurd h hl
  · rw [if_pos hm] at h; exact h
theorem DI.len {N m : Nat} {l : List UInt8} (h : DI N m l) (hN : N < 18446744073709551616) : l.length ≤ 20 := by
  have hd : (Lib.decDigits N).length ≤ 20 := by rw [Lib.decDigits_length]; exact nDigits_le N hN
  rcases h with ⟨h, _⟩ | ⟨_, h⟩
  · rw [h]; simp
  · rw [← h] at hd
    split at hd
    · exact hd
    · rw [List.length_append] at hd; omega

theorem digit_nat (m : Nat) : ((UInt8.ofNat (48 + m % 10)).toNat : Int) = 48 + (m : Int) % 10 := by
  have h : (UInt8.ofNat (48 + m % 10)).toNat = (48 + m % 10) % 256 := UInt8.toNat_ofNat'
  rw [h]
  omega

set_option maxHeartbeats 1000000 in
theorem dec_int (N : Nat) (X : Int) (w : World) (hX : Hid (X = (N : Int))) (hN : Hid (N < 18446744073709551616)) (X0 : 0 ≤ X) (X1 : X < 18446744073709551616) :
    Calls Tryd.prog 36 #[.int .u64 X] w fun e w' => e = .returned (.string ⟨(Lib.decDigits N).toArray⟩) ∧ Q w w' := by
  go_enter Tryd.func36, Tryd.ntmps36
  go_wp2
  go_loopw [0, 3] (fun a b W => ∃ (x : Int) (m : Nat) (l : List UInt8), a = .int .u64 x ∧ b = .string ⟨l.toArray⟩ ∧ Hid (x = (m : Int)) ∧ 0 ≤ x ∧ x < 18446744073709551616 ∧ DI N m l ∧ Q w W) (fun a b _ => (intOf a).toNat + (1 - strLen b))
  case atStart => exact ⟨X, N, [], rfl, rfl, hX, X0, X1, .inl ⟨rfl, rfl⟩, Q.refl _⟩
  case round =>
    obtain ⟨x, m, l, rfl, rfl, hx, x0, x1, di, hq⟩ := hrel
    have hl20 := di.len hN.out
    have HD := hid di
    clear di
    by_cases hg : 0 < m ∨ l = []
    · have HN := hid (HD.out.next hg)
      have hc : ((UInt8.ofNat (48 + m % 10)).toNat : Int) = 48 + x % 10 := by rw [hx.out]; exact digit_nat m
      obtain ⟨c, ec⟩ : ∃ c, c = UInt8.ofNat (48 + m % 10) := ⟨_, rfl⟩
      rw [← ec] at HN hc
      have hcv : (convert 37 9 (.slice (some ⟨wr.heap.size, 0, none⟩) 1 1)).run Tryd.prog (wr.alloc (.cells #[.int .u8 (48 + x % 10)] 5)) = .ok (.string ⟨#[c]⟩) (wr.alloc (.cells #[.int .u8 (48 + x % 10)] 5)) := by
        have h := run_convert_bytes_back (P := Tryd.prog) (wr.alloc (.cells #[.int .u8 (48 + x % 10)] 5)) 37 9 5 ⟨wr.heap.size, 0, none⟩ 1 [c] Tryd.underlying37 Tryd.underlying5 Tryd.underlying9 (fun j hj => by
          have hj0 : j = 0 := by simpa using hj
          subst hj0
          rw [Lib.add_plain, World.cell?_alloc_new]
          simp [hc])
        exact h
      have hms : Hid ((x / 10).toNat + (1 - (l.length + 1)) < x.toNat + (1 - l.length)) := by
        show _ < _
        have := hx.out
        rcases hg with h | h
        · omega
        · rw [h]; simp; omega
      have hx' : Hid (x / 10 = ((m / 10 : Nat) : Int)) := by show _ = _; rw [hx.out]; omega
      have hg' : 0 < x ∨ (x = 0 ∧ l = []) := by have := hx.out; rcases hg with h | h; exact .inl (by omega); by_cases h0 : 0 < x; exact .inl h0; exact .inr ⟨by omega, h⟩
      clear ec hc hg HD
      rcases hg' with hp | ⟨hp, hl⟩
      · go_wp2
        go_roundw
        case rel => exact ⟨x / 10, m / 10, c :: l, rfl, congrArg Value.string (bytes_cat [c] l), hx', by omega, by omega, HN.out, hq.alloc _⟩
        case measure =>
          have h1 := hms.out
          have e2 : ((⟨#[c]⟩ : ByteArray) ++ ⟨l.toArray⟩).size = l.length + 1 := by
            have e := congrArg ByteArray.size (bytes_cat [c] l)
            rw [size_mk] at e
            exact e
          simp only [intOf, strLen, size_mk, e2]
          omega
      · have hnp : ¬ 0 < x := by omega
        clear hp
        subst hl
        go_wp2
        go_roundw
        case rel => exact ⟨x / 10, m / 10, [c], rfl, congrArg Value.string (bytes_cat [c] []), hx', by omega, by omega, HN.out, hq.alloc _⟩
        case measure =>
          have h1 := hms.out
          have e2 : ((⟨#[c]⟩ : ByteArray) ++ ⟨#[]⟩).size = 1 := by
            have e := congrArg ByteArray.size (bytes_cat [c] [])
            rw [size_mk] at e
            exact e
          simp [intOf, strLen, size_mk, e2] at *
          omega
    · have hm0 : m = 0 := by omega
      have hl0 : l ≠ [] := fun h => hg (.inr h)
      have HF := hid (HD.out.done hm0 hl0)
      have hz : ¬ 0 < x := by have := hx.out; omega
      clear hg hm0 HD
      rcases l with _ | ⟨y, l⟩
      · exact absurd rfl hl0
      · clear hl0
        go_wp2
        go_ret
        exact ⟨ret_str (by rw [HF.out]), hq⟩
end Go.Proofs.YtjadlkmjahcepaaDoor
