/- lex.sign, walked. -/
import Derived.Test.YtkipbcimjmialaaDoorBd
namespace Go.Proofs.YtkipbcimjmialaaDoor
open Go.RowKit
set_option linter.unusedVariables false
set_option linter.unusedSimpArgs false


/-- the letters in which a sign is handed round -/
theorem sig_step (k : Nat) (h : k < 15) : sgL.drop k = (sgL.getD k []) :: sgL.drop (k + 1) := by
  rcases (by omega : k = 0 ∨ k = 1 ∨ k = 2 ∨ k = 3 ∨ k = 4 ∨ k = 5 ∨ k = 6 ∨ k = 7 ∨ k = 8 ∨ k = 9 ∨ k = 10 ∨ k = 11 ∨ k = 12 ∨ k = 13 ∨ k = 14) with rfl | rfl | rfl | rfl | rfl | rfl | rfl | rfl | rfl | rfl | rfl | rfl | rfl | rfl | rfl <;> rfl
theorem sig_len (k : Nat) (h : k < 15) : (sgL.getD k []).length ≤ 2 := by
  rcases (by omega : k = 0 ∨ k = 1 ∨ k = 2 ∨ k = 3 ∨ k = 4 ∨ k = 5 ∨ k = 6 ∨ k = 7 ∨ k = 8 ∨ k = 9 ∨ k = 10 ∨ k = 11 ∨ k = 12 ∨ k = 13 ∨ k = 14) with rfl | rfl | rfl | rfl | rfl | rfl | rfl | rfl | rfl | rfl | rfl | rfl | rfl | rfl | rfl <;> decide
theorem run_sig (a : Array Value) (k : Nat) (v : Value) (w : World) (hk : k < 15) (hv : a[k]? = some v) : (Instr.index 62 (.agg a) (.int .i64 (k : Int))).run Tryd.prog w = .ok v w := by
  have h1 : (k : Int) < 15 := by omega
  have h0 : (0 : Int) ≤ k := by omega
  simp [Instr.index, run_underlying Tryd.underlying62, asIntOf, go_sem, h0, h1]
  rw [if_pos hk, hv]
  rfl
def sgA : Array Value := #[.string ⟨#[60, 62]⟩, .string ⟨#[60, 61]⟩, .string ⟨#[62, 61]⟩, .string ⟨#[60]⟩, .string ⟨#[62]⟩, .string ⟨#[61]⟩, .string ⟨#[43]⟩, .string ⟨#[45]⟩, .string ⟨#[42]⟩, .string ⟨#[47]⟩, .string ⟨#[38]⟩, .string ⟨#[40]⟩, .string ⟨#[41]⟩, .string ⟨#[44]⟩, .string ⟨#[58]⟩]
theorem sgA_at (k : Nat) (h : k < 15) : sgA[k]? = some (.string ⟨(sgL.getD k []).toArray⟩) := by
  rcases (by omega : k = 0 ∨ k = 1 ∨ k = 2 ∨ k = 3 ∨ k = 4 ∨ k = 5 ∨ k = 6 ∨ k = 7 ∨ k = 8 ∨ k = 9 ∨ k = 10 ∨ k = 11 ∨ k = 12 ∨ k = 13 ∨ k = 14) with rfl | rfl | rfl | rfl | rfl | rfl | rfl | rfl | rfl | rfl | rfl | rfl | rfl | rfl | rfl <;> rfl
set_option maxHeartbeats 8000000 in
set_option maxRecDepth 20000 in
theorem sign_any (s : ByteArray) (w : World) (hw : Std w) (hs : s.size ≤ 1000000) :
    Calls Tryd.prog 16 #[.string s] w fun e w' => e = .returned (wv (sigW s.data.toList)) ∧ w' = w := by
  obtain ⟨jw, hj⟩ : ∃ jw, sigW s.data.toList = jw := ⟨_, rfl⟩
  rw [hj]
  have HJ := hid hj
  clear hj
  have c0 : w.cell? ⟨0, 0, none⟩ = some (.string ⟨#[60, 62]⟩) := hw.sg 0 (by omega)
  have c1 : w.cell? ⟨0, 1, none⟩ = some (.string ⟨#[60, 61]⟩) := hw.sg 1 (by omega)
  have c2 : w.cell? ⟨0, 2, none⟩ = some (.string ⟨#[62, 61]⟩) := hw.sg 2 (by omega)
  have c3 : w.cell? ⟨0, 3, none⟩ = some (.string ⟨#[60]⟩) := hw.sg 3 (by omega)
  have c4 : w.cell? ⟨0, 4, none⟩ = some (.string ⟨#[62]⟩) := hw.sg 4 (by omega)
  have c5 : w.cell? ⟨0, 5, none⟩ = some (.string ⟨#[61]⟩) := hw.sg 5 (by omega)
  have c6 : w.cell? ⟨0, 6, none⟩ = some (.string ⟨#[43]⟩) := hw.sg 6 (by omega)
  have c7 : w.cell? ⟨0, 7, none⟩ = some (.string ⟨#[45]⟩) := hw.sg 7 (by omega)
  have c8 : w.cell? ⟨0, 8, none⟩ = some (.string ⟨#[42]⟩) := hw.sg 8 (by omega)
  have c9 : w.cell? ⟨0, 9, none⟩ = some (.string ⟨#[47]⟩) := hw.sg 9 (by omega)
  have c10 : w.cell? ⟨0, 10, none⟩ = some (.string ⟨#[38]⟩) := hw.sg 10 (by omega)
  have c11 : w.cell? ⟨0, 11, none⟩ = some (.string ⟨#[40]⟩) := hw.sg 11 (by omega)
  have c12 : w.cell? ⟨0, 12, none⟩ = some (.string ⟨#[41]⟩) := hw.sg 12 (by omega)
  have c13 : w.cell? ⟨0, 13, none⟩ = some (.string ⟨#[44]⟩) := hw.sg 13 (by omega)
  have c14 : w.cell? ⟨0, 14, none⟩ = some (.string ⟨#[58]⟩) := hw.sg 14 (by omega)
  clear hw
  go_enter Tryd.func16, Tryd.ntmps16
  go_wp2
  clear c0 c1 c2 c3 c4 c5 c6 c7 c8 c9 c10 c11 c12 c13 c14
  obtain ⟨A, hA⟩ : ∃ A, sgA = A := ⟨_, rfl⟩
  have HA := hid hA
  unfold sgA at hA
  rw [hA]
  clear hA
  go_loop [8] (fun i => ∃ k : Nat, k ≤ 15 ∧ i = .int .i64 (k : Int) ∧ Hid (sigP ((sgL.drop k).find? (fun t => Lib.hasPrefix s.data.toList t)) = jw)) (fun i => 15 - (intOf i).toNat)
  case atStart => exact ⟨0, by omega, rfl, HJ⟩
  case round =>
    obtain ⟨k, hk, rfl, hr⟩ := hrel
    by_cases hlt : k < 15
    · have hI := fun W => run_sig A k _ W hlt (by rw [← HA.out]; exact sgA_at k hlt)
      obtain ⟨N, eN⟩ : ∃ N : ByteArray, ⟨(sgL.getD k []).toArray⟩ = N := ⟨_, rfl⟩
      have lN : N.data.toList = sgL.getD k [] := by rw [← eN]
      have zN : N.size ≤ 2 := by rw [← len_data, lN]; exact sig_len k hlt
      rw [eN] at hI
      have hp := Tryd.strings_HasPrefix s N w
      have hr2 := hr.out
      rw [sig_step k hlt, List.find?_cons, ← lN] at hr2
      clear lN hr eN
      cases hb : Lib.hasPrefix s.data.toList N.data.toList
      · rw [hb] at hp hr2
        have H2 := hid hp
        have HR := hid hr2
        clear hp hr2 hb
        go_wp2_with (go_at_call 23; refine H2.out.mono ?_; rintro e w1 ⟨rfl, h1⟩; replace h1 := h1.symm; subst h1)
        go_round
        case rel => exact ⟨k + 1, by omega, by go_num, HR⟩
        case measure => simp [intOf]; omega
      · rw [hb] at hp hr2
        have H2 := hid hp
        have HR : Hid (jw = (6, N.data.toList, N.data.toList.length)) := by show _ = _; rw [← hr2]; rfl
        clear hp hr2 hb
        go_wp2_with (go_at_call 23; refine H2.out.mono ?_; rintro e w1 ⟨rfl, h1⟩; replace h1 := h1.symm; subst h1)
        go_ret3
        exact ⟨ret_wv (by rw [HR.out]; rfl) (by rw [HR.out]) (by rw [HR.out]; simp), rfl⟩
    · have e : k = 15 := by omega
      subst e
      have HR := hid hr.out.symm
      clear hr
      go_wp2_with fail
      go_ret3
      exact ⟨ret_bad HR.out, rfl⟩
end Go.Proofs.YtkipbcimjmialaaDoor
