/- op.mayRects: which rectangles a format may have. -/
import Derived.Test.YtcgddnliiondoaaGreatDoorKp09
import Derived.Test.YtcgddnliiondoaaGreatDoorKp17
set_option linter.unusedVariables false
set_option linter.unusedSimpArgs false
set_option maxRecDepth 100000
set_option maxHeartbeats 8000000
namespace Go.Proofs.YtcgddnliiondoaaGreatDoor
open Go.RowKit
def MR (L : List R.Rg.Rc) (b : Bool) : Prop := b = true ↔ (1 ≤ L.length ∧ L.length ≤ 256 ∧ R.Rg.Nf (R.Rg.dif (R.Rg.cnted L) []) L ∧ R.Rg.ar 257 0 L ≤ 256 ∧ inB 2199023255552 L = true)
theorem mr_ex (L : List R.Rg.Rc) : ∃ b, MR L b := by
  by_cases h : (1 ≤ L.length ∧ L.length ≤ 256 ∧ R.Rg.Nf (R.Rg.dif (R.Rg.cnted L) []) L ∧ R.Rg.ar 257 0 L ≤ 256 ∧ inB 2199023255552 L = true)
  · exact ⟨true, fun _ => h, fun _ => rfl⟩
  · exact ⟨false, fun e => absurd e Bool.false_ne_true, fun e => absurd e h⟩
theorem mr_no {L : List R.Rg.Rc} {b : Bool} (hb : MR L b) (h : ¬ (1 ≤ L.length ∧ L.length ≤ 256 ∧ R.Rg.Nf (R.Rg.dif (R.Rg.cnted L) []) L ∧ R.Rg.ar 257 0 L ≤ 256 ∧ inB 2199023255552 L = true)) : b = false := by
  cases b with
  | false => rfl
  | true => exact absurd (hb.1 rfl) h
theorem nf_ex {v : Value} {L : List R.Rg.Rc} {w : World} (h : R.Sl R.rc 4 w v L) : ∃ l, R.Rg.Nf (R.Rg.dif (R.Rg.cnted L) []) l ∧ l.length ≤ 1000000000000 := by
  obtain ⟨e, w', fr, ⟨v', _, l, _, _, h3, h4, _⟩, _⟩ := R.norm_any v L w h []
  exact ⟨l, h3, h4⟩
set_option maxHeartbeats 4000000 in
theorem mayRects_any (v : Value) (L : List R.Rg.Rc) (b : Bool) (w : World) (h : R.Sl R.rc 4 w v L) (hb : MR L b) : Calls Tryz.prog 66 #[v] w fun e w' => e = .returned (.bool b) ∧ Q w w' := by
  have HS := hid h
  obtain ⟨l, hl, hll⟩ := nf_ex h
  obtain ⟨ao, cap, rfl, h1, h2⟩ := h.len
  have h3 : L.length ≤ 9223372036854775807 := Nat.le_trans h1 (by unfold maxLen at h2; omega)
  by_cases h0 : L.length = 0
  · have HR := hid (mr_no hb (fun x => by omega))
    have e0 : ((L.length : Int) == 0) = true := by rw [h0]; rfl
    clear h hb hl h0
    go_enter Tryz.func66, Tryz.ntmps66
    go_wp2_with fail
    go_ret
    exact ⟨ret_bool HR.out.symm, Q.refl _⟩
  · have e0 : ((L.length : Int) == 0) = false := by rw [beq_eq_false_iff_ne]; omega
    by_cases h256 : (256 : Int) < (L.length : Int)
    · have HR := hid (mr_no hb (fun x => by omega))
      clear h hb hl h0
      go_enter Tryz.func66, Tryz.ntmps66
      go_wp2_with fail
      go_ret
      exact ⟨ret_bool HR.out.symm, Q.refl _⟩
    · have HN := hid (R.norm_known _ L l w h hl)
      have HA := hid (fun W (q : Q w W) (e : l = L) => R.area_any _ L L 257 257 W (h.on q) (e ▸ hl) (by omega) (by omega) rfl)
      have HE := hid (fun W (q : Q w W) => ends_any _ L 2199023255552 W (h.on q))
      have HQ := hid (fun W (q : Q w W) (v1 : Value) (h1 : R.Sl R.rc 4 W v1 l) => R.eqR_any v1 _ l L W h1 (h.on q) hll (by omega))
      cases he : R.eqRc l L
      · rw [he] at HQ
        have HR := hid (mr_no hb (fun x => by rw [R.Rg.nf_uniq hl x.2.2.1, R.eqRc_iff.2 rfl] at he; cases he))
        clear h hb hl h0 he HS
        go_enter Tryz.func66, Tryz.ntmps66
        go_wp2_with (first
          | (go_at_call 97; refine HN.out.mono ?_; rintro e9 w1 ⟨v1, rfl, own1, q1⟩; have HS1 := hid (own1.sl R.rc_len (by decide)); have Q1 : Hid (Q w w1) := hid q1; clear own1 q1; obtain ⟨ao1, cap1, rfl, _, _⟩ := HS1.out.len)
          | (go_at_call 96; refine (HQ.out _ Q1.out _ HS1.out).mono ?_; rintro e9 w2 ⟨rfl, q2⟩; have Q2 : Hid (Q w w2) := hid (Q1.out.trans q2); clear q2))
        go_ret
        exact ⟨ret_bool HR.out.symm, Q2.out⟩
      · rw [he] at HQ
        have hlL := R.eqRc_iff.1 he
        by_cases ha : R.Rg.ar 257 0 L ≤ 256
        · have HR : Hid (inB 2199023255552 L = b) := hid (by
            cases hi : inB 2199023255552 L
            · exact (mr_no hb (fun x => by rw [hi] at x; cases x.2.2.2.2)).symm
            · exact (hb.2 ⟨by omega, by omega, hlL ▸ hl, ha, hi⟩).symm)
          have HA2 := hid (fun W q => HA.out W q hlL)
          generalize R.Rg.ar 257 0 L = na at *
          clear h hb hl h0 he HS HA hlL
          go_enter Tryz.func66, Tryz.ntmps66
          go_wp2_with (first
            | (go_at_call 97; refine HN.out.mono ?_; rintro e9 w1 ⟨v1, rfl, own1, q1⟩; have HS1 := hid (own1.sl R.rc_len (by decide)); have Q1 : Hid (Q w w1) := hid q1; clear own1 q1; obtain ⟨ao1, cap1, rfl, _, _⟩ := HS1.out.len)
            | (go_at_call 96; refine (HQ.out _ Q1.out _ HS1.out).mono ?_; rintro e9 w2 ⟨rfl, q2⟩; have Q2 : Hid (Q w w2) := hid (Q1.out.trans q2); clear q2)
            | (go_at_call 98; refine (HA2.out _ Q2.out).mono ?_; rintro e9 w3 ⟨rfl, q3⟩; have Q3 : Hid (Q w w3) := hid (Q2.out.trans q3); clear q3)
            | (go_at_call 99; refine (HE.out _ Q3.out).mono ?_; rintro e9 w4 ⟨rfl, q4⟩; have Q4 : Hid (Q w w4) := hid (Q3.out.trans q4); clear q4))
          go_ret
          exact ⟨ret_bool HR.out, Q4.out⟩
        · have HR := hid (mr_no hb (fun x => ha x.2.2.2.1))
          have HA2 := hid (fun W q => HA.out W q hlL)
          generalize R.Rg.ar 257 0 L = na at *
          clear h hb hl h0 he HS HA hlL
          go_enter Tryz.func66, Tryz.ntmps66
          go_wp2_with (first
            | (go_at_call 97; refine HN.out.mono ?_; rintro e9 w1 ⟨v1, rfl, own1, q1⟩; have HS1 := hid (own1.sl R.rc_len (by decide)); have Q1 : Hid (Q w w1) := hid q1; clear own1 q1; obtain ⟨ao1, cap1, rfl, _, _⟩ := HS1.out.len)
            | (go_at_call 96; refine (HQ.out _ Q1.out _ HS1.out).mono ?_; rintro e9 w2 ⟨rfl, q2⟩; have Q2 : Hid (Q w w2) := hid (Q1.out.trans q2); clear q2)
            | (go_at_call 98; refine (HA2.out _ Q2.out).mono ?_; rintro e9 w3 ⟨rfl, q3⟩; have Q3 : Hid (Q w w3) := hid (Q2.out.trans q3); clear q3))
          go_ret
          exact ⟨ret_bool HR.out.symm, Q3.out⟩
end Go.Proofs.YtcgddnliiondoaaGreatDoor
