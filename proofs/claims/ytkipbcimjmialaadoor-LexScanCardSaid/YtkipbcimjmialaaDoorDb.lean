/- LexScan, walked. -/
import Derived.Test.YtkipbcimjmialaaDoorDa
import Derived.Test.YtkipbcimjmialaaDoorCi
import Derived.BigQuiet
namespace Go.Proofs.YtkipbcimjmialaaDoor
open Go.RowKit
set_option linter.unusedVariables false
set_option linter.unusedSimpArgs false


set_option maxHeartbeats 8000000 in
theorem lexscan_any (s : ByteArray) (w : World) (hw : Std w) : Calls Tryd.prog 3 #[.string s] w fun e w' => e = .returned (.bool true) ∧ Q w w' := by
  have HB := hid (begun_any w hw)
  have HT := hid (fun W => short_any s 1100 W (by omega) (by omega))
  have hz : (if (1100 : Int) < (s.size : Int) then s.extract 0 (1100 : Int).toNat else s).size ≤ 1100 := short_le s 1100
  generalize (if (1100 : Int) < (s.size : Int) then s.extract 0 (1100 : Int).toNat else s) = S at HT hz
  have HP := hid (fun W (q : Q w W) => scan_any S W (hw.on q) (by omega))
  have HR := hid (fun W => rscan_any S W (by omega))
  clear hw
  cases ho : scanL S.data.toList with
  | mk o n =>
    rw [ho] at HP HR
    cases o with
    | none =>
      clear ho
      go_enter Tryd.func3, Tryd.ntmps3
      go_wp2_with (first | (go_at_call 5; refine HB.out.mono ?_; rintro e w1 ⟨rfl, q1⟩; have Q1 := hid q1; clear q1) | (go_at_call 6; refine (HT.out _).mono ?_; rintro e w9 ⟨rfl, h9⟩; replace h9 := h9.symm; subst h9) | (go_at_call 7; refine (HP.out _ Q1.out).mono ?_; rintro e w2 ⟨hr, q2⟩; obtain rfl := hr.none; have Q2 := hid (Q1.out.trans q2); clear q2 hr) | (go_at_call 8; refine (HR.out _).mono ?_; rintro e w3 ⟨hr, q3⟩; obtain rfl := hr.none; have Q3 := hid (Q2.out.trans q3); clear q3 hr))
      go_loop [10] (fun x => x = .int .i64 0) (fun _ => 0)
      case atStart => rfl
      case round =>
        obtain rfl := hrel
        go_wp2_with fail
        go_ret
        exact ⟨rfl, Q3.out⟩
    | some L =>
      have hL0 := scanL_pos ho
      clear ho
      go_enter Tryd.func3, Tryd.ntmps3
      go_wp2_with (first | (go_at_call 5; refine HB.out.mono ?_; rintro e w1 ⟨rfl, q1⟩; have Q1 := hid q1; clear q1) | (go_at_call 6; refine (HT.out _).mono ?_; rintro e w9 ⟨rfl, h9⟩; replace h9 := h9.symm; subst h9) | (go_at_call 7; refine (HP.out _ Q1.out).mono ?_; rintro e w2 ⟨hr, q2⟩; obtain ⟨v, rfl, hv⟩ := hr.some; have Q2 := hid (Q1.out.trans q2); obtain ⟨b, off, cap, hsw⟩ := sw_of hv hL0; clear hv hr q2; have hsw := hid hsw; obtain rfl := hsw.out.ev) | (go_at_call 8; refine (HR.out _).mono ?_; rintro e w3 ⟨hr, q3⟩; obtain ⟨v', rfl, hv⟩ := hr.some; have Q3 := hid (Q2.out.trans q3); obtain ⟨b', off', cap', hsw'⟩ := sw_of hv hL0; have Q23 := hid q3; clear hv hr q3; have hsw' := hid hsw'; obtain rfl := hsw'.out.ev))
      have hroom := hsw.out.room
      have HS1 := hid (hsw.out.on Q23.out)
      clear hsw Q23
      go_loopw [10] (fun x W => ∃ k : Nat, k ≤ L.length ∧ x = .int .i64 (k : Int) ∧ Q w3 W) (fun x _ => L.length - (intOf x).toNat)
      case atStart => exact ⟨0, Nat.zero_le _, rfl, Q.refl _⟩
      case round =>
        obtain ⟨k, hk, rfl, hq⟩ := hrel
        by_cases hlt : k < L.length
        · have A1 := HS1.out.on hq
          have A2 := hsw'.out.on hq
          have c0 := A1.k k hlt
          have c1 := A1.t k hlt
          have c2 := A1.p k hlt
          have d0 := A2.k k hlt
          have d1 := A2.t k hlt
          have d2 := A2.p k hlt
          have HQ := hid hq
          clear A1 A2 hq
          generalize ((L[k].k : Nat) : Int) = a at c0 d0
          generalize (⟨L[k].t.toArray⟩ : ByteArray) = t at c1 d1
          generalize ((L[k].p : Nat) : Int) = p at c2 d2
          go_wp2_with fail
          go_quiet (fail)
          go_wp2_with fail
          go_roundw
          case rel => exact ⟨k + 1, by omega, by go_num, by repeat (first | exact HQ.out | refine Q.drewN ?_ _ | refine Q.drew ?_)⟩
          case measure => simp [intOf]; omega
        · have HQ := hid hq
          clear hq
          go_wp2_with fail
          go_ret
          exact ⟨rfl, Q3.out.trans HQ.out⟩
end Go.Proofs.YtkipbcimjmialaaDoor
