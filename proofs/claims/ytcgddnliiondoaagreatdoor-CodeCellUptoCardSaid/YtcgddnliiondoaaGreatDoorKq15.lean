/- counterpaneref1.Utf8: is a text valid UTF-8?. -/
import Derived.Test.YtcgddnliiondoaaGreatDoorKq00
set_option linter.unusedVariables false
set_option linter.unusedSimpArgs false
set_option maxRecDepth 100000
set_option maxHeartbeats 8000000
namespace Go.Proofs.YtcgddnliiondoaaGreatDoor.V
open Go.RowKit
set_option maxHeartbeats 40000000 in
theorem utf8_any (s : ByteArray) (w : World) (hs : (s.size : Int) ≤ 9223372036854775000) :
    Calls Tryz.prog 59 #[.string s] w fun e w' => e = .returned (.bool (Lib.validD s.data.toList)) ∧ w' = w := by
  obtain ⟨A, hA⟩ : ∃ A, Lib.validD s.data.toList = A := ⟨_, rfl⟩
  rw [hA]
  go_enter Tryz.func59, Tryz.ntmps59
  go_wp2
  go_loop [3] (fun i => ∃ k : Nat, k ≤ s.size ∧ i = .int .i64 k ∧ Hid (Lib.validD (s.data.toList.drop k) = A)) (fun i => s.size - (intOf i).toNat)
  case atStart => exact ⟨0, Nat.zero_le _, rfl, hA⟩
  case round =>
    obtain ⟨k, hk, rfl, hv⟩ := hrel
    by_cases hlt : k < s.size
    · have HA := hid (at_of s k A hv.out)
      clear hv hA
      rcases Int.lt_or_le (s[k].toNat : Int) 128 with c0 | c0
      · have HV := hid (HA.out.asc hlt (by omega))
        clear HA
        go_wp2
        go_round
        case rel => exact ⟨k + 1, by omega, by go_num, HV⟩
        case measure => simp [intOf]; omega
      rcases Int.lt_or_le (s[k].toNat : Int) 194 with c1 | c1
      · have HV := HA.out.bad hlt (by omega)
        subst HV
        clear HA
        go_wp2
        go_ret
        exact ⟨rfl, rfl⟩
      rcases Int.lt_or_le (s[k].toNat : Int) 224 with c2 | c2
      · rcases Nat.lt_or_ge (k + 1) s.size with g1 | gs
        · skip
          go_wp2
          refine wp_loop_rounds 2 ?_
          rw [rounds_succ]
          rcases Int.lt_or_le (s[k + 1].toNat : Int) 128 with d1 | d1
          · first
            | (exfalso; omega)
            | (have HV := HA.out.two1 hlt g1 (by omega) (by omega) (by omega); subst HV; clear HA; go_wp2; go_ret; exact ⟨rfl, rfl⟩)
          · rcases Int.lt_or_le 191 (s[k + 1].toNat : Int) with e1 | e1
            · first
              | (exfalso; omega)
              | (have HV := HA.out.two1 hlt g1 (by omega) (by omega) (by omega); subst HV; clear HA; go_wp2; go_ret; exact ⟨rfl, rfl⟩)
            · go_wp2
              have HV := hid (HA.out.two hlt g1 (by omega) (by omega) (by omega))
              clear HA
              rw [rounds_succ]
              go_wp2
              go_round
              case rel => exact ⟨k + 2, by omega, by go_num, HV⟩
              case measure => simp [intOf]; omega
        · have HV := HA.out.two0 hlt (by omega) (by omega) gs
          subst HV
          clear HA
          go_wp2
          go_ret
          exact ⟨rfl, rfl⟩
      rcases Int.lt_or_le (s[k].toNat : Int) 240 with c3 | c3
      · rcases Nat.lt_or_ge (k + 2) s.size with g2 | gs
        · have g1 : k + 1 < s.size := by omega
          by_cases ka : (s[k].toNat : Int) = 224
          · rcases Int.lt_or_le (s[k + 1].toNat : Int) 160 with x1 | x1
            · have HV := HA.out.three1 hlt g1 g2 (by omega) (by omega) (by omega)
              subst HV
              clear HA
              go_wp2
              go_ret
              exact ⟨rfl, rfl⟩
            · skip
              go_wp2
              refine wp_loop_rounds 3 ?_
              rw [rounds_succ]
              rcases Int.lt_or_le (s[k + 1].toNat : Int) 128 with d1 | d1
              · first
                | (exfalso; omega)
                | (have HV := HA.out.three1 hlt g1 g2 (by omega) (by omega) (by omega); subst HV; clear HA; go_wp2; go_ret; exact ⟨rfl, rfl⟩)
              · rcases Int.lt_or_le 191 (s[k + 1].toNat : Int) with e1 | e1
                · first
                  | (exfalso; omega)
                  | (have HV := HA.out.three1 hlt g1 g2 (by omega) (by omega) (by omega); subst HV; clear HA; go_wp2; go_ret; exact ⟨rfl, rfl⟩)
                · go_wp2
                  rw [rounds_succ]
                  rcases Int.lt_or_le (s[k + 2].toNat : Int) 128 with d2 | d2
                  · first
                    | (exfalso; omega)
                    | (have HV := HA.out.three1 hlt g1 g2 (by omega) (by omega) (by omega); subst HV; clear HA; go_wp2; go_ret; exact ⟨rfl, rfl⟩)
                  · rcases Int.lt_or_le 191 (s[k + 2].toNat : Int) with e2 | e2
                    · first
                      | (exfalso; omega)
                      | (have HV := HA.out.three1 hlt g1 g2 (by omega) (by omega) (by omega); subst HV; clear HA; go_wp2; go_ret; exact ⟨rfl, rfl⟩)
                    · go_wp2
                      have HV := hid (HA.out.three hlt g1 g2 (by omega) (by omega) (by omega))
                      clear HA
                      rw [rounds_succ]
                      go_wp2
                      go_round
                      case rel => exact ⟨k + 3, by omega, by go_num, HV⟩
                      case measure => simp [intOf]; omega
          · by_cases kb : (s[k].toNat : Int) = 237
            · rcases Int.lt_or_le 159 (s[k + 1].toNat : Int) with x1 | x1
              · have HV := HA.out.three1 hlt g1 g2 (by omega) (by omega) (by omega)
                subst HV
                clear HA
                go_wp2
                go_ret
                exact ⟨rfl, rfl⟩
              · skip
                go_wp2
                refine wp_loop_rounds 3 ?_
                rw [rounds_succ]
                rcases Int.lt_or_le (s[k + 1].toNat : Int) 128 with d1 | d1
                · first
                  | (exfalso; omega)
                  | (have HV := HA.out.three1 hlt g1 g2 (by omega) (by omega) (by omega); subst HV; clear HA; go_wp2; go_ret; exact ⟨rfl, rfl⟩)
                · rcases Int.lt_or_le 191 (s[k + 1].toNat : Int) with e1 | e1
                  · first
                    | (exfalso; omega)
                    | (have HV := HA.out.three1 hlt g1 g2 (by omega) (by omega) (by omega); subst HV; clear HA; go_wp2; go_ret; exact ⟨rfl, rfl⟩)
                  · go_wp2
                    rw [rounds_succ]
                    rcases Int.lt_or_le (s[k + 2].toNat : Int) 128 with d2 | d2
                    · first
                      | (exfalso; omega)
                      | (have HV := HA.out.three1 hlt g1 g2 (by omega) (by omega) (by omega); subst HV; clear HA; go_wp2; go_ret; exact ⟨rfl, rfl⟩)
                    · rcases Int.lt_or_le 191 (s[k + 2].toNat : Int) with e2 | e2
                      · first
                        | (exfalso; omega)
                        | (have HV := HA.out.three1 hlt g1 g2 (by omega) (by omega) (by omega); subst HV; clear HA; go_wp2; go_ret; exact ⟨rfl, rfl⟩)
                      · go_wp2
                        have HV := hid (HA.out.three hlt g1 g2 (by omega) (by omega) (by omega))
                        clear HA
                        rw [rounds_succ]
                        go_wp2
                        go_round
                        case rel => exact ⟨k + 3, by omega, by go_num, HV⟩
                        case measure => simp [intOf]; omega
            · skip
              go_wp2
              refine wp_loop_rounds 3 ?_
              rw [rounds_succ]
              rcases Int.lt_or_le (s[k + 1].toNat : Int) 128 with d1 | d1
              · first
                | (exfalso; omega)
                | (have HV := HA.out.three1 hlt g1 g2 (by omega) (by omega) (by omega); subst HV; clear HA; go_wp2; go_ret; exact ⟨rfl, rfl⟩)
              · rcases Int.lt_or_le 191 (s[k + 1].toNat : Int) with e1 | e1
                · first
                  | (exfalso; omega)
                  | (have HV := HA.out.three1 hlt g1 g2 (by omega) (by omega) (by omega); subst HV; clear HA; go_wp2; go_ret; exact ⟨rfl, rfl⟩)
                · go_wp2
                  rw [rounds_succ]
                  rcases Int.lt_or_le (s[k + 2].toNat : Int) 128 with d2 | d2
                  · first
                    | (exfalso; omega)
                    | (have HV := HA.out.three1 hlt g1 g2 (by omega) (by omega) (by omega); subst HV; clear HA; go_wp2; go_ret; exact ⟨rfl, rfl⟩)
                  · rcases Int.lt_or_le 191 (s[k + 2].toNat : Int) with e2 | e2
                    · first
                      | (exfalso; omega)
                      | (have HV := HA.out.three1 hlt g1 g2 (by omega) (by omega) (by omega); subst HV; clear HA; go_wp2; go_ret; exact ⟨rfl, rfl⟩)
                    · go_wp2
                      have HV := hid (HA.out.three hlt g1 g2 (by omega) (by omega) (by omega))
                      clear HA
                      rw [rounds_succ]
                      go_wp2
                      go_round
                      case rel => exact ⟨k + 3, by omega, by go_num, HV⟩
                      case measure => simp [intOf]; omega
        · have HV := HA.out.three0 hlt (by omega) (by omega) gs
          subst HV
          clear HA
          go_wp2
          go_ret
          exact ⟨rfl, rfl⟩
      rcases Int.lt_or_le (s[k].toNat : Int) 245 with c4 | c4
      · rcases Nat.lt_or_ge (k + 3) s.size with g3 | gs
        · have g1 : k + 1 < s.size := by omega
          have g2 : k + 2 < s.size := by omega
          by_cases ka : (s[k].toNat : Int) = 240
          · rcases Int.lt_or_le (s[k + 1].toNat : Int) 144 with x1 | x1
            · have HV := HA.out.four1 hlt g1 g2 g3 (by omega) (by omega) (by omega)
              subst HV
              clear HA
              go_wp2
              go_ret
              exact ⟨rfl, rfl⟩
            · skip
              go_wp2
              refine wp_loop_rounds 4 ?_
              rw [rounds_succ]
              rcases Int.lt_or_le (s[k + 1].toNat : Int) 128 with d1 | d1
              · first
                | (exfalso; omega)
                | (have HV := HA.out.four1 hlt g1 g2 g3 (by omega) (by omega) (by omega); subst HV; clear HA; go_wp2; go_ret; exact ⟨rfl, rfl⟩)
              · rcases Int.lt_or_le 191 (s[k + 1].toNat : Int) with e1 | e1
                · first
                  | (exfalso; omega)
                  | (have HV := HA.out.four1 hlt g1 g2 g3 (by omega) (by omega) (by omega); subst HV; clear HA; go_wp2; go_ret; exact ⟨rfl, rfl⟩)
                · go_wp2
                  rw [rounds_succ]
                  rcases Int.lt_or_le (s[k + 2].toNat : Int) 128 with d2 | d2
                  · first
                    | (exfalso; omega)
                    | (have HV := HA.out.four1 hlt g1 g2 g3 (by omega) (by omega) (by omega); subst HV; clear HA; go_wp2; go_ret; exact ⟨rfl, rfl⟩)
                  · rcases Int.lt_or_le 191 (s[k + 2].toNat : Int) with e2 | e2
                    · first
                      | (exfalso; omega)
                      | (have HV := HA.out.four1 hlt g1 g2 g3 (by omega) (by omega) (by omega); subst HV; clear HA; go_wp2; go_ret; exact ⟨rfl, rfl⟩)
                    · go_wp2
                      rw [rounds_succ]
                      rcases Int.lt_or_le (s[k + 3].toNat : Int) 128 with d3 | d3
                      · first
                        | (exfalso; omega)
                        | (have HV := HA.out.four1 hlt g1 g2 g3 (by omega) (by omega) (by omega); subst HV; clear HA; go_wp2; go_ret; exact ⟨rfl, rfl⟩)
                      · rcases Int.lt_or_le 191 (s[k + 3].toNat : Int) with e3 | e3
                        · first
                          | (exfalso; omega)
                          | (have HV := HA.out.four1 hlt g1 g2 g3 (by omega) (by omega) (by omega); subst HV; clear HA; go_wp2; go_ret; exact ⟨rfl, rfl⟩)
                        · go_wp2
                          have HV := hid (HA.out.four hlt g1 g2 g3 (by omega) (by omega) (by omega))
                          clear HA
                          rw [rounds_succ]
                          go_wp2
                          go_round
                          case rel => exact ⟨k + 4, by omega, by go_num, HV⟩
                          case measure => simp [intOf]; omega
          · by_cases kb : (s[k].toNat : Int) = 244
            · rcases Int.lt_or_le 143 (s[k + 1].toNat : Int) with x1 | x1
              · have HV := HA.out.four1 hlt g1 g2 g3 (by omega) (by omega) (by omega)
                subst HV
                clear HA
                go_wp2
                go_ret
                exact ⟨rfl, rfl⟩
              · skip
                go_wp2
                refine wp_loop_rounds 4 ?_
                rw [rounds_succ]
                rcases Int.lt_or_le (s[k + 1].toNat : Int) 128 with d1 | d1
                · first
                  | (exfalso; omega)
                  | (have HV := HA.out.four1 hlt g1 g2 g3 (by omega) (by omega) (by omega); subst HV; clear HA; go_wp2; go_ret; exact ⟨rfl, rfl⟩)
                · rcases Int.lt_or_le 191 (s[k + 1].toNat : Int) with e1 | e1
                  · first
                    | (exfalso; omega)
                    | (have HV := HA.out.four1 hlt g1 g2 g3 (by omega) (by omega) (by omega); subst HV; clear HA; go_wp2; go_ret; exact ⟨rfl, rfl⟩)
                  · go_wp2
                    rw [rounds_succ]
                    rcases Int.lt_or_le (s[k + 2].toNat : Int) 128 with d2 | d2
                    · first
                      | (exfalso; omega)
                      | (have HV := HA.out.four1 hlt g1 g2 g3 (by omega) (by omega) (by omega); subst HV; clear HA; go_wp2; go_ret; exact ⟨rfl, rfl⟩)
                    · rcases Int.lt_or_le 191 (s[k + 2].toNat : Int) with e2 | e2
                      · first
                        | (exfalso; omega)
                        | (have HV := HA.out.four1 hlt g1 g2 g3 (by omega) (by omega) (by omega); subst HV; clear HA; go_wp2; go_ret; exact ⟨rfl, rfl⟩)
                      · go_wp2
                        rw [rounds_succ]
                        rcases Int.lt_or_le (s[k + 3].toNat : Int) 128 with d3 | d3
                        · first
                          | (exfalso; omega)
                          | (have HV := HA.out.four1 hlt g1 g2 g3 (by omega) (by omega) (by omega); subst HV; clear HA; go_wp2; go_ret; exact ⟨rfl, rfl⟩)
                        · rcases Int.lt_or_le 191 (s[k + 3].toNat : Int) with e3 | e3
                          · first
                            | (exfalso; omega)
                            | (have HV := HA.out.four1 hlt g1 g2 g3 (by omega) (by omega) (by omega); subst HV; clear HA; go_wp2; go_ret; exact ⟨rfl, rfl⟩)
                          · go_wp2
                            have HV := hid (HA.out.four hlt g1 g2 g3 (by omega) (by omega) (by omega))
                            clear HA
                            rw [rounds_succ]
                            go_wp2
                            go_round
                            case rel => exact ⟨k + 4, by omega, by go_num, HV⟩
                            case measure => simp [intOf]; omega
            · skip
              go_wp2
              refine wp_loop_rounds 4 ?_
              rw [rounds_succ]
              rcases Int.lt_or_le (s[k + 1].toNat : Int) 128 with d1 | d1
              · first
                | (exfalso; omega)
                | (have HV := HA.out.four1 hlt g1 g2 g3 (by omega) (by omega) (by omega); subst HV; clear HA; go_wp2; go_ret; exact ⟨rfl, rfl⟩)
              · rcases Int.lt_or_le 191 (s[k + 1].toNat : Int) with e1 | e1
                · first
                  | (exfalso; omega)
                  | (have HV := HA.out.four1 hlt g1 g2 g3 (by omega) (by omega) (by omega); subst HV; clear HA; go_wp2; go_ret; exact ⟨rfl, rfl⟩)
                · go_wp2
                  rw [rounds_succ]
                  rcases Int.lt_or_le (s[k + 2].toNat : Int) 128 with d2 | d2
                  · first
                    | (exfalso; omega)
                    | (have HV := HA.out.four1 hlt g1 g2 g3 (by omega) (by omega) (by omega); subst HV; clear HA; go_wp2; go_ret; exact ⟨rfl, rfl⟩)
                  · rcases Int.lt_or_le 191 (s[k + 2].toNat : Int) with e2 | e2
                    · first
                      | (exfalso; omega)
                      | (have HV := HA.out.four1 hlt g1 g2 g3 (by omega) (by omega) (by omega); subst HV; clear HA; go_wp2; go_ret; exact ⟨rfl, rfl⟩)
                    · go_wp2
                      rw [rounds_succ]
                      rcases Int.lt_or_le (s[k + 3].toNat : Int) 128 with d3 | d3
                      · first
                        | (exfalso; omega)
                        | (have HV := HA.out.four1 hlt g1 g2 g3 (by omega) (by omega) (by omega); subst HV; clear HA; go_wp2; go_ret; exact ⟨rfl, rfl⟩)
                      · rcases Int.lt_or_le 191 (s[k + 3].toNat : Int) with e3 | e3
                        · first
                          | (exfalso; omega)
                          | (have HV := HA.out.four1 hlt g1 g2 g3 (by omega) (by omega) (by omega); subst HV; clear HA; go_wp2; go_ret; exact ⟨rfl, rfl⟩)
                        · go_wp2
                          have HV := hid (HA.out.four hlt g1 g2 g3 (by omega) (by omega) (by omega))
                          clear HA
                          rw [rounds_succ]
                          go_wp2
                          go_round
                          case rel => exact ⟨k + 4, by omega, by go_num, HV⟩
                          case measure => simp [intOf]; omega
        · have HV := HA.out.four0 hlt (by omega) (by omega) gs
          subst HV
          clear HA
          go_wp2
          go_ret
          exact ⟨rfl, rfl⟩
      · have HV := HA.out.bad hlt (by omega)
        subst HV
        clear HA
        go_wp2
        go_ret
        exact ⟨rfl, rfl⟩
    · have hN : Hid (true = A) := by
        show _ = _
        have h1 := hv.out
        rw [List.drop_of_length_le (by simpa using hlt)] at h1
        rw [← h1]
        rfl
      clear hv hA
      go_wp2
      go_ret
      exact ⟨vret_bool hN.out, rfl⟩
end Go.Proofs.YtcgddnliiondoaaGreatDoor.V
