/- The reference: is a cell in one of some rectangles? -/
import Derived.Test.YtkbpdgghnlnakaaC
namespace Go.Proofs.Ytkbpdgghnlnakaa
open Go.RowKit
set_option linter.unusedVariables false
set_option linter.unusedSimpArgs false


set_option maxRecDepth 100000 in
set_option maxHeartbeats 2000000 in
theorem rhas_any (v : Value) (L : List Rg.Rc) (row col : Int) (w : World) (h : Sl rc 4 w v L) : Calls Try.prog 14 #[v, .int .i64 row, .int .i64 col] w fun e w' => e = .returned (.bool (Rg.has (Rg.cnted L) row col)) ∧ Q w w' := by
  have HS := hid h
  obtain ⟨ao', cap', rfl, k1, k2⟩ := h.len
  clear h
  have k3 : L.length ≤ 9223372036854775807 := Nat.le_trans k1 (by unfold maxLen at k2; omega)
  go_enter Try.func14, Try.ntmps14
  go_wp2
  go_loopw [7] (fun s W => ∃ (n : Nat), n ≤ min L.length 256 ∧ s = .int .i64 n ∧ Q w W ∧ Hid (Rg.has ((L.take n).filter Rg.mayB) row col = false)) (fun s _ => min L.length 256 - (intOf s).toNat)
  case atStart => exact ⟨0, Nat.zero_le _, rfl, Q.refl _, rfl⟩
  case round =>
    obtain ⟨n, hn, rfl, hq, HZ⟩ := hrel
    have HQ := hid hq
    clear hq
    by_cases hlt : n < min L.length 256
    · have hl1 : n < L.length := by omega
      have hlt' : (n : Int) < (L.length : Int) := by omega
      have hlt2 : (n : Int) < 256 := by omega
      obtain ⟨g, off, cap2, e, _, _, hc⟩ := (HS.out.on HQ.out).at hl1
      cases e
      have HF := hid (has_cnt_succ hl1 row col)
      generalize L[n] = x at *
      obtain ⟨xa, xb, xc, xd⟩ := x
      have c0 : wr.cell? ⟨g, off + n * 4, none⟩ = some (.int .i64 xa) := hc 0 _ rfl
      have c1 : wr.cell? ⟨g, off + n * 4 + 1, none⟩ = some (.int .i64 xb) := hc 1 _ rfl
      have c2 : wr.cell? ⟨g, off + n * 4 + 2, none⟩ = some (.int .i64 xc) := hc 2 _ rfl
      have c3 : wr.cell? ⟨g, off + n * 4 + 3, none⟩ = some (.int .i64 xd) := hc 3 _ rfl
      clear hc
      cases hm : Rg.mayB ⟨xa, xb, xc, xd⟩
      · have HZ2 : Hid (Rg.has ((L.take (n + 1)).filter Rg.mayB) row col = false) := by
          show _ = _
          rw [HF.out, HZ.out, hm]
          simp
        clear HF HZ
        go_wp2_with (go_at_call 10; refine (mayRect_any _ _ _ _ _).mono ?_; rintro e w1 ⟨rfl, rfl⟩)
        go_roundw
        case rel => exact ⟨n + 1, by omega, by go_num, (HQ.out.alloc _).alloc _, HZ2⟩
        case measure => simp [intOf]; omega
      · by_cases a1 : xa ≤ row
        · by_cases a2 : row < xc
          · by_cases a3 : xb ≤ col
            · by_cases a4 : col < xd
              · have HR : Hid (true = Rg.has (Rg.cnted L) row col) := by
                  show _ = _
                  rw [has_of_cnt (n := n + 1) (by omega) (by rw [HF.out, hm, inR_of a1 a2 a3 a4]; simp)]
                clear HF HZ
                go_wp2_with (go_at_call 10; refine (mayRect_any _ _ _ _ _).mono ?_; rintro e w1 ⟨rfl, rfl⟩)
                go_ret
                exact ⟨ret_bool HR.out, (HQ.out.alloc _).alloc _⟩
              · have HZ2 : Hid (Rg.has ((L.take (n + 1)).filter Rg.mayB) row col = false) := by
                  show _ = _
                  rw [HF.out, HZ.out, inR_no (by omega)]
                  simp
                clear HF HZ
                go_wp2_with (go_at_call 10; refine (mayRect_any _ _ _ _ _).mono ?_; rintro e w1 ⟨rfl, rfl⟩)
                go_roundw
                case rel => exact ⟨n + 1, by omega, by go_num, (HQ.out.alloc _).alloc _, HZ2⟩
                case measure => simp [intOf]; omega
            · have HZ2 : Hid (Rg.has ((L.take (n + 1)).filter Rg.mayB) row col = false) := by
                show _ = _
                rw [HF.out, HZ.out, inR_no (by omega)]
                simp
              clear HF HZ
              go_wp2_with (go_at_call 10; refine (mayRect_any _ _ _ _ _).mono ?_; rintro e w1 ⟨rfl, rfl⟩)
              go_roundw
              case rel => exact ⟨n + 1, by omega, by go_num, (HQ.out.alloc _).alloc _, HZ2⟩
              case measure => simp [intOf]; omega
          · have HZ2 : Hid (Rg.has ((L.take (n + 1)).filter Rg.mayB) row col = false) := by
              show _ = _
              rw [HF.out, HZ.out, inR_no (by omega)]
              simp
            clear HF HZ
            go_wp2_with (go_at_call 10; refine (mayRect_any _ _ _ _ _).mono ?_; rintro e w1 ⟨rfl, rfl⟩)
            go_roundw
            case rel => exact ⟨n + 1, by omega, by go_num, (HQ.out.alloc _).alloc _, HZ2⟩
            case measure => simp [intOf]; omega
        · have HZ2 : Hid (Rg.has ((L.take (n + 1)).filter Rg.mayB) row col = false) := by
            show _ = _
            rw [HF.out, HZ.out, inR_no (by omega)]
            simp
          clear HF HZ
          go_wp2_with (go_at_call 10; refine (mayRect_any _ _ _ _ _).mono ?_; rintro e w1 ⟨rfl, rfl⟩)
          go_roundw
          case rel => exact ⟨n + 1, by omega, by go_num, (HQ.out.alloc _).alloc _, HZ2⟩
          case measure => simp [intOf]; omega
    · have HE : Hid (false = Rg.has (Rg.cnted L) row col) := by
        show _ = _
        rw [← HZ.out]
        unfold Rg.cnted
        by_cases h : L.length ≤ 256
        · rw [List.take_of_length_le (show L.length ≤ n by omega), List.take_of_length_le h]
        · rw [show n = 256 by omega]
      clear HZ
      by_cases hl3 : (n : Int) < (L.length : Int)
      · have hl4 : ¬ (n : Int) < 256 := by omega
        go_wp2
        go_ret
        exact ⟨ret_bool HE.out, HQ.out⟩
      · go_wp2
        go_ret
        exact ⟨ret_bool HE.out, HQ.out⟩
end Go.Proofs.Ytkbpdgghnlnakaa
