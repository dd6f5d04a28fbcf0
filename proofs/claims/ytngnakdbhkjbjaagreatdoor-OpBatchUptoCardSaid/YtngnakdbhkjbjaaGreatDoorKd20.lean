/- Is a cell in one of some recta. -/
import Derived.Test.YtngnakdbhkjbjaaGreatDoorKd04
set_option linter.unusedVariables false
set_option linter.unusedSimpArgs false
set_option maxRecDepth 100000
set_option maxHeartbeats 8000000
namespace Go.Proofs.YtngnakdbhkjbjaaGreatDoor.R
open Go.RowKit
theorem has_take_succ {L : List Rg.Rc} {n : Nat} (h : n < L.length) (r c : Int) : Rg.has (L.take (n + 1)) r c = (Rg.has (L.take n) r c || Rg.inR L[n] r c) := by
  rw [List.take_succ_eq_append_getElem h, Rg.has_append]
  simp [Rg.has]
theorem has_of_take {L : List Rg.Rc} {n : Nat} {r c : Int} (h : Rg.has (L.take n) r c = true) : Rg.has L r c = true := by
  obtain ⟨x, hx, hi⟩ := Rg.has_iff.1 h
  exact Rg.has_iff.2 ⟨x, List.mem_of_mem_take hx, hi⟩
theorem inR_of {a b c d r k : Int} (h1 : a ≤ r) (h2 : r < c) (h3 : b ≤ k) (h4 : k < d) : Rg.inR ⟨a, b, c, d⟩ r k = true := by
  unfold Rg.inR Rg.act; simp [h1, h2, h3, h4]
theorem inR_no {a b c d r k : Int} (h : ¬ (a ≤ r ∧ r < c ∧ b ≤ k ∧ k < d)) : Rg.inR ⟨a, b, c, d⟩ r k = false := by
  unfold Rg.inR Rg.act
  rw [Bool.and_eq_false_iff, decide_eq_false_iff_not, decide_eq_false_iff_not]
  simp only
  omega
set_option maxHeartbeats 2000000 in
theorem in_any (v : Value) (L : List Rg.Rc) (row col : Int) (w : World) (h : Sl rc 4 w v L) : Calls Tryz.prog 73 #[v, .int .i64 row, .int .i64 col] w fun e w' => e = .returned (.bool (Rg.has L row col)) ∧ Q w w' := by
  have HS := hid h
  obtain ⟨ao', cap', rfl, k1, k2⟩ := h.len
  clear h
  have k3 : L.length ≤ 9223372036854775807 := Nat.le_trans k1 (by unfold maxLen at k2; omega)
  go_enter Tryz.func73, Tryz.ntmps73
  go_wp2
  go_loopw [7] (fun s W => ∃ (n : Nat), n ≤ L.length ∧ s = .int .i64 n ∧ Q w W ∧ Hid (Rg.has (L.take n) row col = false)) (fun s _ => L.length - (intOf s).toNat)
  case atStart => exact ⟨0, Nat.zero_le _, rfl, Q.refl _, rfl⟩
  case round =>
    obtain ⟨n, hn, rfl, hq, HZ⟩ := hrel
    have HQ := hid hq
    clear hq
    by_cases hlt : n < L.length
    · have hlt' : (n : Int) < (L.length : Int) := by omega
      obtain ⟨g, off, cap2, e, _, _, hc⟩ := (HS.out.on HQ.out).at hlt
      cases e
      have HF := hid (has_take_succ hlt row col)
      generalize L[n] = x at *
      obtain ⟨xa, xb, xc, xd⟩ := x
      have c0 : wr.cell? ⟨g, off + n * 4, none⟩ = some (.int .i64 xa) := hc 0 _ rfl
      have c1 : wr.cell? ⟨g, off + n * 4 + 1, none⟩ = some (.int .i64 xb) := hc 1 _ rfl
      have c2 : wr.cell? ⟨g, off + n * 4 + 2, none⟩ = some (.int .i64 xc) := hc 2 _ rfl
      have c3 : wr.cell? ⟨g, off + n * 4 + 3, none⟩ = some (.int .i64 xd) := hc 3 _ rfl
      clear hc
      by_cases a1 : xa ≤ row
      · by_cases a2 : row < xc
        · by_cases a3 : xb ≤ col
          · by_cases a4 : col < xd
            · have HR : Hid (true = Rg.has L row col) := by
                show _ = _
                rw [has_of_take (n := n + 1) (by rw [HF.out, inR_of a1 a2 a3 a4]; simp)]
              clear HF HZ
              go_wp2
              go_ret
              exact ⟨ret_bool HR.out, HQ.out.alloc _⟩
            · have HZ2 : Hid (Rg.has (L.take (n + 1)) row col = false) := by
                show _ = _
                rw [HF.out, HZ.out, inR_no (by omega)]
                rfl
              clear HF HZ
              go_wp2
              go_roundw
              case rel => exact ⟨n + 1, by omega, by go_num, HQ.out.alloc _, HZ2⟩
              case measure => simp [intOf]; omega
          · have HZ2 : Hid (Rg.has (L.take (n + 1)) row col = false) := by
              show _ = _
              rw [HF.out, HZ.out, inR_no (by omega)]
              rfl
            clear HF HZ
            go_wp2
            go_roundw
            case rel => exact ⟨n + 1, by omega, by go_num, HQ.out.alloc _, HZ2⟩
            case measure => simp [intOf]; omega
        · have HZ2 : Hid (Rg.has (L.take (n + 1)) row col = false) := by
            show _ = _
            rw [HF.out, HZ.out, inR_no (by omega)]
            rfl
          clear HF HZ
          go_wp2
          go_roundw
          case rel => exact ⟨n + 1, by omega, by go_num, HQ.out.alloc _, HZ2⟩
          case measure => simp [intOf]; omega
      · have HZ2 : Hid (Rg.has (L.take (n + 1)) row col = false) := by
          show _ = _
          rw [HF.out, HZ.out, inR_no (by omega)]
          rfl
        clear HF HZ
        go_wp2
        go_roundw
        case rel => exact ⟨n + 1, by omega, by go_num, HQ.out.alloc _, HZ2⟩
        case measure => simp [intOf]; omega
    · have hlt' : ¬ (n : Int) < (L.length : Int) := by omega
      have HR : Hid (false = Rg.has L row col) := by
        show _ = _
        rw [← HZ.out, List.take_of_length_le (by omega)]
      clear HZ
      go_wp2
      go_ret
      exact ⟨ret_bool HR.out, HQ.out⟩
end Go.Proofs.YtngnakdbhkjbjaaGreatDoor.R
