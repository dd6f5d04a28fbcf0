/- The reference: those of a list that count. -/
import Derived.Test.YtkbpdgghnlnakaaB
namespace Go.Proofs.Ytkbpdgghnlnakaa
open Go.RowKit
set_option linter.unusedVariables false
set_option linter.unusedSimpArgs false

set_option maxRecDepth 100000 in
set_option maxHeartbeats 2000000 in
theorem some_any (v : Value) (L : List Rg.Rc) (w : World) (h : Sl rc 4 w v L) : Calls Try.prog 23 #[v] w fun e w' => ∃ v', e = .returned v' ∧ Own rc 28 4 w.heap.size w' v' (Rg.cnted L) ∧ Q w w' := by
  obtain ⟨i0, HI⟩ := inf_of info28
  have HI := hid HI
  have HS := hid h
  obtain ⟨ao, cap, rfl, h1, h2⟩ := h.len
  clear h
  have h3 : L.length ≤ 9223372036854775807 := Nat.le_trans h1 (by unfold maxLen at h2; omega)
  go_enter Try.func23, Try.ntmps23
  go_wp2
  go_loopw [3, 4] (fun o s W => ∃ (n : Nat), n ≤ min L.length 256 ∧ s = .int .i64 n ∧ Own rc 28 4 w.heap.size W o ((L.take n).filter Rg.mayB) ∧ Q w W) (fun _ s _ => min L.length 256 - (intOf s).toNat)
  case atStart => exact ⟨0, Nat.zero_le _, rfl, own_eq (own_nil _) (by simp), Q.refl _⟩
  case round =>
    obtain ⟨n, hn, rfl, hown, hq⟩ := hrel
    have HOW := hid hown
    have HQ := hid hq
    clear hown hq
    by_cases hlt : n < min L.length 256
    · have hl1 : n < L.length := by omega
      have hlt' : (n : Int) < (L.length : Int) := by omega
      have hlt2 : (n : Int) < 256 := by omega
      obtain ⟨g, off, cap', e, _, _, hc⟩ := (HS.out.on HQ.out).at hl1
      cases e
      have HF := hid (take_filter_succ hl1)
      have HL := hid (filter_take_len L n)
      generalize L[n] = x at *
      obtain ⟨xa, xb, xc, xd⟩ := x
      have c0 : wr.cell? ⟨g, off + n * 4, none⟩ = some (.int .i64 xa) := hc 0 _ rfl
      have c1 : wr.cell? ⟨g, off + n * 4 + 1, none⟩ = some (.int .i64 xb) := hc 1 _ rfl
      have c2 : wr.cell? ⟨g, off + n * 4 + 2, none⟩ = some (.int .i64 xc) := hc 2 _ rfl
      have c3 : wr.cell? ⟨g, off + n * 4 + 3, none⟩ = some (.int .i64 xd) := hc 3 _ rfl
      have zg : g < wr.heap.size := World.block_lt_of_cell? wr ⟨g, off + n * 4, none⟩ c0
      clear hc
      cases hm : Rg.mayB ⟨xa, xb, xc, xd⟩
      · rw [hm] at HF
        simp only [Bool.false_eq_true, if_false, List.append_nil] at HF
        go_wp2_with (go_at_call 10; refine (mayRect_any _ _ _ _ _).mono ?_; rintro e w1 ⟨rfl, rfl⟩)
        go_roundw
        case rel => exact ⟨n + 1, by omega, by go_num, own_eq (HOW.out.alloc _) HF.out.symm, HQ.out.alloc _⟩
        case measure => simp [intOf]; omega
      · rw [hm] at HF
        simp only [if_true] at HF
        go_wp2_with (first
          | (go_at_call 10; refine (mayRect_any _ _ _ _ _).mono ?_; rintro e w1 ⟨rfl, rfl⟩)
          | (at_builtin; refine wpList_append_own _ rfl _ _ 22 rfl w.heap.size 28 i0 (.agg #[.int .i64 0, .int .i64 0, .int .i64 0, .int .i64 0]) 4 32 Try.underlying22 HI.out.1 HI.out.2.1 HI.out.2.2.1 HI.out.2.2.2 rfl (by decide) _ _ _ rfl ((HOW.out.alloc _).alloc _) _ 1 1 [.int .i64 xa, .int .i64 xb, .int .i64 xc, .int .i64 xd] rfl rfl ?c1 ?c2 ?c3 ?c4 ?c5 ?_))
        case c1 => exact news_at _ [.int .i64 xa, .int .i64 xb, .int .i64 xc, .int .i64 xd] 28 _ (by simp)
        case c2 => exact rc_one ⟨xa, xb, xc, xd⟩
        case c3 => unfold maxLen; have := HL.out; omega
        case c4 => have := HL.out; omega
        case c5 => have := HQ.out.size; simp; omega
        · intro v' w3 hown' hgrow _
          have HO2 : Hid (Own rc 28 4 w.heap.size w3 v' ((L.take (n + 1)).filter Rg.mayB)) := own_eq (own_snoc (enc := rc) (x := ⟨xa, xb, xc, xd⟩) hown') HF.out.symm
          have HQ2 : Hid (Q w w3) := Below.grown ((HQ.out.alloc _).alloc _) hgrow (by have := HQ.out.size; simp; omega) (HOW.out.blk)
          clear hown' hgrow HOW HQ HF HL
          go_wp2
          go_roundw
          case rel => exact ⟨n + 1, by omega, by go_num, HO2.out, HQ2.out⟩
          case measure => simp [intOf]; omega
    · have HE : Hid ((L.take n).filter Rg.mayB = Rg.cnted L) := by
        show _ = _
        unfold Rg.cnted
        by_cases h : L.length ≤ 256
        · rw [List.take_of_length_le (show L.length ≤ n by omega), List.take_of_length_le h]
        · rw [show n = 256 by omega]
      by_cases hl3 : (n : Int) < (L.length : Int)
      · have hl4 : ¬ (n : Int) < 256 := by omega
        go_wp2
        go_ret
        exact ⟨_, rfl, own_eq HOW.out HE.out, HQ.out⟩
      · go_wp2
        go_ret
        exact ⟨_, rfl, own_eq HOW.out HE.out, HQ.out⟩
end Go.Proofs.Ytkbpdgghnlnakaa
