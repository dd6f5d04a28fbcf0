/- The law FrameBig, walked. -/
import Derived.Test.YtcefpjjefokjjaaDoorFh
namespace Go.Proofs.YtcefpjjefokjjaaDoor
open Go.RowKit
set_option linter.unusedVariables false
set_option linter.unusedSimpArgs false

theorem mk_any (n : Nat) (hn : n ≤ 10000000) (W : World) : ∃ W1 L, L.length = n ∧ (Instr.makeSlice 23 (.int .i64 (n : Int)) (.int .i64 (n : Int))).run Tryd.prog W = .ok (.slice (some ⟨W.heap.size, 0, none⟩) n n) W1 ∧ Sb W1 (.slice (some ⟨W.heap.size, 0, none⟩) n n) L ∧ Q W W1 := by
  obtain ⟨i0, hi, hz0, hz1, hz2⟩ := inf_of info5
  obtain ⟨W1, h1, h2, h3⟩ := run_make_full (P := Tryd.prog) W W.heap.size 23 5 i0 (.int .u8 0) 1 Tryd.underlying23 hi hz0 hz1 .i64 .i64 n (by rw [hz2]; omega) (by unfold maxLen; omega) (Nat.le_refl _)
  refine ⟨W1, List.replicate n 0, by simp, h1, own_sb (e := 5) (B := W.heap.size) ?_, (Below.refl _ W).grown h3 (Nat.le_refl _) (fun k hk => by cases hk)⟩
  have e : (madeCells (Value.int .u8 0).cells (n * 1)).toList = flat eb (List.replicate n 0) := by
    show (madeCells #[Value.int .u8 0] (n * 1)).toList = _
    rw [toList_madeCells_one, flat_eb, Nat.mul_one]
    unfold bc
    rw [List.map_replicate]
    rfl
  rw [e] at h2
  unfold Own
  rw [List.length_replicate]
  exact h2
set_option maxRecDepth 100000 in
set_option maxHeartbeats 4000000 in
theorem big_any (w : World) (ht : Tab w) : Calls Tryd.prog 5 #[] w fun e W' => e = .returned (.bool true) ∧ Q w W' := by
  have HT := hid ht
  have HB := hid (begun_any w ht)
  clear ht
  go_enter Tryd.func5, Tryd.ntmps5
  go_wp2_with (first
    | (go_at_call 6; refine HB.out.mono ?_; rintro e9 w1 ⟨rfl, hq9⟩; have HQ1 : Hid (Q w w1) := hid hq9; clear hq9; obtain ⟨W1, L1, hl1, hm1, hs1, hq1⟩ := mk_any 4194305 (by omega) w1; have HQ2 := hid (HQ1.out.trans hq1); have m1 : (Instr.makeSlice 23 (.int .i64 4194305) (.int .i64 4194305)).run Tryd.prog w1 = .ok (.slice (some ⟨w1.heap.size, 0, none⟩) 4194305 4194305) W1 := hm1; have HL := hid (frame_long _ L1 W1 hs1 (by omega)); obtain ⟨W2, L2, hl2, hm2, hs2, hq2⟩ := mk_any 4194304 (by omega) W1; have HQ3 := hid (HQ2.out.trans hq2); have m2 : (Instr.makeSlice 23 (.int .i64 4194304) (.int .i64 4194304)).run Tryd.prog W1 = .ok (.slice (some ⟨W1.heap.size, 0, none⟩) 4194304 4194304) W2 := hm2; have HF := hid (frame_any _ L2 W2 (HT.out.on HQ3.out) hs2 (by omega)); have HN : Hid ((frm L2).length = 4194312) := hid (by rw [frm_len]; omega); clear hm1 hs1 hq1 hm2 hs2 hq2 hl1 hl2)
    | (go_at_call 8; with_reducible refine HL.out.mono ?_; rintro e9 w2 ⟨rfl, rfl⟩)
    | (go_at_call 8; with_reducible refine HF.out.mono ?_; rintro e9 w3 ⟨v3, rfl, ho9, hq9⟩; have HQ4 : Hid (Q w w3) := hid (HQ3.out.trans hq9); obtain ⟨a3, c3, rfl, _, _⟩ := (own_sb (e := 5) ho9).s.len; clear ho9 hq9; have hlen := HN.out; generalize (frm L2).length = n3 at hlen; subst hlen))
  go_ret
  exact ⟨rfl, HQ4.out⟩
end Go.Proofs.YtcefpjjefokjjaaDoor
