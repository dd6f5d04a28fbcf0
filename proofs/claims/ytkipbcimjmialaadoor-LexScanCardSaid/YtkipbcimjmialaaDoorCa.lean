/- ref.word of letters and digits, walked: a number. -/
import Derived.Test.YtkipbcimjmialaaDoorBh
import Derived.Test.YtkipbcimjmialaaDoorVN2
import Derived.Test.YtkipbcimjmialaaDoorF5
import Derived.Test.YtkipbcimjmialaaDoorLw
namespace Go.Proofs.YtkipbcimjmialaaDoor
open Go.RowKit
set_option linter.unusedVariables false
set_option linter.unusedSimpArgs false


/-- what ref.word answers -/
def rwv (q : Nat × List UInt8 × Nat) (i : Nat) : Value := .tuple #[.agg #[.int .i64 (q.1 : Int), .string ⟨q.2.1.toArray⟩, .int .i64 (if q.2.2 = 0 then 0 else (i : Int))], .int .i64 (q.2.2 : Int)]
theorem ret_rw {q : Nat × List UInt8 × Nat} {i a n : Nat} {k m : Int} {s : ByteArray} {l : List UInt8} (h : q = (a, l, n)) (hn : n ≠ 0) (hk : k = (a : Int)) (hs : s.data.toList = l) (hm : m = (n : Int)) :
    Ending.returned (.tuple #[.agg #[.int .i64 k, .string s, .int .i64 (i : Int)], .int .i64 m]) = .returned (rwv q i) := by
  subst h hk hm hs
  unfold rwv
  simp only [if_neg hn]
theorem ret_rbad {q : Nat × List UInt8 × Nat} {i : Nat} (h : q = bad) :
    Ending.returned (.tuple #[.agg #[.int .i64 0, .string ⟨#[]⟩, .int .i64 0], .int .i64 0]) = .returned (rwv q i) := by
  subst h
  rfl
/-- the block in which the word is handed back -/
structure WB (w W : World) : Prop where
  q : Q w W
  lt : w.heap.size < W.heap.size
  c0 : W.cell? ⟨w.heap.size, 0, none⟩ = some (.int .i64 0)
  c1 : W.cell? ⟨w.heap.size, 1, none⟩ = some (.string ⟨#[]⟩)
  c2 : W.cell? ⟨w.heap.size, 2, none⟩ = some (.int .i64 0)
  f0 : W.frozen? ⟨w.heap.size, 0, none⟩ = false
  f1 : W.frozen? ⟨w.heap.size, 1, none⟩ = false
  f2 : W.frozen? ⟨w.heap.size, 2, none⟩ = false
theorem WB.start (w : World) : WB w (w.alloc (.cells #[.int .i64 0, .string ⟨#[]⟩, .int .i64 0] 32)) := by
  refine ⟨(Q.refl _).alloc _, by simp, ?_, ?_, ?_, ?_, ?_, ?_⟩
  all_goals simp [World.cell?_alloc_new, World.frozen?_alloc_new]
theorem WB.on {w W W' : World} (h : WB w W) (q : Q W W') : WB w W' :=
  ⟨h.q.trans q, q.lt h.lt, (q.cell h.lt).trans h.c0, (q.cell h.lt).trans h.c1, (q.cell h.lt).trans h.c2,
    (Below.frozen q (p := ⟨w.heap.size, 0, none⟩) h.lt).trans h.f0, (Below.frozen q (p := ⟨w.heap.size, 1, none⟩) h.lt).trans h.f1, (Below.frozen q (p := ⟨w.heap.size, 2, none⟩) h.lt).trans h.f2⟩

/-- a run of bytes from a place on -/
structure RunAt (s : ByteArray) (i M : Nat) (T : ByteArray) : Prop where
  lo : i < M
  le : M ≤ s.size
  eT : s.extract i M = T
  lT : T.data.toList = (s.data.toList.drop i).takeWhile joinB
  zT : T.size = M - i
  yes : ∀ k (h : k < s.size), i ≤ k → k < M → joinB s[k] = true
  no : ∀ (h : M < s.size), joinB s[M] = false
  beh : (s.data.toList.drop i).dropWhile joinB = s.data.toList.drop M
theorem run_at (s : ByteArray) (i : Nat) (h : i < s.size) (hj : joinB s[i] = true) : ∃ M T, RunAt s i M T ∧ M = i + ((s.data.toList.drop i).takeWhile joinB).length := by
  have hl := tw_len (s.data.toList.drop i) joinB
  rw [List.length_drop, len_data] at hl
  have h1 : 0 < ((s.data.toList.drop i).takeWhile joinB).length := by
    rw [drop_cons s i h, List.takeWhile_cons, if_pos hj]; simp
  refine ⟨_, _, ⟨by omega, by omega, rfl, ?_, by simp; omega, fun k hk h2 h3 => ?_, fun hk => ?_, ?_⟩, rfl⟩
  · rw [Lib.extract_data]
    simp only [Nat.add_sub_cancel_left]
    exact tw_take _ _
  · have := tw_in (s.data.toList.drop i) joinB (k - i) (by omega) (by rw [List.length_drop, len_data]; omega)
    rw [List.getElem_drop] at this
    have e : i + (k - i) = k := by omega
    simp only [e] at this
    exact this
  · have := tw_out (s.data.toList.drop i) joinB (by rw [List.length_drop, len_data]; omega)
    rw [List.getElem_drop] at this
    exact this
  · rw [← tw_drop, List.drop_drop]

theorem pk_pos {t : List UInt8} (h : Lib.hasPrefix t [45] = false) : 0 ≤ V.pk (V.parseO t) := by
  unfold V.parseO
  rw [h]
  split
  · unfold V.pk V.keep
    simp only
    split
    · unfold V.sgn
      simp
    · exact Int.le_refl _
  · exact Int.le_refl _
theorem no_minus (T : ByteArray) (hp : 0 < T.size) (h : T[0] ≠ 45) : Lib.hasPrefix T.data.toList [45] = false := by
  have := headD_get T hp
  cases hl : T.data.toList with
  | nil => rfl
  | cons c r =>
    rw [hl] at this
    simp only [List.headD_cons] at this
    rw [← this] at h
    rw [Bool.eq_false_iff]
    intro hx
    unfold Lib.hasPrefix at hx
    rw [List.isPrefixOf_iff_prefix, List.cons_prefix_cons] at hx
    exact h hx.1.symm

set_option maxRecDepth 100000 in
set_option maxHeartbeats 4000000 in
theorem rword_num (s T : ByteArray) (i M : Nat) (w : World) (hs : s.size ≤ 100000) (hi : i < s.size) (hr : RunAt s i M T) (hj : joinB s[i] = true)
    (hT0 : 0 < T.size) (pn : Int) (HP : Hid (∀ W, Calls Tryd.prog 18 #[.string T] W fun e w' => e = .returned (.tuple #[.int .i64 pn, .bool true]) ∧ Q W w')) (pn0 : 0 ≤ pn) (h45 : ((T[0].toNat : Int) == 45) = false)
    (HF : Hid (wordF (s.data.toList.drop i) = (1, T.data.toList, M - i))) :
    Calls Tryd.prog 11 #[.string s, .int .i64 (i : Int)] w fun e w' => e = .returned (rwv (wordF (s.data.toList.drop i)) i) ∧ Q w w' := by
  obtain ⟨lo, le, eT, lT, zT, yes, no, beh⟩ := hr
  have HY := hid yes
  have HN := hid no
  have HJ0 := hid (fun W => solid_any s[i] W)
  rw [hj] at HJ0
  have JJ := hid (WB.start w)
  clear yes no lT beh hj
  have hMi : (i : Int) ≤ (M : Int) := by omega
  have hMs : (M : Int) ≤ (s.size : Int) := by omega
  generalize wordF (s.data.toList.drop i) = wf at HF ⊢
  go_enter Tryd.func11, Tryd.ntmps11
  go_wp2_with (go_at_call 17; refine (HJ0.out _).mono ?_; rintro e w9 ⟨rfl, h9⟩; replace h9 := h9.symm; subst h9)
  go_loop [6] (fun x => ∃ k : Nat, i ≤ k ∧ k ≤ M ∧ x = .int .i64 (k : Int)) (fun x => s.size - (intOf x).toNat)
  case atStart => exact ⟨i, by omega, by omega, rfl⟩
  case round =>
    obtain ⟨k, hk0, hk, rfl⟩ := hrel
    by_cases hlt : k < M
    · have hks : k < s.size := by omega
      have HJ := hid (fun W => solid_any s[k] W)
      rw [HY.out k hks hk0 hlt] at HJ
      go_wp2_with (go_at_call 17; refine (HJ.out _).mono ?_; rintro e w9 ⟨rfl, h9⟩; replace h9 := h9.symm; subst h9)
      go_round
      case rel => exact ⟨k + 1, by omega, by omega, by go_num⟩
      case measure => simp [intOf]; omega
    · have e : k = M := by omega
      subst e
      clear hk hlt
      by_cases hend : k < s.size
      · have HJ := hid (fun W => solid_any s[k] W)
        rw [HN.out hend] at HJ
        go_wp2_with (first | (go_at_call 17; refine (HJ.out _).mono ?_; rintro e w9 ⟨rfl, h9⟩; replace h9 := h9.symm; subst h9) | (go_at_call 18; refine (HP.out _).mono ?_; rintro e w1 ⟨rfl, q1⟩; have J1 := hid (JJ.out.on q1); clear q1; have d0 := J1.out.c0; have d1 := J1.out.c1; have d2 := J1.out.c2; have g0 := J1.out.f0; have g1 := J1.out.f1; have g2 := J1.out.f2))
        refine bodyPost_ret (v := .tuple #[.agg #[.int .i64 1, .string T, .int .i64 (i : Int)], .int .i64 ((k : Int) - (i : Int))]) (by simp [results, Tryd.results11, go_sem, d0, d1, d2, g0, g1, g2]) rfl ⟨ret_rw HF.out (by omega) rfl rfl (by omega), ?_⟩
        repeat' (first | with_reducible exact J1.out.q | with_reducible refine Q.setCell ?_ (Nat.le_refl _) _ | with_reducible refine Q.drewN ?_ _ | with_reducible refine Q.drew ?_ | with_reducible refine Q.alloc ?_ _)
      · go_wp2_with (first | (go_at_call 18; refine (HP.out _).mono ?_; rintro e w1 ⟨rfl, q1⟩; have J1 := hid (JJ.out.on q1); clear q1; have d0 := J1.out.c0; have d1 := J1.out.c1; have d2 := J1.out.c2; have g0 := J1.out.f0; have g1 := J1.out.f1; have g2 := J1.out.f2))
        refine bodyPost_ret (v := .tuple #[.agg #[.int .i64 1, .string T, .int .i64 (i : Int)], .int .i64 ((k : Int) - (i : Int))]) (by simp [results, Tryd.results11, go_sem, d0, d1, d2, g0, g1, g2]) rfl ⟨ret_rw HF.out (by omega) rfl rfl (by omega), ?_⟩
        repeat' (first | with_reducible exact J1.out.q | with_reducible refine Q.setCell ?_ (Nat.le_refl _) _ | with_reducible refine Q.drewN ?_ _ | with_reducible refine Q.drew ?_ | with_reducible refine Q.alloc ?_ _)
end Go.Proofs.YtkipbcimjmialaaDoor
