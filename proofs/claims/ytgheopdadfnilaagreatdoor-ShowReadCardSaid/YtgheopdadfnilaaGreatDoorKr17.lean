/- ref.word of letters and digits, walked: a number; P.first of the reference, walked: texts, numbers. -/
import Derived.Test.YtgheopdadfnilaaGreatDoorKr12
import Derived.Test.YtgheopdadfnilaaGreatDoorKr15
import Derived.Test.YtgheopdadfnilaaGreatDoorKr16
import Derived.Test.YtgheopdadfnilaaGreatDoorKr08
import Derived.Deep.RegionHeld3
set_option linter.unusedVariables false
set_option linter.unusedSimpArgs false
set_option maxRecDepth 100000
namespace Go.Proofs.YtgheopdadfnilaaGreatDoor
open Go.RowKit
def rwv (q : Nat × List UInt8 × Nat) (i : Nat) : Value := .tuple #[.agg #[.int .i64 (q.1 : Int), .string ⟨q.2.1.toArray⟩, .int .i64 (if q.2.2 = 0 then 0 else (i : Int))], .int .i64 (q.2.2 : Int)]
theorem ret_rw {q : Nat × List UInt8 × Nat} {i a n : Nat} {k m : Int} {s : ByteArray} {l : List UInt8} (h : q = (a, l, n)) (hn : n ≠ 0) (hk : k = (a : Int)) (hs : s.data.toList = l) (hm : m = (n : Int)) :
    Ending.returned (.tuple #[.agg #[.int .i64 k, .string s, .int .i64 (i : Int)], .int .i64 m]) = .returned (rwv q i) := by
  subst h hk hm hs
  unfold rwv
  simp only [if_neg hn]
theorem ret_rbad {q : Nat × List UInt8 × Nat} {i : Nat} (h : q = bad) :
    Ending.returned (.tuple #[.agg #[.int .i64 0, .string ⟨#[]⟩, .int .i64 0], .int .i64 0]) = .returned (rwv q i) := by
  subst h
  rfl
structure WB (w W : World) : Prop where
  q : Q w W
  lt : w.heap.size < W.heap.size
  c0 : W.cell? ⟨w.heap.size, 0, none⟩ = some (.int .i64 0)
  c1 : W.cell? ⟨w.heap.size, 1, none⟩ = some (.string ⟨#[]⟩)
  c2 : W.cell? ⟨w.heap.size, 2, none⟩ = some (.int .i64 0)
  f0 : W.frozen? ⟨w.heap.size, 0, none⟩ = false
  f1 : W.frozen? ⟨w.heap.size, 1, none⟩ = false
  f2 : W.frozen? ⟨w.heap.size, 2, none⟩ = false
theorem WB.start (w : World) : WB w (w.alloc (.cells #[.int .i64 0, .string ⟨#[]⟩, .int .i64 0] 74)) := by
  refine ⟨(Q.refl _).alloc _, by simp, ?_, ?_, ?_, ?_, ?_, ?_⟩
  all_goals simp [World.cell?_alloc_new, World.frozen?_alloc_new]
theorem WB.on {w W W' : World} (h : WB w W) (q : Q W W') : WB w W' :=
  ⟨h.q.trans q, q.lt h.lt, (q.cell h.lt).trans h.c0, (q.cell h.lt).trans h.c1, (q.cell h.lt).trans h.c2,
    (Below.frozen q (p := ⟨w.heap.size, 0, none⟩) h.lt).trans h.f0, (Below.frozen q (p := ⟨w.heap.size, 1, none⟩) h.lt).trans h.f1, (Below.frozen q (p := ⟨w.heap.size, 2, none⟩) h.lt).trans h.f2⟩
structure RunAt (s : ByteArray) (i M : Nat) (T : ByteArray) : Prop where
  lo : i < M
  le : M ≤ s.size
  eT : s.extract i M = T
  lT : T.data.toList = (s.data.toList.drop i).takeWhile joinB
  zT : T.size = M - i
  yes : ∀ k (h : k < s.size), i ≤ k → k < M → joinB s[k] = true
  no : ∀ (h : M < s.size), joinB s[M] = false
  beh : (s.data.toList.drop i).dropWhile joinB = s.data.toList.drop M
theorem run_at (s : ByteArray) (i : Nat) (h : i < s.size) (hj : joinB s[i] = true) : ∃ M T, RunAt s i M T ∧ M = i + ((s.data.toList.drop i).takeWhile joinB).length := by
  have hl := tw_len (s.data.toList.drop i) joinB
  rw [List.length_drop, len_data] at hl
  have h1 : 0 < ((s.data.toList.drop i).takeWhile joinB).length := by
    rw [drop_cons s i h, List.takeWhile_cons, if_pos hj]; simp
  refine ⟨_, _, ⟨by omega, by omega, rfl, ?_, by simp; omega, fun k hk h2 h3 => ?_, fun hk => ?_, ?_⟩, rfl⟩
  · rw [Lib.extract_data]
    simp only [Nat.add_sub_cancel_left]
    exact tw_take _ _
  · have := tw_in (s.data.toList.drop i) joinB (k - i) (by omega) (by rw [List.length_drop, len_data]; omega)
    rw [List.getElem_drop] at this
    have e : i + (k - i) = k := by omega
    simp only [e] at this
    exact this
  · have := tw_out (s.data.toList.drop i) joinB (by rw [List.length_drop, len_data]; omega)
    rw [List.getElem_drop] at this
    exact this
  · rw [← tw_drop, List.drop_drop]
theorem pk_pos {t : List UInt8} (h : Lib.hasPrefix t [45] = false) : 0 ≤ V.pk (V.parseO t) := by
  unfold V.parseO
  rw [h]
  split
  · unfold V.pk V.keep
    simp only
    split
    · unfold V.sgn
      simp
    · exact Int.le_refl _
  · exact Int.le_refl _
theorem no_minus (T : ByteArray) (hp : 0 < T.size) (h : T[0] ≠ 45) : Lib.hasPrefix T.data.toList [45] = false := by
  have := headD_get T hp
  cases hl : T.data.toList with
  | nil => rfl
  | cons c r =>
    rw [hl] at this
    simp only [List.headD_cons] at this
    rw [← this] at h
    rw [Bool.eq_false_iff]
    intro hx
    unfold Lib.hasPrefix at hx
    rw [List.isPrefixOf_iff_prefix, List.cons_prefix_cons] at hx
    exact h hx.1.symm
set_option maxHeartbeats 4000000 in
theorem rword_num (s T : ByteArray) (i M : Nat) (w : World) (hs : s.size ≤ 100000) (hi : i < s.size) (hr : RunAt s i M T) (hj : joinB s[i] = true)
    (hT0 : 0 < T.size) (pn : Int) (HP : Hid (∀ W, Calls Tryz.prog 44 #[.string T] W fun e w' => e = .returned (.tuple #[.int .i64 pn, .bool true]) ∧ Q W w')) (pn0 : 0 ≤ pn) (h45 : ((T[0].toNat : Int) == 45) = false)
    (HF : Hid (wordF (s.data.toList.drop i) = (1, T.data.toList, M - i))) :
    Calls Tryz.prog 72 #[.string s, .int .i64 (i : Int)] w fun e w' => e = .returned (rwv (wordF (s.data.toList.drop i)) i) ∧ Q w w' := by
  obtain ⟨lo, le, eT, lT, zT, yes, no, beh⟩ := hr
  have HY := hid yes
  have HN := hid no
  have HJ0 := hid (fun W => solid_any s[i] W)
  rw [hj] at HJ0
  have JJ := hid (WB.start w)
  clear yes no lT beh hj
  have hMi : (i : Int) ≤ (M : Int) := by omega
  have hMs : (M : Int) ≤ (s.size : Int) := by omega
  generalize wordF (s.data.toList.drop i) = wf at HF ⊢
  go_enter Tryz.func72, Tryz.ntmps72
  go_wp2_with (go_at_call 102; refine (HJ0.out _).mono ?_; rintro e w9 ⟨rfl, h9⟩; replace h9 := h9.symm; subst h9)
  go_loop [6] (fun x => ∃ k : Nat, i ≤ k ∧ k ≤ M ∧ x = .int .i64 (k : Int)) (fun x => s.size - (intOf x).toNat)
  case atStart => exact ⟨i, by omega, by omega, rfl⟩
  case round =>
    obtain ⟨k, hk0, hk, rfl⟩ := hrel
    by_cases hlt : k < M
    · have hks : k < s.size := by omega
      have HJ := hid (fun W => solid_any s[k] W)
      rw [HY.out k hks hk0 hlt] at HJ
      go_wp2_with (go_at_call 102; refine (HJ.out _).mono ?_; rintro e w9 ⟨rfl, h9⟩; replace h9 := h9.symm; subst h9)
      go_round
      case rel => exact ⟨k + 1, by omega, by omega, by go_num⟩
      case measure => simp [intOf]; omega
    · have e : k = M := by omega
      subst e
      clear hk hlt
      by_cases hend : k < s.size
      · have HJ := hid (fun W => solid_any s[k] W)
        rw [HN.out hend] at HJ
        go_wp2_with (first | (go_at_call 102; refine (HJ.out _).mono ?_; rintro e w9 ⟨rfl, h9⟩; replace h9 := h9.symm; subst h9) | (go_at_call 44; refine (HP.out _).mono ?_; rintro e w1 ⟨rfl, q1⟩; have J1 := hid (JJ.out.on q1); clear q1; have d0 := J1.out.c0; have d1 := J1.out.c1; have d2 := J1.out.c2; have g0 := J1.out.f0; have g1 := J1.out.f1; have g2 := J1.out.f2))
        refine bodyPost_ret (v := .tuple #[.agg #[.int .i64 1, .string T, .int .i64 (i : Int)], .int .i64 ((k : Int) - (i : Int))]) (by simp [results, Tryz.results72, go_sem, d0, d1, d2, g0, g1, g2]) rfl ⟨ret_rw HF.out (by omega) rfl rfl (by omega), ?_⟩
        repeat' (first | with_reducible exact J1.out.q | with_reducible refine Q.setCell ?_ (Nat.le_refl _) _ | with_reducible refine Q.drewN ?_ _ | with_reducible refine Q.drew ?_ | with_reducible refine Q.alloc ?_ _)
      · go_wp2_with (first | (go_at_call 44; refine (HP.out _).mono ?_; rintro e w1 ⟨rfl, q1⟩; have J1 := hid (JJ.out.on q1); clear q1; have d0 := J1.out.c0; have d1 := J1.out.c1; have d2 := J1.out.c2; have g0 := J1.out.f0; have g1 := J1.out.f1; have g2 := J1.out.f2))
        refine bodyPost_ret (v := .tuple #[.agg #[.int .i64 1, .string T, .int .i64 (i : Int)], .int .i64 ((k : Int) - (i : Int))]) (by simp [results, Tryz.results72, go_sem, d0, d1, d2, g0, g1, g2]) rfl ⟨ret_rw HF.out (by omega) rfl rfl (by omega), ?_⟩
        repeat' (first | with_reducible exact J1.out.q | with_reducible refine Q.setCell ?_ (Nat.le_refl _) _ | with_reducible refine Q.drewN ?_ _ | with_reducible refine Q.drew ?_ | with_reducible refine Q.alloc ?_ _)
def errN (t : List UInt8) : Nat := if t = enL 1 then 1 else if t = enL 2 then 2 else if t = enL 3 then 3 else if t = enL 4 then 4 else if t = enL 5 then 5 else if t = enL 6 then 6 else if t = enL 7 then 7 else 0
def namF (t : List UInt8) : Bool := decide (0 < t.length) && (decide (t.length ≤ 20) && (decide (¬ (t = truW ∨ t = flsW)) && t.all let1))
def EE : Env := { num := fun t => V.pk (V.parseO t), nok := fun t => V.pf (V.parseO t), ref := refT, rok := refF, err := errN, nam := namF }
def KW (W : World) (p n b off cap i : Nat) (k : Int) (T : ByteArray) (q : Int) : Prop := W.cell? ⟨p, 0, none⟩ = some (.slice (some ⟨b, off, none⟩) n cap) ∧ W.cell? ⟨p, 1, none⟩ = some (.int .i64 (i : Int)) ∧ W.cell? ⟨b, off + i * 3, none⟩ = some (.int .i64 k) ∧ W.cell? ⟨b, off + i * 3 + 1, none⟩ = some (.string T) ∧ W.cell? ⟨b, off + i * 3 + 2, none⟩ = some (.int .i64 q)
theorem KW.on {W W' : World} {p n b off cap i : Nat} {k : Int} {T : ByteArray} {q : Int} (h : KW W p n b off cap i k T q) (x : Q W W') : KW W' p n b off cap i k T q :=
  ⟨(x.cell (World.block_lt_of_cell? W ⟨p, 0, none⟩ h.1)).trans h.1, (x.cell (World.block_lt_of_cell? W ⟨p, 1, none⟩ h.2.1)).trans h.2.1, (x.cell (World.block_lt_of_cell? W ⟨b, off + i * 3, none⟩ h.2.2.1)).trans h.2.2.1, (x.cell (World.block_lt_of_cell? W ⟨b, off + i * 3 + 1, none⟩ h.2.2.2.1)).trans h.2.2.2.1, (x.cell (World.block_lt_of_cell? W ⟨b, off + i * 3 + 2, none⟩ h.2.2.2.2)).trans h.2.2.2.2⟩
theorem PS.kw {W : World} {p : Nat} {L : List Wd} {b off cap i : Nat} {bd : Bool} {n : Nat} (h : PS W p L b off cap i bd n) (hi : i < L.length) : ∃ (T : ByteArray) (q : Int), T.data.toList = tAt L i ∧ KW W p L.length b off cap i (kAt L i : Int) T q := by
  have hk := kAt_get hi
  refine ⟨⟨L[i].t.toArray⟩, (L[i].p : Int), hk.2.symm, h.c0, h.c1, ?_, h.sw.t i hi, h.sw.p i hi⟩
  rw [hk.1]
  exact h.sw.k i hi
structure Wb (W : World) (q : Nat) (c0 c1 c2 : Value) : Prop where
  g0 : W.cell? ⟨q, 0, none⟩ = some c0
  g1 : W.cell? ⟨q, 1, none⟩ = some c1
  g2 : W.cell? ⟨q, 2, none⟩ = some c2
theorem wb_new (W : World) (c0 c1 c2 : Value) (t : TypeId) : Wb (W.alloc (.cells #[c0, c1, c2] t)) W.heap.size c0 c1 c2 := by
  refine ⟨?_, ?_, ?_⟩
  all_goals simp [World.cell?_alloc_new]
theorem Wb.on {p : Nat} {W W' : World} {q : Nat} {c0 c1 c2 : Value} (h : Wb W q c0 c1 c2) (x : Qx p W W') (hq : q ≠ p) : Wb W' q c0 c1 c2 := by
  have hl : q < W.heap.size := World.block_lt_of_cell? W ⟨q, 0, none⟩ h.g0
  exact ⟨(x.cell hl hq).trans h.g0, (x.cell hl hq).trans h.g1, (x.cell hl hq).trans h.g2⟩
theorem rdg_leaf {g : Nat → Prop} {W : World} (k n : Int) (t : List UInt8) (T : ByteArray) (hT : T.data.toList = t) (b : Bool) (e : Int) : Rdg g W (.mk k n t b e [] []) (.agg #[.int .i64 k, .int .i64 n, .string T, .bool b, .int .i64 e, .slice none 0 0, .slice none 0 0]) := by
  have e' : T = ⟨t.toArray⟩ := bytes_eq hT
  subst e'
  unfold Rdg
  exact ⟨_, _, rfl, ⟨none, 0, rfl, Nat.le_refl _, Nat.zero_le _, fun h => absurd h (by simp)⟩, none, 0, rfl, Nat.le_refl _, Nat.zero_le _, fun h => absurd rfl h⟩
set_option maxHeartbeats 8000000 in
theorem first_text (L : List Wd) (p b off cap : Nat) (s : St) (W : World) (h : PS W p L b off cap s.i s.bd s.n) (hi : s.i < L.length) (hr : L.length ≤ 50000) (hn : s.n ≤ s.i) (hw : isW L s.i [40] = false) (hk : kAt L s.i = 2) :
    Calls Tryz.prog 105 #[.pointer (some ⟨p, 0, none⟩)] W fun e W' => Rep p L b off cap W (textE (tAt L s.i), s.on.node) e W' := by
  have hlt := h.lt
  have hbW := h.blk hi
  obtain ⟨T, q, hT, kw⟩ := h.kw hi
  have HTT := hid hT
  have HK := hid kw
  rw [hk] at HK
  have HP := hid h
  have hroom : (s.i : Int) + 1 ≤ 9223372036854775807 := by omega
  have HZ := hid ((tb_new W (.int .i64 0) (.int .i64 0) (.string ⟨#[]⟩) (.bool false) (.int .i64 0) (.slice none 0 0) (.slice none 0 0) 26).on (((Qx.refl p _).alloc (.cells #[.int .i64 2, .string T, .int .i64 q] 74)).drew) (by omega))
  have HB := hid ((wb_new (W.alloc (.cells #[.int .i64 0, .int .i64 0, .string ⟨#[]⟩, .bool false, .int .i64 0, .slice none 0 0, .slice none 0 0] 26)) (.int .i64 2) (.string T) (.int .i64 q) 74).on ((Qx.refl p _).drew) (by simp; omega))
  rw [show (W.alloc (.cells #[.int .i64 0, .int .i64 0, .string ⟨#[]⟩, .bool false, .int .i64 0, .slice none 0 0, .slice none 0 0] 26)).heap.size = W.heap.size + 1 by simp] at HB
  have hc := hid (fun W1 (g : PS W1 p L b off cap s.i s.bd s.n) => take_any W1 p L b off cap s.i s.bd s.n ⟨#[40]⟩ g hi)
  rw [show (⟨#[40]⟩ : ByteArray).data.toList = [40] from rfl, hw] at hc
  clear h kw hT
  go_enter Tryz.func105, Tryz.ntmps105
  go_wp2_with fail
  go_region_held3 (fun V => V.cell? ⟨p, 0, none⟩ = some (.slice (some ⟨b, off, none⟩) L.length cap) ∧ V.cell? ⟨p, 1, none⟩ = some (.int .i64 (s.i : Int)) ∧ V.cell? ⟨b, off + s.i * 3, none⟩ = some (.int .i64 2) ∧ V.cell? ⟨b, off + s.i * 3 + 1, none⟩ = some (.string T) ∧ V.cell? ⟨b, off + s.i * 3 + 2, none⟩ = some (.int .i64 q)) (exact HK.out.on (by repeat (first | exact Q.refl _ | refine Q.drewN ?_ _ | refine Q.drew ?_ | refine Q.alloc ?_ _ | refine Q.setCell ?_ (by simp) _))) (fail)
  go_wp2_with (first | (go_at_call 104; refine (hc.out _ (HP.out.on (by repeat (first | exact Q.refl _ | refine Q.drewN ?_ _ | refine Q.drew ?_ | refine Q.alloc ?_ _ | refine Q.setCell ?_ (by simp) _)))).mono ?_; rintro e w1 ⟨rfl, q1, p1⟩; have Q1 : Hid (Qx p W w1) := hid (Qx.trans (by repeat (first | with_reducible exact Qx.refl _ _ | with_reducible refine Qx.drewN ?_ _ | with_reducible refine Qx.drew ?_ | with_reducible refine Qx.alloc ?_ _ | with_reducible refine Qx.own ?_ _ _ | with_reducible refine Qx.new ?_ (by simp) _ _)) q1); have P1 := hid p1; have Z1 := hid (HZ.out.on q1 (by omega)); have B1 := hid (HB.out.on q1 (by omega)); clear q1 p1; have x1 := P1.out.c1; have z1 := P1.out.f1; have b0 := B1.out.g0; have b1 := B1.out.g1; have b2 := B1.out.g2) | (go_at_call 74; refine (node_any _ p L b off cap _ _ _ (P1.out.set1 (s.i + 1) _ (by go_num)) (by omega) 2 0 T false 0 none 0 0 none 0 0).mono ?_; rintro e w3 ⟨rfl, q3, p3⟩; have Q3 : Hid (Qx p w1 w3) := hid (Qx.trans (by repeat (first | with_reducible exact Qx.refl _ _ | with_reducible refine Qx.drewN ?_ _ | with_reducible refine Qx.drew ?_ | with_reducible refine Qx.alloc ?_ _ | with_reducible refine Qx.own ?_ _ _ | with_reducible refine Qx.new ?_ (by simp) _ _)) q3); have P3 := hid p3; have Z3 := hid (Z1.out.on Q3.out (by omega)); clear q3 p3; have d0 := Z3.out.g0; have d1 := Z3.out.g1; have d2 := Z3.out.g2; have d3 := Z3.out.g3; have d4 := Z3.out.g4; have d5 := Z3.out.g5; have d6 := Z3.out.g6; have y0 := Z3.out.f 0; have y1 := Z3.out.f 1; have y2 := Z3.out.f 2; have y3 := Z3.out.f 3; have y4 := Z3.out.f 4; have y5 := Z3.out.f 5; have y6 := Z3.out.f 6))
  refine bodyPost_ret (v := .agg #[.int .i64 2, .int .i64 0, .string T, .bool false, .int .i64 0, .slice none 0 0, .slice none 0 0]) (by simp [results, Tryz.results105, go_sem, d0, d1, d2, d3, d4, d5, d6]) rfl ?_
  exact fin7 2 0 T false 0 none 0 0 none 0 0 hlt hbW (Q1.out.trans Q3.out) (rdg_leaf 2 0 (tAt L s.i) T HTT.out false 0) P3.out
set_option maxHeartbeats 8000000 in
theorem first_num (L : List Wd) (p b off cap : Nat) (s : St) (W : World) (h : PS W p L b off cap s.i s.bd s.n) (hi : s.i < L.length) (hr : L.length ≤ 50000) (hn : s.n ≤ s.i) (hw : isW L s.i [40] = false) (hk : kAt L s.i = 1) (hz : ∀ i, (tAt L i).length ≤ 1000) :
    Calls Tryz.prog 105 #[.pointer (some ⟨p, 0, none⟩)] W fun e W' => Rep p L b off cap W (numE (EE.num (tAt L s.i)), s.on.node) e W' := by
  have hlt := h.lt
  have hbW := h.blk hi
  obtain ⟨T, q, hT, kw⟩ := h.kw hi
  have HTT := hid hT
  have HK := hid kw
  rw [hk] at HK
  have HN := hid (fun W1 => V.rparse_any T W1 (by have := hz s.i; rw [← hT] at this; simp at this; omega))
  have HP := hid h
  have hroom : (s.i : Int) + 1 ≤ 9223372036854775807 := by omega
  have HZ := hid ((tb_new W (.int .i64 0) (.int .i64 0) (.string ⟨#[]⟩) (.bool false) (.int .i64 0) (.slice none 0 0) (.slice none 0 0) 26).on (((Qx.refl p _).alloc (.cells #[.int .i64 1, .string T, .int .i64 q] 74)).drew) (by omega))
  have HB := hid ((wb_new (W.alloc (.cells #[.int .i64 0, .int .i64 0, .string ⟨#[]⟩, .bool false, .int .i64 0, .slice none 0 0, .slice none 0 0] 26)) (.int .i64 1) (.string T) (.int .i64 q) 74).on ((Qx.refl p _).drew) (by simp; omega))
  rw [show (W.alloc (.cells #[.int .i64 0, .int .i64 0, .string ⟨#[]⟩, .bool false, .int .i64 0, .slice none 0 0, .slice none 0 0] 26)).heap.size = W.heap.size + 1 by simp] at HB
  have hc := hid (fun W1 (g : PS W1 p L b off cap s.i s.bd s.n) => take_any W1 p L b off cap s.i s.bd s.n ⟨#[40]⟩ g hi)
  rw [show (⟨#[40]⟩ : ByteArray).data.toList = [40] from rfl, hw] at hc
  clear h kw hT
  go_enter Tryz.func105, Tryz.ntmps105
  go_wp2_with fail
  go_region_held3 (fun V => V.cell? ⟨p, 0, none⟩ = some (.slice (some ⟨b, off, none⟩) L.length cap) ∧ V.cell? ⟨p, 1, none⟩ = some (.int .i64 (s.i : Int)) ∧ V.cell? ⟨b, off + s.i * 3, none⟩ = some (.int .i64 1) ∧ V.cell? ⟨b, off + s.i * 3 + 1, none⟩ = some (.string T) ∧ V.cell? ⟨b, off + s.i * 3 + 2, none⟩ = some (.int .i64 q)) (exact HK.out.on (by repeat (first | exact Q.refl _ | refine Q.drewN ?_ _ | refine Q.drew ?_ | refine Q.alloc ?_ _ | refine Q.setCell ?_ (by simp) _))) (fail)
  go_wp2_with (first | (go_at_call 104; refine (hc.out _ (HP.out.on (by repeat (first | exact Q.refl _ | refine Q.drewN ?_ _ | refine Q.drew ?_ | refine Q.alloc ?_ _ | refine Q.setCell ?_ (by simp) _)))).mono ?_; rintro e w1 ⟨rfl, q1, p1⟩; have Q1 : Hid (Qx p W w1) := hid (Qx.trans (by repeat (first | with_reducible exact Qx.refl _ _ | with_reducible refine Qx.drewN ?_ _ | with_reducible refine Qx.drew ?_ | with_reducible refine Qx.alloc ?_ _ | with_reducible refine Qx.own ?_ _ _ | with_reducible refine Qx.new ?_ (by simp) _ _)) q1); have P1 := hid p1; have Z1 := hid (HZ.out.on q1 (by omega)); have B1 := hid (HB.out.on q1 (by omega)); clear q1 p1; have x1 := P1.out.c1; have z1 := P1.out.f1; have b0 := B1.out.g0; have b1 := B1.out.g1; have b2 := B1.out.g2) | (go_at_call 44; refine (HN.out _).mono ?_; rintro e w2 ⟨h2, q2⟩; unfold V.RP at h2; subst h2; have Q2 := hid q2; clear q2) | (go_at_call 74; refine (node_any _ p L b off cap _ _ _ ((P1.out.set1 (s.i + 1) _ (by go_num)).on Q2.out) (by omega) 1 (V.pk (V.parseO T.data.toList)) ⟨#[]⟩ false 0 none 0 0 none 0 0).mono ?_; rintro e w3 ⟨rfl, q3, p3⟩; have Q3 : Hid (Qx p w1 w3) := hid (Qx.trans (Qx.trans (by repeat (first | with_reducible exact Qx.refl _ _ | with_reducible refine Qx.drewN ?_ _ | with_reducible refine Qx.drew ?_ | with_reducible refine Qx.alloc ?_ _ | with_reducible refine Qx.own ?_ _ _ | with_reducible refine Qx.new ?_ (by simp) _ _)) (Qx.of Q2.out)) q3); have P3 := hid p3; have Z3 := hid (Z1.out.on Q3.out (by omega)); clear q3 p3; have d0 := Z3.out.g0; have d1 := Z3.out.g1; have d2 := Z3.out.g2; have d3 := Z3.out.g3; have d4 := Z3.out.g4; have d5 := Z3.out.g5; have d6 := Z3.out.g6; have y0 := Z3.out.f 0; have y1 := Z3.out.f 1; have y2 := Z3.out.f 2; have y3 := Z3.out.f 3; have y4 := Z3.out.f 4; have y5 := Z3.out.f 5; have y6 := Z3.out.f 6))
  refine bodyPost_ret (v := .agg #[.int .i64 1, .int .i64 (V.pk (V.parseO T.data.toList)), .string ⟨#[]⟩, .bool false, .int .i64 0, .slice none 0 0, .slice none 0 0]) (by simp [results, Tryz.results105, go_sem, d0, d1, d2, d3, d4, d5, d6]) rfl ?_
  have e := rdg_leaf (g := fun b => W.heap.size + 1 ≤ b) (W := w3) 1 (V.pk (V.parseO T.data.toList)) [] ⟨#[]⟩ rfl false 0
  rw [show numE (EE.num (tAt L s.i)) = .mk 1 (V.pk (V.parseO T.data.toList)) [] false 0 [] [] by rw [HTT.out]; rfl]
  exact fin7 1 (V.pk (V.parseO T.data.toList)) ⟨#[]⟩ false 0 none 0 0 none 0 0 hlt hbW (Q1.out.trans Q3.out) e P3.out
end Go.Proofs.YtgheopdadfnilaaGreatDoor
