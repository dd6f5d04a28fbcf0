/- a1.Print: what it returns; parse.bare, mayRef, walked; P.ahead of the reference, walked. -/
import Derived.Test.YtgheopdadfnilaaGreatDoorKs06
import Derived.Test.YtgheopdadfnilaaGreatDoorKs05
namespace Go.Proofs.YtgheopdadfnilaaGreatDoor
open Go.RowKit
set_option linter.unusedVariables false
set_option linter.unusedSimpArgs false
set_option maxHeartbeats 1000000 in
theorem print_no (sh : ByteArray) (row col : Int) (ra ca f1 f2 fi : Bool) (w : World)
    (HM1 : Hid (∀ W, Calls Tryz.prog 96 #[.int .i64 row] W fun e w' => e = .returned (.bool f1) ∧ w' = W))
    (HM2 : Hid (∀ W, Calls Tryz.prog 96 #[.int .i64 col] W fun e w' => e = .returned (.bool f2) ∧ w' = W))
    (HI : Hid (∀ W, Q w W → Calls Tryz.prog 97 #[.string sh] W fun e w' => e = .returned (.bool fi) ∧ Q W w'))
    (h : f1 = false ∨ f2 = false ∨ ((sh.toList == []) = false ∧ fi = false)) :
    Calls Tryz.prog 60 #[rv sh row col ra ca] w fun e w' => e = .returned (.string ⟨#[]⟩) ∧ Q w w' := by
  cases f1
  · clear h
    go_enter Tryz.func60, Tryz.ntmps60
    go_wp2_with (first | (go_at_call_of 96 row; refine (HM1.out _).mono ?_; rintro e w1 ⟨rfl, rfl⟩) | (go_at_call_of 96 col; refine (HM2.out _).mono ?_; rintro e w1 ⟨rfl, rfl⟩))
    go_ret
    exact ⟨rfl, (Q.refl _).alloc _⟩
  cases f2
  · clear h
    go_enter Tryz.func60, Tryz.ntmps60
    go_wp2_with (first | (go_at_call_of 96 row; refine (HM1.out _).mono ?_; rintro e w1 ⟨rfl, rfl⟩) | (go_at_call_of 96 col; refine (HM2.out _).mono ?_; rintro e w1 ⟨rfl, rfl⟩))
    go_ret
    exact ⟨rfl, (Q.refl _).alloc _⟩
  obtain ⟨hE, rfl⟩ : (sh.toList == []) = false ∧ fi = false := by
    rcases h with h | h | h
    · cases h
    · cases h
    · exact h
  go_enter Tryz.func60, Tryz.ntmps60
  go_wp2_with (first | (go_at_call_of 96 row; refine (HM1.out _).mono ?_; rintro e w1 ⟨rfl, rfl⟩) | (go_at_call_of 96 col; refine (HM2.out _).mono ?_; rintro e w1 ⟨rfl, rfl⟩) | (go_at_call 97; refine (HI.out _ (by repeat (first | exact Q.refl _ | refine Q.drewN ?_ _ | refine Q.alloc ?_ _))).mono ?_; rintro e w3 ⟨rfl, q3⟩))
  go_ret
  exact ⟨rfl, ((Q.refl _).alloc _).trans q3⟩
theorem print_any (sh : ByteArray) (row col : Int) (ra ca : Bool) (w : World) (hw : Std w) (ht : ∀ W, Q w W → Lib.TabIs Tryz.prog W "internal/strconv.uint64pow10" .u64 Lib.pow10Tab) (hs : sh.size ≤ 1000) :
    Calls Tryz.prog 60 #[rv sh row col ra ca] w fun e w' => e = .returned (.string ⟨(prR sh.data.toList row col ra ca).toArray⟩) ∧ Q w w' := by
  have HM1 := fun W => mayline_any row W
  have HM2 := fun W => mayline_any col W
  have HI := fun W (q : Q w W) => id_any sh W (hw.on q) (by omega)
  have et := Lib.toList_data sh
  unfold prR mayR
  cases h1 : decide (0 ≤ row ∧ row < 2199023255552)
  · rw [h1] at HM1
    refine (print_no sh row col ra ca _ _ _ w HM1 HM2 HI (.inl rfl)).mono fun e w' g => ⟨?_, g.2⟩
    rw [g.1, Bool.false_and, Bool.and_false]
    rfl
  cases h2 : decide (0 ≤ col ∧ col < 2199023255552)
  · rw [h2] at HM2
    refine (print_no sh row col ra ca _ _ _ w HM1 HM2 HI (.inr (.inl rfl))).mono fun e w' g => ⟨?_, g.2⟩
    rw [g.1, Bool.and_false, Bool.and_false]
    rfl
  rw [h1] at HM1
  rw [h2] at HM2
  have b1 := of_decide_eq_true h1
  have b2 := of_decide_eq_true h2
  obtain ⟨X1, X2, X3, hc⟩ := cat_of sh.data.toList row col ra ca (by rw [len_data]; exact hs) b1.1 b1.2
  have HF := fun W (q : Q w W) => fmt_any (row + 1) W (ht W q) (by omega) (by omega)
  by_cases he : sh.toList = []
  · have he2 : sh.data.toList = [] := by rw [← et, he]
    rw [he2] at hc ⊢
    refine (print_plain sh ⟨#[]⟩ _ _ _ _ X1 X2 X3 _ row col ra ca w hs HM1 HM2 (by rw [he]; rfl) (fun W => asign_any ca W) (fun W => asign_any ra W) (fun W => name_any col W) HF b1.1 b1.2 hc).mono fun e w' g => ⟨?_, g.2⟩
    rw [g.1]
    rfl
  · have hei : sh.data.toList.isEmpty = false := by
      rw [← et]
      cases hh : sh.toList
      · exact absurd hh he
      · rfl
    cases hi : idB sh.data.toList
    · rw [hi] at HI
      refine (print_no sh row col ra ca _ _ _ w HM1 HM2 HI (.inr (.inr ⟨by simpa using he, rfl⟩))).mono fun e w' g => ⟨?_, g.2⟩
      rw [g.1, hei]
      rfl
    · rw [hi] at HI
      have eS : sh ++ ⟨#[33]⟩ = ⟨(shX sh.data.toList).toArray⟩ := by
        unfold shX
        rw [hei]
        have e := bytes_cat sh.data.toList [33]
        exact e
      refine (print_sheet sh _ _ _ _ _ X1 X2 X3 _ row col ra ca w hs HM1 HM2 (by simpa using he) HI eS (fun W => asign_any ca W) (fun W => asign_any ra W) (fun W => name_any col W) HF b1.1 b1.2 hc).mono fun e w' g => ⟨?_, g.2⟩
      rw [g.1, Bool.or_true]
      rfl
end Go.Proofs.YtgheopdadfnilaaGreatDoor
namespace Go.Proofs.YtgheopdadfnilaaGreatDoor
open Go.RowKit
set_option linter.unusedVariables false
set_option linter.unusedSimpArgs false
set_option maxRecDepth 100000 in
set_option maxHeartbeats 8000000 in
theorem bare_any (k n : Int) (t : ByteArray) (b : Bool) (e : Int) (a1 : Option Addr) (l1 c1 : Nat) (a2 : Option Addr) (l2 c2 : Nat) (W : World) : Calls Tryz.prog 127 #[.agg #[.int .i64 k, .int .i64 n, .string t, .bool b, .int .i64 e, .slice a1 l1 c1, .slice a2 l2 c2]] W fun e' W' => e' = .returned (.bool (decide (n = 0 ∧ t.data.toList = [] ∧ b = false ∧ e = 0 ∧ l1 = 0 ∧ l2 = 0))) ∧ Q W W' := by
  have et := hid (toL t)
  by_cases q0 : n = 0
  · skip
    have f0 : (n == 0) = true := by rw [q0]; rfl
    by_cases q1 : t.data.toList = []
    · skip
      have f1 : (t.toList == []) = true := by rw [et.out]; rw [q1]; rfl
      by_cases q2 : b = false
      · skip
        have f2 : b = false := q2
        by_cases q3 : e = 0
        · skip
          have f3 : (e == 0) = true := by rw [q3]; rfl
          by_cases q4 : l1 = 0
          · skip
            have f4 : ((l1 : Int) == 0) = true := by rw [q4]; rfl
            by_cases q5 : l2 = 0
            · skip
              have f5 : ((l2 : Int) == 0) = true := by rw [q5]; rfl
              have HR : Hid (decide (n = 0 ∧ t.data.toList = [] ∧ b = false ∧ e = 0 ∧ l1 = 0 ∧ l2 = 0) = true) := by show _ = _; exact decide_eq_true ⟨q0, q1, q2, q3, q4, q5⟩
              generalize decide (n = 0 ∧ t.data.toList = [] ∧ b = false ∧ e = 0 ∧ l1 = 0 ∧ l2 = 0) = r at HR ⊢
              clear et q0 q1 q2 q3 q4 q5
              go_enter Tryz.func127, Tryz.ntmps127
              go_wp2_with fail
              go_ret
              exact ⟨ret_bool HR.out.symm, (Q.refl _).alloc _⟩
            · skip
              have f5 : ((l2 : Int) == 0) = false := by rw [beq_eq_false_iff_ne]; omega
              have HR : Hid (decide (n = 0 ∧ t.data.toList = [] ∧ b = false ∧ e = 0 ∧ l1 = 0 ∧ l2 = 0) = false) := by show _ = _; exact decide_eq_false (fun hh => q5 hh.2.2.2.2.2)
              generalize decide (n = 0 ∧ t.data.toList = [] ∧ b = false ∧ e = 0 ∧ l1 = 0 ∧ l2 = 0) = r at HR ⊢
              clear et q0 q1 q2 q3 q4 q5
              go_enter Tryz.func127, Tryz.ntmps127
              go_wp2_with fail
              go_ret
              exact ⟨ret_bool HR.out.symm, (Q.refl _).alloc _⟩
          · skip
            have f4 : ((l1 : Int) == 0) = false := by rw [beq_eq_false_iff_ne]; omega
            have HR : Hid (decide (n = 0 ∧ t.data.toList = [] ∧ b = false ∧ e = 0 ∧ l1 = 0 ∧ l2 = 0) = false) := by show _ = _; exact decide_eq_false (fun hh => q4 hh.2.2.2.2.1)
            generalize decide (n = 0 ∧ t.data.toList = [] ∧ b = false ∧ e = 0 ∧ l1 = 0 ∧ l2 = 0) = r at HR ⊢
            clear et q0 q1 q2 q3 q4
            go_enter Tryz.func127, Tryz.ntmps127
            go_wp2_with fail
            go_ret
            exact ⟨ret_bool HR.out.symm, (Q.refl _).alloc _⟩
        · skip
          have f3 : (e == 0) = false := by rw [beq_eq_false_iff_ne]; omega
          have HR : Hid (decide (n = 0 ∧ t.data.toList = [] ∧ b = false ∧ e = 0 ∧ l1 = 0 ∧ l2 = 0) = false) := by show _ = _; exact decide_eq_false (fun hh => q3 hh.2.2.2.1)
          generalize decide (n = 0 ∧ t.data.toList = [] ∧ b = false ∧ e = 0 ∧ l1 = 0 ∧ l2 = 0) = r at HR ⊢
          clear et q0 q1 q2 q3
          go_enter Tryz.func127, Tryz.ntmps127
          go_wp2_with fail
          go_ret
          exact ⟨ret_bool HR.out.symm, (Q.refl _).alloc _⟩
      · skip
        have f2 : b = true := by simpa using q2
        have HR : Hid (decide (n = 0 ∧ t.data.toList = [] ∧ b = false ∧ e = 0 ∧ l1 = 0 ∧ l2 = 0) = false) := by show _ = _; exact decide_eq_false (fun hh => q2 hh.2.2.1)
        generalize decide (n = 0 ∧ t.data.toList = [] ∧ b = false ∧ e = 0 ∧ l1 = 0 ∧ l2 = 0) = r at HR ⊢
        clear et q0 q1 q2
        go_enter Tryz.func127, Tryz.ntmps127
        go_wp2_with fail
        go_ret
        exact ⟨ret_bool HR.out.symm, (Q.refl _).alloc _⟩
    · skip
      have f1 : (t.toList == []) = false := by rw [et.out]; rw [beq_eq_false_iff_ne]; exact q1
      have HR : Hid (decide (n = 0 ∧ t.data.toList = [] ∧ b = false ∧ e = 0 ∧ l1 = 0 ∧ l2 = 0) = false) := by show _ = _; exact decide_eq_false (fun hh => q1 hh.2.1)
      generalize decide (n = 0 ∧ t.data.toList = [] ∧ b = false ∧ e = 0 ∧ l1 = 0 ∧ l2 = 0) = r at HR ⊢
      clear et q0 q1
      go_enter Tryz.func127, Tryz.ntmps127
      go_wp2_with fail
      go_ret
      exact ⟨ret_bool HR.out.symm, (Q.refl _).alloc _⟩
  · skip
    have f0 : (n == 0) = false := by rw [beq_eq_false_iff_ne]; omega
    have HR : Hid (decide (n = 0 ∧ t.data.toList = [] ∧ b = false ∧ e = 0 ∧ l1 = 0 ∧ l2 = 0) = false) := by show _ = _; exact decide_eq_false (fun hh => q0 hh.1)
    generalize decide (n = 0 ∧ t.data.toList = [] ∧ b = false ∧ e = 0 ∧ l1 = 0 ∧ l2 = 0) = r at HR ⊢
    clear et q0
    go_enter Tryz.func127, Tryz.ntmps127
    go_wp2_with fail
    go_ret
    exact ⟨ret_bool HR.out.symm, (Q.refl _).alloc _⟩
theorem prR_nil (sh : List UInt8) (row col : Int) (ra ca : Bool) : decide (prR sh row col ra ca = []) = !mayR sh row col := by
  unfold prR
  cases hm : mayR sh row col
  · rw [if_neg (by simp)]; rfl
  · rw [if_pos rfl, decide_eq_false]
    · rfl
    · intro h
      unfold prL at h
      have h2 := (List.append_eq_nil_iff.1 h).2
      have h3 := congrArg List.length h2
      rw [Lib.decDigits_length] at h3
      have h4 : 0 < Lib.nDigits (row + 1).toNat := by unfold Lib.nDigits; split <;> omega
      simp at h3
      omega
set_option maxRecDepth 100000 in
set_option maxHeartbeats 4000000 in
theorem pmayref_any (sh : ByteArray) (row col : Int) (ra ca : Bool) (w : World) (hw : Std w) (ht : ∀ W, Q w W → Lib.TabIs Tryz.prog W "internal/strconv.uint64pow10" .u64 Lib.pow10Tab) (hs : sh.size ≤ 1000) :
    Calls Tryz.prog 123 #[rv sh row col ra ca] w fun e w' => e = .returned (.bool (mayR sh.data.toList row col)) ∧ Q w w' := by
  have HP := hid (fun W (q : Q w W) => print_any sh row col ra ca W (hw.on q) (fun W' q' => ht W' (q.trans q')) hs)
  have hn := prR_nil sh.data.toList row col ra ca
  obtain ⟨S, hS, lS⟩ : ∃ S : ByteArray, ⟨(prR sh.data.toList row col ra ca).toArray⟩ = S ∧ S.data.toList = prR sh.data.toList row col ra ca := ⟨_, rfl, rfl⟩
  rw [hS] at HP
  rw [← lS] at hn
  clear hw ht
  cases hm : mayR sh.data.toList row col
  · rw [hm] at hn
    have e7 : (S.toList == []) = true := by rw [toL, of_decide_eq_true hn]; rfl
    clear hn hS lS
    go_enter Tryz.func123, Tryz.ntmps123
    go_wp2_with (go_at_call 60; refine (HP.out _ ((Q.refl _).alloc _)).mono ?_; rintro e w1 ⟨rfl, q1⟩; have Q1 : Hid (Q w w1) := hid (((Q.refl _).alloc _).trans q1); clear q1)
    go_ret
    exact ⟨rfl, Q1.out⟩
  · rw [hm] at hn
    have e7 : (S.toList == []) = false := by rw [toL, beq_eq_false_iff_ne]; exact of_decide_eq_false hn
    clear hn hS lS
    go_enter Tryz.func123, Tryz.ntmps123
    go_wp2_with (go_at_call 60; refine (HP.out _ ((Q.refl _).alloc _)).mono ?_; rintro e w1 ⟨rfl, q1⟩; have Q1 : Hid (Q w w1) := hid (((Q.refl _).alloc _).trans q1); clear q1)
    go_ret
    exact ⟨rfl, Q1.out⟩
end Go.Proofs.YtgheopdadfnilaaGreatDoor
namespace Go.Proofs.YtgheopdadfnilaaGreatDoor
open Go.RowKit
set_option linter.unusedVariables false
set_option linter.unusedSimpArgs false
theorem Qx.frozen {p : Nat} {a w : World} (h : Qx p a w) {b o : Nat} (hb : b < a.heap.size) (hp : b ≠ p) : w.frozen? ⟨b, o, none⟩ = a.frozen? ⟨b, o, none⟩ :=
  World.frozen?_of_block (h.block b hb (fun e => hp (Option.some.inj e)))
/-- a block of a tree's seven cells that may be written -/
structure Tb (W : World) (q : Nat) (c0 c1 c2 c3 c4 c5 c6 : Value) : Prop where
  g0 : W.cell? ⟨q, 0, none⟩ = some c0
  g1 : W.cell? ⟨q, 1, none⟩ = some c1
  g2 : W.cell? ⟨q, 2, none⟩ = some c2
  g3 : W.cell? ⟨q, 3, none⟩ = some c3
  g4 : W.cell? ⟨q, 4, none⟩ = some c4
  g5 : W.cell? ⟨q, 5, none⟩ = some c5
  g6 : W.cell? ⟨q, 6, none⟩ = some c6
  f : ∀ j, W.frozen? ⟨q, j, none⟩ = false
theorem Tb.on {p : Nat} {W W' : World} {q : Nat} {c0 c1 c2 c3 c4 c5 c6 : Value} (h : Tb W q c0 c1 c2 c3 c4 c5 c6) (x : Qx p W W') (hq : q ≠ p) : Tb W' q c0 c1 c2 c3 c4 c5 c6 := by
  have hl : q < W.heap.size := World.block_lt_of_cell? W ⟨q, 0, none⟩ h.g0
  exact ⟨(x.cell hl hq).trans h.g0, (x.cell hl hq).trans h.g1, (x.cell hl hq).trans h.g2, (x.cell hl hq).trans h.g3, (x.cell hl hq).trans h.g4, (x.cell hl hq).trans h.g5, (x.cell hl hq).trans h.g6, fun j => (x.frozen hl hq).trans (h.f j)⟩
theorem tb_new (W : World) (c0 c1 c2 c3 c4 c5 c6 : Value) (t : TypeId) : Tb (W.alloc (.cells #[c0, c1, c2, c3, c4, c5, c6] t)) W.heap.size c0 c1 c2 c3 c4 c5 c6 := by
  refine ⟨?_, ?_, ?_, ?_, ?_, ?_, ?_, fun j => ?_⟩
  all_goals simp [World.cell?_alloc_new, World.frozen?_alloc_new]
theorem Rdg.shape {g : Nat → Prop} {W : World} {x : Ex} {v : Value} (h : Rdg g W x v) : ∃ k n t b e a1 l1 c1 a2 l2 c2, v = .agg #[.int .i64 k, .int .i64 n, .string t, .bool b, .int .i64 e, .slice a1 l1 c1, .slice a2 l2 c2] := by
  cases x with
  | mk k n t b e rs ks =>
    unfold Rdg at h
    obtain ⟨rv, kv, hv, hr, ao, cap, hk, _⟩ := h
    obtain ⟨a1, c1, hr, _⟩ := hr
    subst hr hk
    exact ⟨_, _, _, _, _, _, _, _, _, _, _, hv⟩
/-- a tree whose kid lies in a block -/
theorem rdg_kids {g : Nat → Prop} {W : World} (k : Int) (t : List UInt8) (T : ByteArray) (hT : T.data.toList = t) (ks : List Ex) (q cap : Nat) (hq : g q) (hc : ks.length ≤ cap) (hm : cap ≤ maxLen) (hpl : Pl W q) (h : Rdg.RdLg g W ks q 0) :
    Rdg g W (.mk k 0 t false 0 [] ks) (.agg #[.int .i64 k, .int .i64 0, .string T, .bool false, .int .i64 0, .slice none 0 0, .slice (some ⟨q, 0, none⟩) ks.length cap]) := by
  unfold Rdg
  have e : T = ⟨t.toArray⟩ := bytes_eq hT
  subst e
  exact ⟨_, _, rfl, ⟨none, 0, rfl, Nat.le_refl _, Nat.zero_le _, fun h => absurd h (by simp)⟩, some ⟨q, 0, none⟩, cap, rfl, hc, hm, fun _ => ⟨q, 0, rfl, hq, hpl, h⟩⟩
end Go.Proofs.YtgheopdadfnilaaGreatDoor
