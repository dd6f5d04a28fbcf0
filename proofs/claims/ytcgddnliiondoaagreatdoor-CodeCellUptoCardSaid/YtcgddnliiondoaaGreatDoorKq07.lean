/- a1.Print, walked; a1.Print: what it returns; parse.mayAll, w. -/
import Derived.Test.YtcgddnliiondoaaGreatDoorKq05
import Derived.Deep.RegionHeld3
import Derived.Deep.CutBlock
import Derived.Deep.CutRange
import Derived.Test.YtcgddnliiondoaaGreatDoorKq06
import Derived.Test.YtcgddnliiondoaaGreatDoorKq00
import Derived.Lib.AppendStr
import Derived.Lib.Builder
set_option linter.unusedVariables false
set_option linter.unusedSimpArgs false
set_option maxRecDepth 100000
set_option maxHeartbeats 8000000
namespace Go.Proofs.YtcgddnliiondoaaGreatDoor
open Go.RowKit
set_option maxHeartbeats 2000000 in
theorem print_plain (sh SH SA NM SB DC X1 X2 X3 X4 : ByteArray) (row col : Int) (ra ca : Bool) (w : World) (hz : sh.size ≤ 1000)
    (HM1 : Hid (∀ W, Calls Tryz.prog 143 #[.int .i64 row] W fun e w' => e = .returned (.bool true) ∧ w' = W))
    (HM2 : Hid (∀ W, Calls Tryz.prog 143 #[.int .i64 col] W fun e w' => e = .returned (.bool true) ∧ w' = W))
    (hE : (sh.toList == []) = true)
    (HS1 : Hid (∀ W, Calls Tryz.prog 144 #[.bool ca] W fun e w' => e = .returned (.string SA) ∧ w' = W))
    (HS2 : Hid (∀ W, Calls Tryz.prog 144 #[.bool ra] W fun e w' => e = .returned (.string SB) ∧ w' = W))
    (HN : Hid (∀ W, Calls Tryz.prog 145 #[.int .i64 col] W fun e w' => e = .returned (.string NM) ∧ Q W w'))
    (HF : Hid (∀ W, Q w W → Calls Tryz.prog 146 #[.int .i64 (row + 1), .int .i64 10] W fun e w' => e = .returned (.string DC) ∧ Q W w'))
    (r0 : 0 ≤ row) (r1 : row < 2199023255552) (hc : Cat ⟨#[]⟩ SA NM SB DC X1 X2 X3 X4) :
    Calls Tryz.prog 130 #[rv sh row col ra ca] w fun e w' => e = .returned (.string X4) ∧ Q w w' := by
  obtain ⟨e1, e2, e3, e4, z0, z1, z2, z3, z4, y1, y2, y3, y4⟩ := hc
  have k1 : ¬ 9223372036854775807 < SA.size := by omega
  have k2 : ¬ 9223372036854775807 < X1.size + NM.size := by omega
  have k3 : ¬ 9223372036854775807 < X2.size + SB.size := by omega
  have k4 : ¬ 9223372036854775807 < X3.size + DC.size := by omega
  have hwr : IntKind.i64.wrap (row + 1) = row + 1 := by rw [IntKind.wrap_i64]; omega
  have J := hid (PB.start w sh row col ra ca)
  go_enter Tryz.func130, Tryz.ntmps130
  go_upto_region 8 with (first | (go_at_call_of 143 row; refine (HM1.out _).mono ?_; rintro e w1 ⟨rfl, rfl⟩) | (go_at_call_of 143 col; refine (HM2.out _).mono ?_; rintro e w1 ⟨rfl, rfl⟩))
  have hk0 : Hid ((w.alloc (.cells #[.string sh, .int .i64 row, .int .i64 col, .bool ra, .bool ca] 96)).drew.cell? ⟨w.heap.size, 1, none⟩ = some (.int .i64 row) ∧ (w.alloc (.cells #[.string sh, .int .i64 row, .int .i64 col, .bool ra, .bool ca] 96)).drew.cell? ⟨w.heap.size, 2, none⟩ = some (.int .i64 col) ∧ (w.alloc (.cells #[.string sh, .int .i64 row, .int .i64 col, .bool ra, .bool ca] 96)).drew.cell? ⟨w.heap.size, 3, none⟩ = some (.bool ra) ∧ (w.alloc (.cells #[.string sh, .int .i64 row, .int .i64 col, .bool ra, .bool ca] 96)).drew.cell? ⟨w.heap.size, 4, none⟩ = some (.bool ca)) := ⟨J.out.c1, J.out.c2, J.out.c3, J.out.c4⟩
  go_region_held3 (fun W => W.cell? ⟨w.heap.size, 1, none⟩ = some (.int .i64 row) ∧ W.cell? ⟨w.heap.size, 2, none⟩ = some (.int .i64 col) ∧ W.cell? ⟨w.heap.size, 3, none⟩ = some (.bool ra) ∧ W.cell? ⟨w.heap.size, 4, none⟩ = some (.bool ca)) (with_reducible (first | exact hk0.out | exact hk1.out | exact hk2.out))
    (first
      | (go_at_call_of 144 ca; refine (HS1.out _).mono ?_; rintro r w9 ⟨rfl, rfl⟩)
      | (go_at_call_of 144 ra; refine (HS2.out _).mono ?_; rintro r w9 ⟨rfl, rfl⟩)
      | (go_at_call 145; refine (HN.out _).mono ?_; rintro r w5 ⟨rfl, q5⟩; replace J := hid (J.out.on (Q.trans (Q.drew (Q.refl _)) q5)); have hk1 : Hid (w5.cell? ⟨w.heap.size, 1, none⟩ = some (.int .i64 row) ∧ w5.cell? ⟨w.heap.size, 2, none⟩ = some (.int .i64 col) ∧ w5.cell? ⟨w.heap.size, 3, none⟩ = some (.bool ra) ∧ w5.cell? ⟨w.heap.size, 4, none⟩ = some (.bool ca)) := ⟨J.out.c1, J.out.c2, J.out.c3, J.out.c4⟩)
      | (go_at_call 146; refine (HF.out _ J.out.q).mono ?_; rintro r w6 ⟨rfl, q6⟩; replace J := hid (J.out.on q6); have hk2 : Hid (w6.cell? ⟨w.heap.size, 1, none⟩ = some (.int .i64 row) ∧ w6.cell? ⟨w.heap.size, 2, none⟩ = some (.int .i64 col) ∧ w6.cell? ⟨w.heap.size, 3, none⟩ = some (.bool ra) ∧ w6.cell? ⟨w.heap.size, 4, none⟩ = some (.bool ca)) := ⟨J.out.c1, J.out.c2, J.out.c3, J.out.c4⟩))
  go_wp2
  go_ret
  exact ⟨rfl, J.out.q⟩
set_option maxHeartbeats 2000000 in
theorem print_sheet (sh SH SA NM SB DC X1 X2 X3 X4 : ByteArray) (row col : Int) (ra ca : Bool) (w : World) (hz : sh.size ≤ 1000)
    (HM1 : Hid (∀ W, Calls Tryz.prog 143 #[.int .i64 row] W fun e w' => e = .returned (.bool true) ∧ w' = W))
    (HM2 : Hid (∀ W, Calls Tryz.prog 143 #[.int .i64 col] W fun e w' => e = .returned (.bool true) ∧ w' = W))
    (hE : (sh.toList == []) = false)
    (HI : Hid (∀ W, Q w W → Calls Tryz.prog 69 #[.string sh] W fun e w' => e = .returned (.bool true) ∧ Q W w')) (eS : sh ++ ⟨#[33]⟩ = SH)
    (HS1 : Hid (∀ W, Calls Tryz.prog 144 #[.bool ca] W fun e w' => e = .returned (.string SA) ∧ w' = W))
    (HS2 : Hid (∀ W, Calls Tryz.prog 144 #[.bool ra] W fun e w' => e = .returned (.string SB) ∧ w' = W))
    (HN : Hid (∀ W, Calls Tryz.prog 145 #[.int .i64 col] W fun e w' => e = .returned (.string NM) ∧ Q W w'))
    (HF : Hid (∀ W, Q w W → Calls Tryz.prog 146 #[.int .i64 (row + 1), .int .i64 10] W fun e w' => e = .returned (.string DC) ∧ Q W w'))
    (r0 : 0 ≤ row) (r1 : row < 2199023255552) (hc : Cat SH SA NM SB DC X1 X2 X3 X4) :
    Calls Tryz.prog 130 #[rv sh row col ra ca] w fun e w' => e = .returned (.string X4) ∧ Q w w' := by
  obtain ⟨e1, e2, e3, e4, z0, z1, z2, z3, z4, y1, y2, y3, y4⟩ := hc
  have k1 : ¬ 9223372036854775807 < SH.size + SA.size := by omega
  have k2 : ¬ 9223372036854775807 < X1.size + NM.size := by omega
  have k3 : ¬ 9223372036854775807 < X2.size + SB.size := by omega
  have k4 : ¬ 9223372036854775807 < X3.size + DC.size := by omega
  have hwr : IntKind.i64.wrap (row + 1) = row + 1 := by rw [IntKind.wrap_i64]; omega
  have J := hid (PB.start w sh row col ra ca)
  go_enter Tryz.func130, Tryz.ntmps130
  go_upto_region 8 with (first | (go_at_call_of 143 row; refine (HM1.out _).mono ?_; rintro e w1 ⟨rfl, rfl⟩) | (go_at_call_of 143 col; refine (HM2.out _).mono ?_; rintro e w1 ⟨rfl, rfl⟩) | (go_at_call 69; refine (HI.out _ (by repeat (first | exact Q.refl _ | refine Q.drewN ?_ _ | refine Q.alloc ?_ _))).mono ?_; rintro e w3 ⟨rfl, q3⟩; replace J := hid (J.out.on q3); have d0 := J.out.c0; have d1 := J.out.c1; have d2 := J.out.c2; have d3 := J.out.c3; have d4 := J.out.c4))
  have hk0 : Hid (w3.drew.cell? ⟨w.heap.size, 1, none⟩ = some (.int .i64 row) ∧ w3.drew.cell? ⟨w.heap.size, 2, none⟩ = some (.int .i64 col) ∧ w3.drew.cell? ⟨w.heap.size, 3, none⟩ = some (.bool ra) ∧ w3.drew.cell? ⟨w.heap.size, 4, none⟩ = some (.bool ca)) := ⟨J.out.c1, J.out.c2, J.out.c3, J.out.c4⟩
  go_region_held3 (fun W => W.cell? ⟨w.heap.size, 1, none⟩ = some (.int .i64 row) ∧ W.cell? ⟨w.heap.size, 2, none⟩ = some (.int .i64 col) ∧ W.cell? ⟨w.heap.size, 3, none⟩ = some (.bool ra) ∧ W.cell? ⟨w.heap.size, 4, none⟩ = some (.bool ca)) (with_reducible (first | exact hk0.out | exact hk1.out | exact hk2.out))
    (first
      | (go_at_call_of 144 ca; refine (HS1.out _).mono ?_; rintro r w9 ⟨rfl, rfl⟩)
      | (go_at_call_of 144 ra; refine (HS2.out _).mono ?_; rintro r w9 ⟨rfl, rfl⟩)
      | (go_at_call 145; refine (HN.out _).mono ?_; rintro r w5 ⟨rfl, q5⟩; replace J := hid (J.out.on (Q.trans (Q.drew (Q.refl _)) q5)); have hk1 : Hid (w5.cell? ⟨w.heap.size, 1, none⟩ = some (.int .i64 row) ∧ w5.cell? ⟨w.heap.size, 2, none⟩ = some (.int .i64 col) ∧ w5.cell? ⟨w.heap.size, 3, none⟩ = some (.bool ra) ∧ w5.cell? ⟨w.heap.size, 4, none⟩ = some (.bool ca)) := ⟨J.out.c1, J.out.c2, J.out.c3, J.out.c4⟩)
      | (go_at_call 146; refine (HF.out _ J.out.q).mono ?_; rintro r w6 ⟨rfl, q6⟩; replace J := hid (J.out.on q6); have hk2 : Hid (w6.cell? ⟨w.heap.size, 1, none⟩ = some (.int .i64 row) ∧ w6.cell? ⟨w.heap.size, 2, none⟩ = some (.int .i64 col) ∧ w6.cell? ⟨w.heap.size, 3, none⟩ = some (.bool ra) ∧ w6.cell? ⟨w.heap.size, 4, none⟩ = some (.bool ca)) := ⟨J.out.c1, J.out.c2, J.out.c3, J.out.c4⟩))
  go_wp2
  go_ret
  exact ⟨rfl, J.out.q⟩
set_option maxHeartbeats 1000000 in
theorem print_no (sh : ByteArray) (row col : Int) (ra ca f1 f2 fi : Bool) (w : World)
    (HM1 : Hid (∀ W, Calls Tryz.prog 143 #[.int .i64 row] W fun e w' => e = .returned (.bool f1) ∧ w' = W))
    (HM2 : Hid (∀ W, Calls Tryz.prog 143 #[.int .i64 col] W fun e w' => e = .returned (.bool f2) ∧ w' = W))
    (HI : Hid (∀ W, Q w W → Calls Tryz.prog 69 #[.string sh] W fun e w' => e = .returned (.bool fi) ∧ Q W w'))
    (h : f1 = false ∨ f2 = false ∨ ((sh.toList == []) = false ∧ fi = false)) :
    Calls Tryz.prog 130 #[rv sh row col ra ca] w fun e w' => e = .returned (.string ⟨#[]⟩) ∧ Q w w' := by
  cases f1
  · clear h
    go_enter Tryz.func130, Tryz.ntmps130
    go_wp2_with (first | (go_at_call_of 143 row; refine (HM1.out _).mono ?_; rintro e w1 ⟨rfl, rfl⟩) | (go_at_call_of 143 col; refine (HM2.out _).mono ?_; rintro e w1 ⟨rfl, rfl⟩))
    go_ret
    exact ⟨rfl, (Q.refl _).alloc _⟩
  cases f2
  · clear h
    go_enter Tryz.func130, Tryz.ntmps130
    go_wp2_with (first | (go_at_call_of 143 row; refine (HM1.out _).mono ?_; rintro e w1 ⟨rfl, rfl⟩) | (go_at_call_of 143 col; refine (HM2.out _).mono ?_; rintro e w1 ⟨rfl, rfl⟩))
    go_ret
    exact ⟨rfl, (Q.refl _).alloc _⟩
  obtain ⟨hE, rfl⟩ : (sh.toList == []) = false ∧ fi = false := by
    rcases h with h | h | h
    · cases h
    · cases h
    · exact h
  go_enter Tryz.func130, Tryz.ntmps130
  go_wp2_with (first | (go_at_call_of 143 row; refine (HM1.out _).mono ?_; rintro e w1 ⟨rfl, rfl⟩) | (go_at_call_of 143 col; refine (HM2.out _).mono ?_; rintro e w1 ⟨rfl, rfl⟩) | (go_at_call 69; refine (HI.out _ (by repeat (first | exact Q.refl _ | refine Q.drewN ?_ _ | refine Q.alloc ?_ _))).mono ?_; rintro e w3 ⟨rfl, q3⟩))
  go_ret
  exact ⟨rfl, ((Q.refl _).alloc _).trans q3⟩
theorem print_any (sh : ByteArray) (row col : Int) (ra ca : Bool) (w : World) (hw : Std w) (ht : ∀ W, Q w W → Lib.TabIs Tryz.prog W "internal/strconv.uint64pow10" .u64 Lib.pow10Tab) (hs : sh.size ≤ 1000) :
    Calls Tryz.prog 130 #[rv sh row col ra ca] w fun e w' => e = .returned (.string ⟨(prR sh.data.toList row col ra ca).toArray⟩) ∧ Q w w' := by
  have HM1 := fun W => mayline_any row W
  have HM2 := fun W => mayline_any col W
  have HI := fun W (q : Q w W) => id_any sh W (hw.on q) (by omega)
  have et := Lib.toList_data sh
  unfold prR mayR
  cases h1 : decide (0 ≤ row ∧ row < 2199023255552)
  · rw [h1] at HM1
    refine (print_no sh row col ra ca _ _ _ w HM1 HM2 HI (.inl rfl)).mono fun e w' g => ⟨?_, g.2⟩
    rw [g.1, Bool.false_and, Bool.and_false]
    rfl
  cases h2 : decide (0 ≤ col ∧ col < 2199023255552)
  · rw [h2] at HM2
    refine (print_no sh row col ra ca _ _ _ w HM1 HM2 HI (.inr (.inl rfl))).mono fun e w' g => ⟨?_, g.2⟩
    rw [g.1, Bool.and_false, Bool.and_false]
    rfl
  rw [h1] at HM1
  rw [h2] at HM2
  have b1 := of_decide_eq_true h1
  have b2 := of_decide_eq_true h2
  obtain ⟨X1, X2, X3, hc⟩ := cat_of sh.data.toList row col ra ca (by rw [len_data]; exact hs) b1.1 b1.2
  have HF := fun W (q : Q w W) => fmt_any (row + 1) W (ht W q) (by omega) (by omega)
  by_cases he : sh.toList = []
  · have he2 : sh.data.toList = [] := by rw [← et, he]
    rw [he2] at hc ⊢
    refine (print_plain sh ⟨#[]⟩ _ _ _ _ X1 X2 X3 _ row col ra ca w hs HM1 HM2 (by rw [he]; rfl) (fun W => asign_any ca W) (fun W => asign_any ra W) (fun W => name_any col W) HF b1.1 b1.2 hc).mono fun e w' g => ⟨?_, g.2⟩
    rw [g.1]
    rfl
  · have hei : sh.data.toList.isEmpty = false := by
      rw [← et]
      cases hh : sh.toList
      · exact absurd hh he
      · rfl
    cases hi : idB sh.data.toList
    · rw [hi] at HI
      refine (print_no sh row col ra ca _ _ _ w HM1 HM2 HI (.inr (.inr ⟨by simpa using he, rfl⟩))).mono fun e w' g => ⟨?_, g.2⟩
      rw [g.1, hei]
      rfl
    · rw [hi] at HI
      have eS : sh ++ ⟨#[33]⟩ = ⟨(shX sh.data.toList).toArray⟩ := by
        unfold shX
        rw [hei]
        have e := bytes_cat sh.data.toList [33]
        exact e
      refine (print_sheet sh _ _ _ _ _ X1 X2 X3 _ row col ra ca w hs HM1 HM2 (by simpa using he) HI eS (fun W => asign_any ca W) (fun W => asign_any ra W) (fun W => name_any col W) HF b1.1 b1.2 hc).mono fun e w' g => ⟨?_, g.2⟩
      rw [g.1, Bool.or_true]
      rfl
def mall (nd : Ex → Bool) : Ex → Bool
  | .mk k n t b e rs ks => nd (.mk k n t b e rs ks) && mallL nd ks
  where
  mallL (nd : Ex → Bool) : List Ex → Bool
  | [] => true
  | x :: xs => mall nd x && mallL nd xs
theorem mallL_all (nd : Ex → Bool) (ks : List Ex) : mall.mallL nd ks = ks.all (mall nd) := by
  induction ks with
  | nil => simp [mall.mallL]
  | cons x xs ih => rw [mall.mallL, ih, List.all_cons]
set_option maxHeartbeats 4000000 in
theorem mayall_any (nd : Ex → Bool) (G : World → Prop) (hG : ∀ W W', G W → Q W W' → G W') (P : Ex → Prop) (hP : ∀ k n t b e rs ks, P (.mk k n t b e rs ks) → ∀ y ∈ ks, P y) (HN : Hid (∀ x v W, G W → P x → Rd W x v → Calls Tryz.prog 108 #[v] W fun e W' => e = .returned (.bool (nd x)) ∧ Q W W')) :
    ∀ (s : Nat) (x : Ex) (v : Value) (W : World), SizeOf.sizeOf x ≤ s → G W → P x → Rd W x v → Calls Tryz.prog 82 #[v] W fun e W' => e = .returned (.bool (mall nd x)) ∧ Q W W' := by
  intro s
  induction s with
  | zero =>
    intro x v W hs
    cases x with
    | mk k n t b e rs ks => simp at hs
  | succ s ih =>
    intro x v W hs hg hpx hr
    have HNx := hid (fun W1 (q : Q W W1) => HN.out x v W1 (hG _ _ hg q) hpx (Rd.on q _ _ hr))
    obtain ⟨k, n, t, b, e, rs, ks, rv, kv, ao, cap, rfl, hp⟩ := hr.prt
    obtain ⟨ar, cr, hrv, _⟩ := hp.rl
    have HD : Hid (mall nd x = (nd x && ks.all (mall nd))) := hid (by rw [hp.ex, mall, mallL_all])
    have HPK : Hid (∀ i (h : i < ks.length), P ks[i]) := hid (fun i h => hP k n t.data.toList b e rs ks (hp.ex ▸ hpx) _ (List.getElem_mem h))
    have IH := hid (fun (i : Nat) (h : i < ks.length) v W => ih ks[i] v W (by have := kid_size (k := k) (n := n) (t := t.data.toList) (b := b) (e := e) (rs := rs) i h; rw [← hp.ex] at this; omega))
    generalize mall nd x = d at HD ⊢
    have HP := hid hp
    have HGW := hid hg
    obtain rfl := hp.kl
    subst hrv
    have hroom : ks.length ≤ 9223372036854775807 := by have h1 := hp.le; have h2 := hp.mx; unfold maxLen at h2; omega
    have HX := hid (Bx.start W (.int .i64 k) (.int .i64 n) (.string t) (.bool b) (.int .i64 e) (.slice ar rs.length cr) (.slice ao ks.length cap) 40)
    clear hp hr ih hs hg hpx
    cases hnd : nd x
    · rw [hnd] at HNx
      have HR : Hid (d = false) := by show _ = _; rw [HD.out, hnd]; rfl
      go_enter Tryz.func82, Tryz.ntmps82
      go_wp2_with (go_at_call 108; refine (HNx.out _ ((Q.refl _).alloc _)).mono ?_; rintro e9 w1 ⟨rfl, q1⟩; have Q1 : Hid (Q W w1) := hid (((Q.refl _).alloc _).trans q1); clear q1)
      go_ret
      exact ⟨ret_bool HR.out.symm, Q1.out⟩
    · rw [hnd] at HNx
      have HR : Hid (d = ks.all (mall nd)) := by show _ = _; rw [HD.out, hnd, Bool.true_and]
      go_enter Tryz.func82, Tryz.ntmps82
      go_wp2_with (go_at_call 108; refine (HNx.out _ ((Q.refl _).alloc _)).mono ?_; rintro e9 w1 ⟨rfl, q1⟩; have Q1 : Hid (Q W w1) := hid (((Q.refl _).alloc _).trans q1); have X1 := hid (HX.out.on q1); clear q1; have c6 := X1.out.g6)
      go_loopw [11, 4] (fun z _ W' => ∃ (i : Nat), i ≤ ks.length ∧ z = .int .i64 (i : Int) ∧ Hid (Q W W') ∧ Hid ((ks.take i).all (mall nd) = true)) (fun z _ _ => ks.length - (intOf z).toNat)
      case atStart => exact ⟨0, Nat.zero_le _, rfl, Q1, rfl⟩
      case round =>
        obtain ⟨i, hi, rfl, hQ, hA⟩ := hrel
        by_cases hlt : i < ks.length
        · have hne : ks ≠ [] := by intro h; rw [h] at hlt; simp at hlt
          obtain ⟨b', off, rfl, hl⟩ := (HP.out.on hQ.out).kd hne
          obtain ⟨e0', e1, e2, e3, e4, e5, e6, hK⟩ := hl.kid i hlt
          obtain ⟨k', n', t', b1', e', a1', l1', c1', a2', l2', c2', hsh⟩ := hK.rd.shape
          simp only [Value.agg.injEq, Array.mk.injEq, List.cons.injEq, and_true] at hsh
          obtain ⟨rfl, rfl, rfl, rfl, rfl, rfl, rfl⟩ := hsh
          obtain ⟨h0, g1, h2, h3, h4, h5, h6, hrd⟩ := hK
          have HRD := hid hrd
          have HI := hid (fun W1 (q : Q wr W1) => IH.out i hlt _ W1 (hG _ _ HGW.out (hQ.out.trans q)) (HPK.out i hlt) (Rd.on q _ _ HRD.out))
          cases hb : mall nd ks[i]
          · rw [hb] at HI
            have HA2 : Hid (d = false) := by
              show _ = _
              rw [HR.out, Bool.eq_false_iff]
              intro e
              rw [List.all_eq_true] at e
              have := e ks[i] (List.getElem_mem hlt)
              rw [hb] at this
              cases this
            clear hl hrd hA
            go_wp2_with (go_at_call 82; refine (HI.out _ (by repeat (first | with_reducible exact Q.refl _ | with_reducible refine Q.alloc ?_ _))).mono ?_; rintro e9 w9 ⟨rfl, q9⟩; have Q9 : Hid (Q wr w9) := hid (Q.trans (by repeat (first | with_reducible exact Q.refl _ | with_reducible refine Q.alloc ?_ _)) q9); clear q9)
            go_ret
            exact ⟨ret_bool HA2.out.symm, hQ.out.trans Q9.out⟩
          · rw [hb] at HI
            have HA2 : Hid ((ks.take (i + 1)).all (mall nd) = true) := by
              show _ = _
              rw [List.take_succ_eq_append_getElem hlt, List.all_append, hA.out]
              simp [hb]
            clear hl hrd hA
            go_wp2_with (go_at_call 82; refine (HI.out _ (by repeat (first | with_reducible exact Q.refl _ | with_reducible refine Q.alloc ?_ _))).mono ?_; rintro e9 w9 ⟨rfl, q9⟩; have Q9 : Hid (Q wr w9) := hid (Q.trans (by repeat (first | with_reducible exact Q.refl _ | with_reducible refine Q.alloc ?_ _)) q9); clear q9)
            go_roundw
            case rel => exact ⟨i + 1, by omega, by go_num, hid (hQ.out.trans Q9.out), HA2⟩
            case measure => simp [intOf]; omega
        · have HA2 : Hid (d = true) := by
            show _ = _
            have := hA.out
            rw [List.take_of_length_le (by omega)] at this
            rw [HR.out, this]
          clear hA
          go_wp2_with fail
          go_ret
          exact ⟨ret_bool HA2.out.symm, hQ.out⟩
def vx (k n : Int) (t : ByteArray) (b : Bool) (e : Int) : Value := .agg #[.int .i64 k, .int .i64 n, .string t, .bool b, .int .i64 e]
structure Cb (W : World) (q : Nat) (cs : List Value) : Prop where
  c : ∀ j u, cs[j]? = some u → W.cell? ⟨q, j, none⟩ = some u
  f : ∀ j, W.frozen? ⟨q, j, none⟩ = false
  l : q < W.heap.size
theorem Cb.on {W W' : World} {q : Nat} {cs : List Value} (h : Cb W q cs) (x : Q W W') : Cb W' q cs :=
  ⟨fun j u hu => (x.cell h.l).trans (h.c j u hu), fun j => (Below.frozen x h.l).trans (h.f j), x.lt h.l⟩
theorem cb_new (W : World) (cs : List Value) (t : TypeId) : Cb (W.alloc (.cells cs.toArray t)) W.heap.size cs :=
  ⟨fun j u hu => by rw [World.cell?_alloc_at _ _ _ _ rfl]; simpa using hu, fun j => by simp [World.frozen?_alloc_new], by simp⟩
set_option maxHeartbeats 1000000 in
theorem short_any (s : ByteArray) (n : Int) (w : World) (n0 : 0 ≤ n) (n1 : n ≤ 2000) :
    Calls Tryz.prog 36 #[.string s, .int .i64 n] w fun e w' => e = .returned (.string (if n < (s.size : Int) then s.extract 0 n.toNat else s)) ∧ w' = w := by
  by_cases h : n < (s.size : Int)
  · have HE := hid (if_pos h : (if n < (s.size : Int) then s.extract 0 n.toNat else s) = _)
    go_enter Tryz.func36, Tryz.ntmps36
    go_wp2
    go_ret
    exact ⟨ret_str rfl, rfl⟩
  · have HE := hid (if_neg h : (if n < (s.size : Int) then s.extract 0 n.toNat else s) = _)
    go_enter Tryz.func36, Tryz.ntmps36
    go_wp2
    go_ret
    exact ⟨ret_str rfl, rfl⟩
set_option maxHeartbeats 2000000 in
theorem veq_same (k n : Int) (t : ByteArray) (b : Bool) (e : Int) (w : World) : Calls Tryz.prog 50 #[vx k n t b e, vx k n t b e] w fun x w' => x = .returned (.bool true) ∧ Q w w' := by
  unfold vx
  have e0 : (k == k) = true := by simp
  have e1 : (n == n) = true := by simp
  have e2 : (t.toList == t.toList) = true := by simp
  have e3 : (b == b) = true := by simp
  have e4 : (e == e) = true := by simp
  go_enter Tryz.func50, Tryz.ntmps50
  go_wp2_with fail
  go_ret
  exact ⟨rfl, ((Q.refl _).alloc _).alloc _⟩
set_option maxHeartbeats 2000000 in
theorem veq_kind (k n : Int) (t : ByteArray) (b : Bool) (e : Int) (k' n' : Int) (t' : ByteArray) (b' : Bool) (e' : Int) (w : World) (h : k ≠ k') : Calls Tryz.prog 50 #[vx k n t b e, vx k' n' t' b' e'] w fun x w' => x = .returned (.bool false) ∧ Q w w' := by
  unfold vx
  have e0 : (k == k') = false := by simpa using h
  clear h
  go_enter Tryz.func50, Tryz.ntmps50
  go_wp2_with fail
  go_ret
  exact ⟨rfl, ((Q.refl _).alloc _).alloc _⟩
def bc (L : List UInt8) : List Value := L.map fun b => .int .u8 b.toNat
theorem bc_len (L : List UInt8) : (bc L).length = L.length := by simp [bc]
theorem bc_app (L M : List UInt8) : bc (L ++ M) = bc L ++ bc M := by simp [bc]
theorem bc_str (s : ByteArray) : Lib.strCells s = bc s.data.toList := rfl
theorem heap_of {W : World} {i : Nat} {o : Obj} (h : W.heap[i]? = some o) : i < W.heap.size := by
  rcases Nat.lt_or_ge i W.heap.size with h' | h'
  · exact h'
  · rw [Array.getElem?_eq_none h'] at h
    cases h
structure Ww (p : Nat) (W W' : World) : Prop where
  b : Below p W W'
  k : ∀ i o, W.heap[i]? = some o → i ≠ p → (∀ c f, o ≠ .cells c 5 f) → W'.heap[i]? = some o
theorem Ww.refl (p : Nat) (W : World) : Ww p W W := ⟨Below.refl _ _, fun _ _ h _ _ => h⟩
theorem Ww.trans {p : Nat} {a b c : World} (h : Ww p a b) (k : Ww p b c) : Ww p a c := ⟨Below.trans h.b k.b, fun i o hi hp hn => k.k i o (h.k i o hi hp hn) hp hn⟩
theorem Ww.of {p : Nat} {a b : World} (q : Q a b) (hp : p ≤ a.heap.size) : Ww p a b := ⟨Below.mono q hp, fun i o hi _ _ => (Q.block q (heap_of hi)).trans hi⟩
theorem Ww.cq {p q : Nat} {W W' : World} {cs : List Value} (h : Ww p W W') (hq : Cq W q cs) (hne : q ≠ p) : Cq W' q cs := ⟨h.k _ _ hq.h hne (fun c f e => by cases e)⟩
theorem Ww.q {p : Nat} {w W W' : World} (h : Ww p W W') (q : Q w W) (hp : w.heap.size ≤ p) : Q w W' := Below.trans q (Below.mono h.b hp)
theorem ww_grow {p n : Nat} {W W2 : World} {v : Value} {xs : List Value} (ho : W.ownsRow (p + 1) 5 1 v n xs) (hg : W.grownBy W2 v.ownBlock) (hp : p < W.heap.size) : Ww p W W2 :=
  ⟨(Below.refl p W).grown hg (by omega) (fun k hk => by have := (ho.lt k hk).1; omega), fun i o hi _ hne => (hg.block i (heap_of hi) (fun e => by
    rcases ho.2 with ⟨hv, _⟩ | ⟨g, cap, cur, hv, _, hh, _⟩
    · rw [hv] at e
      cases e
    · rw [hv] at e
      have e' : i = g := Option.some.inj e
      subst e'
      rw [hh] at hi
      cases hi
      exact hne _ _ rfl)).trans hi⟩
structure Wr (p : Nat) (L : List UInt8) (W : World) : Prop where
  h : ∃ v, W.heap[p]? = some (.cells #[v] 59 (0, 0)) ∧ W.ownsRow (p + 1) 5 1 v L.length (bc L)
theorem Wr.lt {p : Nat} {L : List UInt8} {W : World} (h : Wr p L W) : p < W.heap.size := by
  obtain ⟨v, hb, _⟩ := h.h
  exact heap_of hb
theorem Wr.on {p : Nat} {L : List UInt8} {W W' : World} (h : Wr p L W) (q : Q W W') : Wr p L W' := by
  obtain ⟨v, hb, ho⟩ := h.h
  refine ⟨v, (Q.block q (heap_of hb)).trans hb, ho.1, ?_⟩
  rcases ho.2 with h | ⟨g, cap, cur, hv, hb, hg, h1, h2, h3, h4⟩
  · exact .inl h
  · exact .inr ⟨g, cap, cur, hv, hb, (Q.block q (heap_of hg)).trans hg, h1, h2, h3, h4⟩
theorem Wr.put {p : Nat} {L : List UInt8} {W : World} {v v' : Value} (hb : W.heap[p]? = some (.cells #[v] 59 (0, 0))) (ho : W.ownsRow (p + 1) 5 1 v' L.length (bc L)) : Wr p L (W.setCell ⟨p, 0, none⟩ v') ∧ Ww p W (W.setCell ⟨p, 0, none⟩ v') := by
  refine ⟨⟨v', ?_, ho.1, ?_⟩, (Below.refl p W).setCell (p := ⟨p, 0, none⟩) (Nat.le_refl _) v', fun i o hi hp _ => (heap_setCell_other W _ i v' hp).trans hi⟩
  · rw [setCell_eq_setRow W p 0 _ _ _ v' hb, setRow_heap W p _ _ _ _ hb]
    rfl
  · rcases ho.2 with h | ⟨g, cap, cur, hv, hb, hg, h1, h2, h3, h4⟩
    · exact .inl h
    · exact .inr ⟨g, cap, cur, hv, hb, (heap_setCell_other W _ g v' (by show g ≠ p; omega)).trans hg, h1, h2, h3, h4⟩
def vnF : Nat → Nat → List UInt8
  | 0, _ => []
  | k + 1, m => if m < 128 then [UInt8.ofNat m] else UInt8.ofNat (m % 128 + 128) :: vnF k (m / 128)
def vn (m : Nat) : List UInt8 := vnF 10 m
theorem vn_lt {m : Nat} (h : m < 128) : vn m = [UInt8.ofNat m] := by unfold vn vnF; rw [if_pos h]
theorem vnF_lt {k m : Nat} (h : m < 128) : vnF (k + 1) m = [UInt8.ofNat m] := by unfold vnF; rw [if_pos h]
theorem vnF_ge {k m : Nat} (h : ¬ m < 128) : vnF (k + 1) m = UInt8.ofNat (m % 128 + 128) :: vnF k (m / 128) := by rw [vnF, if_neg h]
theorem vnF_len (k m : Nat) : (vnF k m).length ≤ k := by
  induction k generalizing m with
  | zero => simp [vnF]
  | succ k ih =>
    by_cases h : m < 128
    · rw [vnF_lt h]; simp
    · rw [vnF_ge h]; simpa using ih (m / 128)
theorem wrap8 (m : Nat) : IntKind.u8.wrap (m : Int) = ((UInt8.ofNat m).toNat : Int) := by
  simp [IntKind.wrap, IntKind.bits, IntKind.signed]
theorem info5w : (Tryz.prog.info? 5).map (fun i => (i.zero, i.size, i.bytes)) = some (some (.int .u8 0), 1, 1) := by kernel_rfl
theorem vn_step {k m : Nat} {pre R : List UInt8} (hm : ¬ m < 128) (h : pre ++ vnF (k + 1) m = R) : (pre ++ [UInt8.ofNat (m % 128 + 128)]) ++ vnF k (m / 128) = R := by
  rw [← h, vnF_ge hm, List.append_assoc]
  rfl
theorem pow_div {m k : Nat} (h : m < 128 ^ (k + 1)) : m / 128 < 128 ^ k := by
  rw [Nat.pow_succ] at h
  exact Nat.div_lt_of_lt_mul (by omega)
def WL (p m : Nat) (L : List UInt8) (w : World) (m1 : Nat) (W : World) : Prop := ∃ (k : Nat) (pre : List UInt8), m1 < 18446744073709551616 ∧ m1 < 128 ^ (k + 1) ∧ pre.length + k ≤ 9 ∧ pre ++ vnF (k + 1) m1 = vn m ∧ Wr p (L ++ pre) W ∧ Ww p w W
theorem wl_app {p : Nat} {L : List UInt8} {W w2 : World} {v v' : Value} {b : UInt8} {o : Obj} (hbk : W.heap[p]? = some (.cells #[v] 59 (0, 0))) (hown : W.ownsRow (p + 1) 5 1 v L.length (bc L)) (hown' : w2.ownsRow (p + 1) 5 1 v' (L.length + 1) (bc L ++ [.int .u8 b.toNat])) (hgrow : (W.alloc o).grownBy w2 v.ownBlock) :
    w2.heap[p]? = some (.cells #[v] 59 (0, 0)) ∧ (∃ g cap, v' = .slice (some ⟨g, 0, none⟩) (L.length + 1) cap) ∧ Wr p (L ++ [b]) (w2.setCell ⟨p, 0, none⟩ v') ∧ Ww p W (w2.setCell ⟨p, 0, none⟩ v') := by
  have hlt : p < W.heap.size := heap_of hbk
  have hww : Ww p W w2 := (Ww.of ((Q.refl W).alloc o) (by omega)).trans (ww_grow (hown.alloc o) hgrow (by simp; omega))
  have hb2 : w2.heap[p]? = some (.cells #[v] 59 (0, 0)) := by
    rw [hgrow.block p (by simp; omega) (fun e => by
      rcases hown.2 with ⟨hv, _⟩ | ⟨g, cap, cur, hv, hg, _⟩
      · rw [hv] at e; cases e
      · rw [hv] at e
        have e' : p = g := Option.some.inj e
        omega), Lib.alloc_old W o p hlt]
    exact hbk
  refine ⟨hb2, ?_, ?_⟩
  · rcases hown'.2 with ⟨_, h0⟩ | ⟨g, cap, cur, hv, _⟩
    · omega
    · exact ⟨g, cap, hv⟩
  · have h := Wr.put (L := L ++ [b]) hb2 (by rw [bc_app, List.length_append]; exact hown')
    exact ⟨h.1, hww.trans h.2⟩
set_option maxHeartbeats 2000000 in
theorem wnum_any (p m : Nat) (L : List UInt8) (w : World) (hm : m < 18446744073709551616) (h : Wr p L w) (hL : L.length ≤ 1000000000) :
    Calls Tryz.prog 71 #[.pointer (some ⟨p, 0, none⟩), .int .u64 m] w fun e W' => e = .returned (.tuple #[]) ∧ Wr p (L ++ vn m) W' ∧ Ww p w W' := by
  obtain ⟨i0, hi, hz0, hz1, hz2⟩ := inf_of info5w
  have HW := hid h
  clear h
  go_enter Tryz.func71, Tryz.ntmps71
  go_wp2_with fail
  go_loopw [1] (fun s W => ∃ (m1 : Nat), s = .int .u64 m1 ∧ Hid (WL p m L w m1 W)) (fun s _ => (intOf s).toNat)
  case atStart => exact ⟨m, rfl, hid ⟨9, [], hm, by omega, by simp, rfl, by simpa using HW.out, Ww.refl _ _⟩⟩
  case round =>
    obtain ⟨m1, rfl, hwl⟩ := hrel
    obtain ⟨k, pre, hm1, hk1, hpl, hv, hw, hq⟩ := hwl.out
    clear hwl
    have HQ := hid hq
    have HV := hid hv
    have HK := hid hk1
    clear hq hv hk1
    have hln : (L ++ pre).length ≤ 1000000010 := by simp; omega
    have HM : Hid (∀ N : List UInt8, (L ++ pre) ++ N = L ++ (pre ++ N)) := hid (fun N => List.append_assoc _ _ _)
    generalize L ++ pre = M at hw HM hln
    obtain ⟨v, hbk, hown⟩ := hw.h
    clear hw HW
    have c0 : wr.cell? ⟨p, 0, none⟩ = some v := by rw [Lib.cell_of_heap hbk]; rfl
    have HB := hid hbk
    have HO := hid hown
    have hlt : p < wr.heap.size := heap_of hbk
    have HPL := hid hpl
    clear hbk hown hpl
    by_cases hs : m1 < 128
    · have hs' : ¬ (128 : Int) ≤ (m1 : Int) := by omega
      have HE : Hid (M ++ [UInt8.ofNat m1] = L ++ vn m) := hid (by rw [HM.out, ← HV.out, vnF_lt hs])
      have e8 : IntKind.u8.wrap (m1 : Int) = ((UInt8.ofNat m1).toNat : Int) := wrap8 m1
      generalize UInt8.ofNat m1 = b at HE e8
      clear HV HK hs
      go_wp2_with (at_builtin; refine wpList_append_own _ rfl _ _ 25 rfl (p + 1) 5 i0 (.int .u8 0) 1 1 Tryz.underlying25 hi hz0 hz1 hz2 rfl (by decide) _ _ _ rfl (HO.out.alloc _) ⟨wr.heap.size, 0, none⟩ 1 1 [.int .u8 b.toNat] rfl rfl (news_at _ [.int .u8 b.toNat] 5 _ rfl) (by intro u hu; simp at hu; subst hu; rfl) (by unfold maxLen; omega) (by omega) (by simp; omega) ?_)
      intro v' w2 hown' hgrow _
      obtain ⟨hb2, ⟨g, cap, rfl⟩, hf⟩ := wl_app HB.out HO.out hown' hgrow
      have HF := hid hf
      have d0 : w2.cell? ⟨p, 0, none⟩ = some v := by rw [Lib.cell_of_heap hb2]; rfl
      have f0 : w2.frozen? ⟨p, 0, none⟩ = false := Lib.frozen_of_heap hb2 0
      clear hown' hgrow hf hb2 HO HB
      go_wp2_with fail
      go_end0
      exact ⟨rfl, HE.out ▸ HF.out.1, HQ.out.trans HF.out.2⟩
    · have hs' : (128 : Int) ≤ (m1 : Int) := by omega
      obtain ⟨j, rfl⟩ : ∃ j, k = j + 1 := ⟨k - 1, by
        have := HK.out
        rcases k with _ | k
        · simp at this; omega
        · rfl⟩
      have HS := hid (vn_step hs HV.out)
      have HD := hid (pow_div HK.out)
      clear HV HK
      have hdm : m1 / 128 < m1 := by omega
      have HX : Hid (M ++ [UInt8.ofNat (m1 % 128 + 128)] = L ++ (pre ++ [UInt8.ofNat (m1 % 128 + 128)])) := hid (HM.out _)
      have e8 : IntKind.u8.wrap (((m1 % 128 : Nat) : Int) + 128) = ((UInt8.ofNat (m1 % 128 + 128)).toNat : Int) := wrap8 (m1 % 128 + 128)
      generalize UInt8.ofNat (m1 % 128 + 128) = b at HX e8 HS
      have eR : (m1 : Int) % 128 = ((m1 % 128 : Nat) : Int) := by omega
      have hr : m1 % 128 < 128 := by omega
      generalize m1 % 128 = r at eR hr e8
      have eD : (m1 : Int) / 128 = ((m1 / 128 : Nat) : Int) := by omega
      generalize m1 / 128 = d at eD HS HD hdm
      have e64 : IntKind.u64.wrap ((r : Int) + 128) = ((r : Int) + 128) := by simp [IntKind.wrap, IntKind.bits, IntKind.signed]; omega
      go_wp2_with (at_builtin; refine wpList_append_own _ rfl _ _ 25 rfl (p + 1) 5 i0 (.int .u8 0) 1 1 Tryz.underlying25 hi hz0 hz1 hz2 rfl (by decide) _ _ _ rfl (HO.out.alloc _) ⟨wr.heap.size, 0, none⟩ 1 1 [.int .u8 b.toNat] rfl rfl (news_at _ [.int .u8 b.toNat] 5 _ rfl) (by intro u hu; simp at hu; subst hu; rfl) (by unfold maxLen; omega) (by omega) (by simp; omega) ?_)
      intro v' w2 hown' hgrow _
      obtain ⟨hb2, ⟨g, cap, rfl⟩, hf⟩ := wl_app HB.out HO.out hown' hgrow
      have HF := hid hf
      have d0 : w2.cell? ⟨p, 0, none⟩ = some v := by rw [Lib.cell_of_heap hb2]; rfl
      have f0 : w2.frozen? ⟨p, 0, none⟩ = false := Lib.frozen_of_heap hb2 0
      clear hown' hgrow hf hb2 HO HB
      go_wp2_with fail
      go_roundw
      case rel => exact ⟨d, by go_num, hid ⟨j, pre ++ [b], by omega, HD.out, by have := HPL.out; simp; omega, HS.out, HX.out ▸ HF.out.1, HQ.out.trans HF.out.2⟩⟩
      case measure => simp [intOf]; omega
theorem vn_len (m : Nat) : (vn m).length ≤ 10 := vnF_len 10 m
set_option maxHeartbeats 2000000 in
theorem wcount_any (p m : Nat) (L : List UInt8) (w : World) (hm : m < 9223372036854775808) (h : Wr p L w) (hL : L.length ≤ 1000000000) :
    Calls Tryz.prog 38 #[.pointer (some ⟨p, 0, none⟩), .int .i64 m] w fun e W' => e = .returned (.tuple #[]) ∧ Wr p (L ++ vn m) W' ∧ Ww p w W' := by
  have HN := hid (wnum_any p m L w (by omega) h hL)
  have eW : IntKind.u64.wrap (m : Int) = (m : Int) := by simp [IntKind.wrap, IntKind.bits, IntKind.signed]; omega
  clear h
  go_enter Tryz.func38, Tryz.ntmps38
  go_wp2_with (go_at_call 71; refine HN.out.mono ?_; rintro e9 y9 ⟨rfl, hw9, hq9⟩; have HF := hid (And.intro hw9 hq9); clear hw9 hq9)
  go_end0
  exact ⟨rfl, HF.out⟩
set_option maxHeartbeats 2000000 in
theorem wline_any (p m : Nat) (L : List UInt8) (w : World) (hm : m < 9223372036854775808) (h : Wr p L w) (hL : L.length ≤ 1000000000) :
    Calls Tryz.prog 72 #[.pointer (some ⟨p, 0, none⟩), .int .i64 m] w fun e W' => e = .returned (.tuple #[]) ∧ Wr p (L ++ vn m) W' ∧ Ww p w W' := by
  have HN := hid (wnum_any p m L w (by omega) h hL)
  have eW : IntKind.u64.wrap (m : Int) = (m : Int) := by simp [IntKind.wrap, IntKind.bits, IntKind.signed]; omega
  clear h
  go_enter Tryz.func72, Tryz.ntmps72
  go_wp2_with (go_at_call 71; refine HN.out.mono ?_; rintro e9 y9 ⟨rfl, hw9, hq9⟩; have HF := hid (And.intro hw9 hq9); clear hw9 hq9)
  go_end0
  exact ⟨rfl, HF.out⟩
theorem vn_pos (m : Nat) : 1 ≤ (vn m).length := by
  unfold vn
  by_cases h : m < 128
  · rw [vnF_lt h]; simp
  · rw [vnF_ge h]; simp
set_option maxHeartbeats 2000000 in
theorem wtext_big (p : Nat) (s : ByteArray) (L : List UInt8) (w : World) (hs : s.size ≤ 2000000) (h : Wr p L w) (hL : L.length ≤ 1000000000) :
    Calls Tryz.prog 55 #[.pointer (some ⟨p, 0, none⟩), .string s] w fun e W' => e = .returned (.tuple #[]) ∧ Wr p (L ++ vn s.size ++ s.data.toList) W' ∧ Ww p w W' := by
  obtain ⟨i0, hi, hz0, hz1, hz2⟩ := inf_of info5w
  have HN := hid (wcount_any p s.size L w (by omega) h hL)
  clear h
  go_enter Tryz.func55, Tryz.ntmps55
  go_upto_region 1 with (go_at_call 38; refine HN.out.mono ?_; rintro e9 w1 ⟨rfl, hw9, hq9⟩; have HW := hid hw9; have HQ := hid hq9; clear hw9 hq9)
  have hln : (L ++ vn s.size).length ≤ 1000000010 := by have := vn_len s.size; simp; omega
  have hl0 : 0 < (L ++ vn s.size).length := by have := vn_pos s.size; simp; omega
  obtain ⟨M, hM⟩ : ∃ M, Hid (M = L ++ vn s.size) := ⟨_, hid rfl⟩
  rw [← hM.out] at HW hln hl0
  obtain ⟨v, hbk, hown⟩ := HW.out.h
  have hlt : p < w1.heap.size := heap_of hbk
  have c0 : w1.cell? ⟨p, 0, none⟩ = some v := by rw [Lib.cell_of_heap hbk]; rfl
  go_wp2_with (at_builtin; (refine Lib.wpList_append_own_string _ rfl _ _ 25 9 rfl (p + 1) 5 i0 Tryz.underlying25 Tryz.underlying9 hi hz0 hz1 hz2 _ _ _ rfl hown s rfl (by unfold maxLen; omega) (by omega) (by omega) ?_))
  intro v' w2 hown' hgrow _
  have hww : Hid (Ww p w1 w2) := hid (ww_grow hown hgrow hlt)
  have hb2 : w2.heap[p]? = some (.cells #[v] 59 (0, 0)) := by
    rw [hgrow.block p hlt (fun e => by
      rcases hown.2 with ⟨hv, _⟩ | ⟨g, cap, cur, hv, hg, _⟩
      · rw [hv] at e; cases e
      · rw [hv] at e
        have e' : p = g := Option.some.inj e
        omega)]
    exact hbk
  have d0 : w2.cell? ⟨p, 0, none⟩ = some v := by rw [Lib.cell_of_heap hb2]; rfl
  have f0 : w2.frozen? ⟨p, 0, none⟩ = false := Lib.frozen_of_heap hb2 0
  obtain ⟨g, cap, rfl⟩ : ∃ g cap, v' = .slice (some ⟨g, 0, none⟩) (M.length + s.size) cap := by
    rcases hown'.2 with ⟨_, h0⟩ | ⟨g, cap, cur, hv, _⟩
    · omega
    · exact ⟨g, cap, hv⟩
  have HP := hid (Wr.put (L := M ++ s.data.toList) hb2 (by rw [bc_app, List.length_append, len_data, ← bc_str]; exact hown'))
  clear hown hown' hgrow
  go_wp2
  go_end0
  exact ⟨rfl, hM.out ▸ HP.out.1, HQ.out.trans (hww.out.trans HP.out.2)⟩
theorem wtext_any (p : Nat) (s : ByteArray) (L : List UInt8) (w : World) (hs : s.size ≤ 1000000) (h : Wr p L w) (hL : L.length ≤ 1000000000) :
    Calls Tryz.prog 55 #[.pointer (some ⟨p, 0, none⟩), .string s] w fun e W' => e = .returned (.tuple #[]) ∧ Wr p (L ++ vn s.size ++ s.data.toList) W' ∧ Ww p w W' := wtext_big p s L w (by omega) h hL
theorem wpl_boxn {w : World} {ops : Array Oper} {rest : List Oper} {o : Oper} {a : Act} {Q' : Exit → Act → World → Prop} (x : Operand) (ho : o.op = .box 54 x) (hg : o.guard = none) (cs : List Value) (hx : (a.eval x).cells = cs.toArray)
    (h : ∀ w' N, Cq w' N cs → Q w w' → w.heap.size ≤ N → wpList Tryz.prog ops Q' rest (a.put o.dst (.pointer (some ⟨N, 0, none⟩))) w') : wpList Tryz.prog ops Q' (o :: rest) a w :=
  Great.wpList_boxTo hg 54 x ho _ rfl _ rfl _ hx (h _ _ (cq_new w cs) ((Q.refl w).alloc _) (Nat.le_refl _))
set_option maxHeartbeats 4000000 in
theorem wcell0 (p : Nat) (L : List UInt8) (x2 x3 x4 x5 x6 x7 x8 x9 x10 x11 x12 : Value) (w : World) (h : Wr p L w) (hL : L.length ≤ 1000000000) :
    Calls Tryz.prog 29 #[.pointer (some ⟨p, 0, none⟩), .agg #[.bool false, .int .i64 0, x2, x3, x4, x5, x6, x7, x8, x9, x10, x11, x12]] w fun e W' => e = .returned (.tuple #[]) ∧ Wr p (L ++ [0]) W' ∧ Ww p w W' := by
  have HW := hid h
  have hlt := h.lt
  clear h
  go_enter Tryz.func29, Tryz.ntmps29
  go_upto_region 1 with fail
  have d0 : (w.alloc (.cells #[.bool false, .int .i64 0, x2, x3, x4, x5, x6, x7, x8, x9, x10, x11, x12] 42)).cell? ⟨w.heap.size, 0, none⟩ = some (.bool false) := by rw [Lib.cell_of_heap (heap_alloc_last w _)]; rfl
  have d1 : (w.alloc (.cells #[.bool false, .int .i64 0, x2, x3, x4, x5, x6, x7, x8, x9, x10, x11, x12] 42)).cell? ⟨w.heap.size, 1, none⟩ = some (.int .i64 0) := by rw [Lib.cell_of_heap (heap_alloc_last w _)]; rfl
  have hB : Hid ((w.alloc (.cells #[.bool false, .int .i64 0, x2, x3, x4, x5, x6, x7, x8, x9, x10, x11, x12] 42)).heap[w.heap.size]? = some (.cells #[.bool false, .int .i64 0, x2, x3, x4, x5, x6, x7, x8, x9, x10, x11, x12] 42 (0, 0))) := hid (heap_alloc_last w _)
  have QA : Hid (Q w (w.alloc (.cells #[.bool false, .int .i64 0, x2, x3, x4, x5, x6, x7, x8, x9, x10, x11, x12] 42))) := hid ((Q.refl w).alloc _)
  have HNE : Hid (w.heap.size ≠ p) := hid (by omega)
  generalize w.alloc (.cells #[.bool false, .int .i64 0, x2, x3, x4, x5, x6, x7, x8, x9, x10, x11, x12] 42) = w1 at d0 d1 hB QA ⊢
  generalize w.heap.size = b0 at d0 d1 hB HNE ⊢
  have HN := hid (wcount_any p 0 L w1 (by decide) (HW.out.on QA.out) hL)
  go_wp2_with (go_at_call 38; refine HN.out.mono ?_; rintro e9 w2 ⟨rfl, hw9, hq9⟩; have HF := hid (And.intro hw9 ((Ww.of QA.out (Nat.le_of_lt HW.out.lt)).trans hq9)); have d1' : w2.cell? ⟨b0, 1, none⟩ = some (.int .i64 0) := (by rw [Lib.cell_of_heap (hq9.k _ _ hB.out HNE.out (fun c f e => by cases e))]; rfl); clear hw9 hq9)
  go_end0
  exact ⟨rfl, HF.out⟩
set_option maxHeartbeats 8000000 in
theorem wop5 (p : Nat) (L : List UInt8) (sh nm : ByteArray) (x2 x3 x4 x5 x6 x7 x8 x9 x10 x11 x12 x13 x14 x15 x16 x17 x18 x19 x20 x21 : Value) (w : World) (h : Wr p L w) (hL : L.length ≤ 100000000) (hsh : sh.size ≤ 1000000) (hnm : nm.size ≤ 1000000) :
    Calls Tryz.prog 39 #[.pointer (some ⟨p, 0, none⟩), .agg #[.int .i64 5, .string sh, x2, x3, x4, x5, x6, x7, x8, x9, x10, x11, x12, x13, x14, x15, x16, x17, x18, x19, x20, x21, .string nm]] w fun e W' => e = .returned (.tuple #[]) ∧ Wr p (L ++ (vn 5 ++ (vn sh.size ++ (sh.data.toList ++ (vn nm.size ++ nm.data.toList))))) W' ∧ Ww p w W' := by
  have HB := hid (And.intro (vn_len 5) (And.intro (vn_len sh.size) (vn_len nm.size)))
  have HW := hid h
  have T0 : Hid True := hid trivial
  clear h
  go_enter Tryz.func39, Tryz.ntmps39
  go_upto_region 1 with (with_reducible refine wpl_boxn _ (by with_unfolding_all rfl) (by with_unfolding_all rfl) [.int .i64 5, .string sh, x2, x3, x4, x5, x6, x7, x8, x9, x10, x11, x12, x13, x14, x15, x16, x17, x18, x19, x20, x21, .string nm] (by with_unfolding_all rfl) ?_; intro w1 b0 hZ hQ hN; have HZ := hid hZ; have HNE : Hid (b0 ≠ p) := hid (by have := HW.out.lt; omega); have HQ : Hid (Ww p w w1) := hid (Ww.of hQ (Nat.le_of_lt HW.out.lt)); replace HW := hid (HW.out.on hQ); have d0 := HZ.out.c 0 _ rfl; have d1 := HZ.out.c 1 _ rfl; have d2 := HZ.out.c 2 _ rfl; have d3 := HZ.out.c 3 _ rfl; have d4 := HZ.out.c 4 _ rfl; have d5 := HZ.out.c 5 _ rfl; have d6 := HZ.out.c 6 _ rfl; have d7 := HZ.out.c 7 _ rfl; have d8 := HZ.out.c 8 _ rfl; have d9 := HZ.out.c 9 _ rfl; have d10 := HZ.out.c 10 _ rfl; have d11 := HZ.out.c 11 _ rfl; have d12 := HZ.out.c 12 _ rfl; have d13 := HZ.out.c 13 _ rfl; have d14 := HZ.out.c 14 _ rfl; have d15 := HZ.out.c 15 _ rfl; have d16 := HZ.out.c 16 _ rfl; have d17 := HZ.out.c 17 _ rfl; have d18 := HZ.out.c 18 _ rfl; have d19 := HZ.out.c 19 _ rfl; have d20 := HZ.out.c 20 _ rfl; have d21 := HZ.out.c 21 _ rfl; have d22 := HZ.out.c 22 _ rfl; clear hZ hQ hN)
  go_wp2_with (first
    | (go_at_call 38; (refine (wcount_any p 5 _ _ (by decide) HW.out (by (try simp only [List.length_append, len_data]); have := HB.out; omega)).mono ?_; rintro e9 y9 ⟨rfl, hw9, hq9⟩; replace HW := hid hw9; replace HZ := hid (hq9.cq HZ.out HNE.out); replace HQ := hid (HQ.out.trans hq9); have d0 := HZ.out.c 0 _ rfl; have d1 := HZ.out.c 1 _ rfl; have d2 := HZ.out.c 2 _ rfl; have d3 := HZ.out.c 3 _ rfl; have d4 := HZ.out.c 4 _ rfl; have d5 := HZ.out.c 5 _ rfl; have d6 := HZ.out.c 6 _ rfl; have d7 := HZ.out.c 7 _ rfl; have d8 := HZ.out.c 8 _ rfl; have d9 := HZ.out.c 9 _ rfl; have d10 := HZ.out.c 10 _ rfl; have d11 := HZ.out.c 11 _ rfl; have d12 := HZ.out.c 12 _ rfl; have d13 := HZ.out.c 13 _ rfl; have d14 := HZ.out.c 14 _ rfl; have d15 := HZ.out.c 15 _ rfl; have d16 := HZ.out.c 16 _ rfl; have d17 := HZ.out.c 17 _ rfl; have d18 := HZ.out.c 18 _ rfl; have d19 := HZ.out.c 19 _ rfl; have d20 := HZ.out.c 20 _ rfl; have d21 := HZ.out.c 21 _ rfl; have d22 := HZ.out.c 22 _ rfl; clear hw9 hq9))
    | (go_at_call 55; clear T0; (refine (wtext_any p sh _ _ hsh HW.out (by (try simp only [List.length_append, len_data]); have := HB.out; omega)).mono ?_; rintro e9 y9 ⟨rfl, hw9, hq9⟩; replace HW := hid hw9; replace HZ := hid (hq9.cq HZ.out HNE.out); replace HQ := hid (HQ.out.trans hq9); have d0 := HZ.out.c 0 _ rfl; have d1 := HZ.out.c 1 _ rfl; have d2 := HZ.out.c 2 _ rfl; have d3 := HZ.out.c 3 _ rfl; have d4 := HZ.out.c 4 _ rfl; have d5 := HZ.out.c 5 _ rfl; have d6 := HZ.out.c 6 _ rfl; have d7 := HZ.out.c 7 _ rfl; have d8 := HZ.out.c 8 _ rfl; have d9 := HZ.out.c 9 _ rfl; have d10 := HZ.out.c 10 _ rfl; have d11 := HZ.out.c 11 _ rfl; have d12 := HZ.out.c 12 _ rfl; have d13 := HZ.out.c 13 _ rfl; have d14 := HZ.out.c 14 _ rfl; have d15 := HZ.out.c 15 _ rfl; have d16 := HZ.out.c 16 _ rfl; have d17 := HZ.out.c 17 _ rfl; have d18 := HZ.out.c 18 _ rfl; have d19 := HZ.out.c 19 _ rfl; have d20 := HZ.out.c 20 _ rfl; have d21 := HZ.out.c 21 _ rfl; have d22 := HZ.out.c 22 _ rfl; clear hw9 hq9))
    | (go_at_call 55; (refine (wtext_any p nm _ _ hnm HW.out (by (try simp only [List.length_append, len_data]); have := HB.out; omega)).mono ?_; rintro e9 y9 ⟨rfl, hw9, hq9⟩; replace HW := hid hw9; replace HZ := hid (hq9.cq HZ.out HNE.out); replace HQ := hid (HQ.out.trans hq9); have d0 := HZ.out.c 0 _ rfl; have d1 := HZ.out.c 1 _ rfl; have d2 := HZ.out.c 2 _ rfl; have d3 := HZ.out.c 3 _ rfl; have d4 := HZ.out.c 4 _ rfl; have d5 := HZ.out.c 5 _ rfl; have d6 := HZ.out.c 6 _ rfl; have d7 := HZ.out.c 7 _ rfl; have d8 := HZ.out.c 8 _ rfl; have d9 := HZ.out.c 9 _ rfl; have d10 := HZ.out.c 10 _ rfl; have d11 := HZ.out.c 11 _ rfl; have d12 := HZ.out.c 12 _ rfl; have d13 := HZ.out.c 13 _ rfl; have d14 := HZ.out.c 14 _ rfl; have d15 := HZ.out.c 15 _ rfl; have d16 := HZ.out.c 16 _ rfl; have d17 := HZ.out.c 17 _ rfl; have d18 := HZ.out.c 18 _ rfl; have d19 := HZ.out.c 19 _ rfl; have d20 := HZ.out.c 20 _ rfl; have d21 := HZ.out.c 21 _ rfl; have d22 := HZ.out.c 22 _ rfl; clear hw9 hq9)))
  go_end0
  refine ⟨rfl, ?_, HQ.out⟩
  have := HW.out
  simpa [List.append_assoc] using this
end Go.Proofs.YtcgddnliiondoaaGreatDoor
