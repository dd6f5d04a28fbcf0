/- Small functions of show and value, walked; show.errorNamed, readValue, readFormula, Read, walked; show.readValue, walked. -/
import Derived.Test.YtgheopdadfnilaaGreatDoorKr11
import Derived.Test.YtgheopdadfnilaaGreatDoorKr01
import Derived.Test.YtgheopdadfnilaaGreatDoorKr02
import Derived.Test.YtgheopdadfnilaaGreatDoorKr20
set_option linter.unusedVariables false
set_option linter.unusedSimpArgs false
set_option maxRecDepth 100000
namespace Go.Proofs.YtgheopdadfnilaaGreatDoor
open Go.RowKit
def vx (k n : Int) (t : ByteArray) (b : Bool) (e : Int) : Value := .agg #[.int .i64 k, .int .i64 n, .string t, .bool b, .int .i64 e]
set_option maxHeartbeats 2000000 in
theorem fault_any (k n : Int) (t : ByteArray) (b : Bool) (e : Int) (w : World) (hw : Std w) (hs : (t.size : Int) ≤ 9223372036854775000) :
    Calls Tryz.prog 115 #[vx k n t b e] w fun x w' => x = .returned (.int .i64 (if V.mayB k n t.toList b e then e else 5)) ∧ Q w w' := by
  have HM := hid (fun W' (q : Q w W') => V.may_any k n t b e W' (hw.on q) hs)
  generalize V.mayB k n t.toList b e = r at HM ⊢
  unfold V.vv at HM
  unfold vx
  clear hw
  cases r
  · go_enter Tryz.func115, Tryz.ntmps115
    go_wp2_with (go_at_call 43; refine (HM.out _ ((Q.refl _).alloc _)).mono ?_; rintro e9 w1 ⟨rfl, q1⟩; have Q1 : Hid (Q w w1) := hid (((Q.refl _).alloc _).trans q1); clear q1)
    go_ret
    exact ⟨rfl, Q1.out⟩
  · go_enter Tryz.func115, Tryz.ntmps115
    go_wp2_with (go_at_call 43; refine (HM.out _ ((Q.refl _).alloc _)).mono ?_; rintro e9 w1 ⟨rfl, q1⟩; have Q1 : Hid (Q w w1) := hid (((Q.refl _).alloc _).trans q1); have c4 : w1.cell? ⟨w.heap.size, 4, none⟩ = some (.int .i64 e) := (by rw [q1.cell (by simp)]; simp [World.cell?_alloc_new]); clear q1)
    go_ret
    exact ⟨rfl, Q1.out⟩
theorem readTruth_any (s : ByteArray) (w : World) : Calls Tryz.prog 116 #[.string s] w fun e w' => e = .returned (.tuple #[.bool (decide (s.data.toList = truW)), .int .i64 (if s.data.toList = truW ∨ s.data.toList = flsW then 0 else 5)]) ∧ w' = w := by
  have et := hid (Lib.toList_data s)
  by_cases h1 : s.data.toList = truW
  · have f1 : (s.toList == [84, 82, 85, 69]) = true := by rw [et.out, beq_iff_eq]; exact h1
    rw [if_pos (.inl h1), decide_eq_true h1]
    clear et h1
    go_enter Tryz.func116, Tryz.ntmps116
    go_wp2
    go_ret2
    exact ⟨rfl, rfl⟩
  · have f1 : (s.toList == [84, 82, 85, 69]) = false := by rw [et.out, beq_eq_false_iff_ne]; exact h1
    rw [decide_eq_false h1]
    by_cases h2 : s.data.toList = flsW
    · have f2 : (s.toList == [70, 65, 76, 83, 69]) = true := by rw [et.out, beq_iff_eq]; exact h2
      rw [if_pos (.inr h2)]
      clear et h1 h2
      go_enter Tryz.func116, Tryz.ntmps116
      go_wp2
      go_ret2
      exact ⟨rfl, rfl⟩
    · have f2 : (s.toList == [70, 65, 76, 83, 69]) = false := by rw [et.out, beq_eq_false_iff_ne]; exact h2
      rw [if_neg (fun e => e.elim h1 h2)]
      clear et h1 h2
      go_enter Tryz.func116, Tryz.ntmps116
      go_wp2
      go_ret2
      exact ⟨rfl, rfl⟩
theorem mt_true : V.mtB truW = true ∧ V.mtB flsW = true := by decide
set_option maxHeartbeats 2000000 in
theorem truth_text (t : ByteArray) (w : World) (hw : Std w) (hs : (t.size : Int) ≤ 9223372036854775000) :
    Calls Tryz.prog 80 #[vx 2 0 t false 0] w fun e w' => e = .returned (.tuple #[.bool (decide (t.data.toList = truW)), .int .i64 (if t.data.toList = truW ∨ t.data.toList = flsW then 0 else 5)]) ∧ Q w w' := by
  have HF := hid (fun W' (q : Q w W') => fault_any 2 0 t false 0 W' (hw.on q) hs)
  have HR := hid (fun W' => readTruth_any t W')
  have hm : V.mayB 2 0 t.toList false 0 = V.mtB t.toList := by simp [V.mayB]
  rw [hm] at HF
  clear hw hm
  by_cases hb : V.mtB t.toList = true
  · rw [hb, if_pos rfl] at HF
    generalize (if t.data.toList = truW ∨ t.data.toList = flsW then (0 : Int) else 5) = r at HR ⊢
    generalize decide (t.data.toList = truW) = d at HR ⊢
    unfold vx at HF ⊢
    clear hb
    go_enter Tryz.func80, Tryz.ntmps80
    go_wp2_with (first | (go_at_call 115; refine (HF.out _ ((Q.refl _).alloc _)).mono ?_; rintro e9 w1 ⟨rfl, q1⟩; have Q1 : Hid (Q w w1) := hid (((Q.refl _).alloc _).trans q1); have c0 : w1.cell? ⟨w.heap.size, 0, none⟩ = some (.int .i64 2) := (by rw [q1.cell (by simp)]; simp [World.cell?_alloc_new]); have c2 : w1.cell? ⟨w.heap.size, 2, none⟩ = some (.string t) := (by rw [q1.cell (by simp)]; simp [World.cell?_alloc_new]); clear q1) | (go_at_call 116; refine (HR.out _).mono ?_; rintro e9 w2 ⟨rfl, rfl⟩))
    go_ret2
    exact ⟨rfl, Q1.out⟩
  · have hb' : V.mtB t.toList = false := by simpa using hb
    rw [hb'] at HF
    have h1 : ¬ t.data.toList = truW := fun e => hb (by rw [Lib.toList_data, e]; exact mt_true.1)
    have h2 : ¬ t.data.toList = flsW := fun e => hb (by rw [Lib.toList_data, e]; exact mt_true.2)
    rw [if_neg (fun e => e.elim h1 h2), decide_eq_false h1]
    clear hb hb' h1 h2 HR
    unfold vx at HF ⊢
    go_enter Tryz.func80, Tryz.ntmps80
    go_wp2_with (go_at_call 115; refine (HF.out _ ((Q.refl _).alloc _)).mono ?_; rintro e9 w1 ⟨rfl, q1⟩; have Q1 : Hid (Q w w1) := hid (((Q.refl _).alloc _).trans q1); clear q1)
    go_ret2
    exact ⟨rfl, Q1.out⟩
structure Cb (W : World) (q : Nat) (cs : List Value) : Prop where
  c : ∀ j u, cs[j]? = some u → W.cell? ⟨q, j, none⟩ = some u
  f : ∀ j, W.frozen? ⟨q, j, none⟩ = false
  l : q < W.heap.size
theorem Cb.on {W W' : World} {q : Nat} {cs : List Value} (h : Cb W q cs) (x : Q W W') : Cb W' q cs :=
  ⟨fun j u hu => (x.cell h.l).trans (h.c j u hu), fun j => (Below.frozen x h.l).trans (h.f j), x.lt h.l⟩
theorem cb_new (W : World) (cs : List Value) (t : TypeId) : Cb (W.alloc (.cells cs.toArray t)) W.heap.size cs :=
  ⟨fun j u hu => by rw [World.cell?_alloc_at _ _ _ _ rfl]; simpa using hu, fun j => by simp [World.frozen?_alloc_new], by simp⟩
theorem textValue_any (s : ByteArray) (w : World) (hs : s.size ≤ 281474976710656) : Calls Tryz.prog 77 #[.string s] w fun e w' => e = .returned (vx 2 0 s false 0) ∧ Q w w' := by
  have HC := hid (fun W' => clone_any s W' hs)
  have HZ := hid (cb_new w [.int .i64 0, .int .i64 0, .string ⟨#[]⟩, .bool false, .int .i64 0] 37)
  unfold vx
  go_enter Tryz.func77, Tryz.ntmps77
  go_wp2_with (go_at_call 89; refine (HC.out _).mono ?_; rintro e9 w1 ⟨rfl, q1⟩; have Z1 := hid (HZ.out.on q1); have Q1 : Hid (Q w w1) := hid (((Q.refl _).alloc _).trans q1); clear q1; have d0 := Z1.out.c 0 _ rfl; have d1 := Z1.out.c 1 _ rfl; have d2 := Z1.out.c 2 _ rfl; have d3 := Z1.out.c 3 _ rfl; have d4 := Z1.out.c 4 _ rfl; have y0 := Z1.out.f 0; have y1 := Z1.out.f 1; have y2 := Z1.out.f 2; have y3 := Z1.out.f 3; have y4 := Z1.out.f 4)
  refine bodyPost_ret (v := .agg #[.int .i64 2, .int .i64 0, .string s, .bool false, .int .i64 0]) (by simp [results, Tryz.results77, go_sem, d0, d1, d2, d3, d4]) rfl ?_
  exact ⟨rfl, Q.setCell (Q.setCell (Q.setCell (Q.setCell (Q.setCell Q1.out (Nat.le_refl _) _) (Nat.le_refl _) _) (Nat.le_refl _) _) (Nat.le_refl _) _) (Nat.le_refl _) _⟩
theorem errN_zero {t : List UInt8} (h : errN t = 0) : ∀ e : Nat, 1 ≤ e → e ≤ 7 → t ≠ enL (e : Int) := by
  unfold errN at h
  intro e h1 h7 he
  rcases (by omega : e = 1 ∨ e = 2 ∨ e = 3 ∨ e = 4 ∨ e = 5 ∨ e = 6 ∨ e = 7) with rfl | rfl | rfl | rfl | rfl | rfl | rfl <;> (subst he; revert h; decide)
set_option maxHeartbeats 2000000 in
theorem errorNamed_any (T : ByteArray) (w : World) (hw : Nam w) : Calls Tryz.prog 79 #[.string T] w fun e w' => e = .returned (.int .i64 (errN T.data.toList : Int)) ∧ w' = w := by
  have HNm := hid hw
  clear hw
  by_cases h0 : errN T.data.toList = 0
  · have HE := hid (errN_zero h0)
    rw [h0]
    clear h0
    go_enter Tryz.func79, Tryz.ntmps79
    go_wp2
    go_loop [3] (fun y => ∃ e : Nat, 1 ≤ e ∧ e ≤ 8 ∧ y = .int .i64 (e : Int)) (fun y => 9 - (intOf y).toNat)
    case atStart => exact ⟨1, by omega, by omega, rfl⟩
    case round =>
      obtain ⟨e, he1, heM, rfl⟩ := hrel
      have H1 := hid (V.name_any (e : Int) w HNm.out)
      obtain ⟨N, hN, lN⟩ : ∃ N : ByteArray, ⟨(enL (e : Int)).toArray⟩ = N ∧ N.data.toList = enL (e : Int) := ⟨_, rfl, rfl⟩
      rw [hN] at H1
      by_cases h7 : (e : Int) ≤ 7
      · have e7 : (T.toList == N.toList) = false := by rw [Lib.toList_data, Lib.toList_data, lN, beq_eq_false_iff_ne]; exact HE.out e he1 (by omega)
        clear hN lN
        go_wp2_with (go_at_call 82; refine H1.out.mono ?_; rintro e9 w9 ⟨rfl, h9⟩; replace h9 := h9.symm; subst h9)
        go_round
        case rel => exact ⟨e + 1, by omega, by omega, by go_num⟩
        case measure => simp [intOf]; omega
      · clear hN lN
        go_wp2_with fail
        go_ret
        exact ⟨rfl, rfl⟩
  · have HM := hid (errN_min h0)
    have hm1 := HM.out.1
    have hm7 := HM.out.2.1
    generalize hM : errN T.data.toList = M at HM hm1 hm7 h0 ⊢
    clear hM h0
    go_enter Tryz.func79, Tryz.ntmps79
    go_wp2
    go_loop [3] (fun y => ∃ e : Nat, 1 ≤ e ∧ e ≤ M ∧ y = .int .i64 (e : Int)) (fun y => 9 - (intOf y).toNat)
    case atStart => exact ⟨1, by omega, by omega, rfl⟩
    case round =>
      obtain ⟨e, he1, heM, rfl⟩ := hrel
      have H1 := hid (V.name_any (e : Int) w HNm.out)
      obtain ⟨N, hN, lN⟩ : ∃ N : ByteArray, ⟨(enL (e : Int)).toArray⟩ = N ∧ N.data.toList = enL (e : Int) := ⟨_, rfl, rfl⟩
      rw [hN] at H1
      have h7 : (e : Int) ≤ 7 := by omega
      by_cases hlt2 : e < M
      · have e7 : (T.toList == N.toList) = false := by rw [Lib.toList_data, Lib.toList_data, lN, beq_eq_false_iff_ne]; exact fun h => HM.out.2.2.2 e he1 hlt2 h.symm
        clear hN lN
        go_wp2_with (go_at_call 82; refine H1.out.mono ?_; rintro e9 w9 ⟨rfl, h9⟩; replace h9 := h9.symm; subst h9)
        go_round
        case rel => exact ⟨e + 1, by omega, by omega, by go_num⟩
        case measure => simp [intOf]; omega
      · have eM : e = M := by omega
        have e7 : (T.toList == N.toList) = true := by rw [Lib.toList_data, Lib.toList_data, lN, beq_iff_eq, eM]; exact HM.out.2.2.1.symm
        have EM := hid eM
        clear hN lN hlt2 eM
        go_wp2_with (go_at_call 82; refine H1.out.mono ?_; rintro e9 w9 ⟨rfl, h9⟩; replace h9 := h9.symm; subst h9)
        go_ret
        exact ⟨ret_int (by rw [EM.out]), rfl⟩
def rvT (l : List UInt8) : Int × Int × List UInt8 × Bool × Int :=
  if l = [] then (0, 0, [], false, 0)
  else if Lib.hasPrefix l [39] then (2, 0, l.drop 1, false, 0)
  else if V.pf (V.parseO l) then (1, V.pk (V.parseO l), [], false, 0)
  else if errN l ≠ 0 then (4, 0, [], false, (errN l : Int))
  else if l = truW ∨ l = flsW then (3, 0, [], decide (l = truW), 0)
  else (2, 0, l, false, 0)
def vL (v : Int × Int × List UInt8 × Bool × Int) : Value := vx v.1 v.2.1 ⟨v.2.2.1.toArray⟩ v.2.2.2.1 v.2.2.2.2
theorem trim_drop {l : List UInt8} (h : Lib.hasPrefix l [39] = true) : Lib.trimPrefix l [39] = l.drop 1 := by
  unfold Lib.trimPrefix
  rw [h]
  rfl
theorem bytes_of (s : ByteArray) : (⟨s.data.toList.toArray⟩ : ByteArray) = s := by
  apply ByteArray.ext
  simp
set_option maxHeartbeats 4000000 in
theorem readValue_any (s : ByteArray) (w : World) (hw : Std w) (hs : s.size ≤ 100000) : Calls Tryz.prog 42 #[.string s] w fun e w' => e = .returned (vL (rvT s.data.toList)) ∧ Q w w' := by
  have HZ := hid (cb_new w [.int .i64 0, .int .i64 0, .string ⟨#[]⟩, .bool false, .int .i64 0] 37)
  have HW := hid hw
  have HP0 := hid (fun W => Tryz.strings_CutPrefix s ⟨#[39]⟩ W)
  have HF := hid (fun W' (g : Std W') => V.parse_any s W' g (by omega))
  have HE := hid (fun W' (g : Nam W') => errorNamed_any s W' g)
  have HX := hid (fun W' => textValue_any s W' (by omega))
  have HT := hid (fun W' (g : Std W') => truth_text s W' g (by omega))
  clear hw
  unfold vL rvT
  by_cases h0 : s.data.toList = []
  · have f0 : (s.toList == []) = true := by rw [Lib.toList_data, h0]; rfl
    rw [if_pos h0]
    clear h0
    go_enter Tryz.func42, Tryz.ntmps42
    go_wp2_with fail
    refine bodyPost_ret (v := .agg #[.int .i64 0, .int .i64 0, .string ⟨#[]⟩, .bool false, .int .i64 0]) (by simp [results, Tryz.results42, go_sem]) rfl ?_
    exact ⟨rfl, by repeat (first | with_reducible exact Q.refl _ | with_reducible refine Q.alloc ?_ _ | with_reducible refine Q.setCell ?_ (Nat.le_refl _) _)⟩
  · have f0 : (s.toList == []) = false := by rw [Lib.toList_data, beq_eq_false_iff_ne]; exact h0
    rw [if_neg h0]
    clear h0
    by_cases hq : Lib.hasPrefix s.data.toList [39] = true
    · have HP : Hid (∀ W, Calls Tryz.prog 40 #[.string s, .string ⟨#[39]⟩] W fun e w' => e = .returned (.tuple #[.string ⟨(s.data.toList.drop 1).toArray⟩, .bool true]) ∧ w' = W) := by
        intro W
        have := HP0.out W
        rw [show (⟨#[39]⟩ : ByteArray).data.toList = [39] from rfl, hq, trim_drop hq] at this
        exact this
      rw [if_pos hq]
      obtain ⟨T, hT⟩ : ∃ T : ByteArray, (⟨(s.data.toList.drop 1).toArray⟩ : ByteArray) = T := ⟨_, rfl⟩
      have hTs : T.size ≤ 281474976710656 := by rw [← hT, size_mk, List.length_drop, len_data]; omega
      have HX2 := hid (fun W' => textValue_any T W' hTs)
      rw [hT] at HP
      unfold vx at *
      simp only
      rw [hT]
      clear hT hTs hq HP0 HX HT HE HF
      go_enter Tryz.func42, Tryz.ntmps42
      go_wp2_with (first | (go_at_call 40; refine (HP.out _).mono ?_; rintro e9 w9 ⟨rfl, h9⟩; replace h9 := h9.symm; subst h9) | (go_at_call 77; refine (HX2.out _).mono ?_; rintro e9 w1 ⟨rfl, q1⟩; have Z1 := hid (HZ.out.on q1); have Q1 : Hid (Q w w1) := hid (((Q.refl _).alloc _).trans q1); clear q1; have d0 := Z1.out.c 0 _ rfl; have d1 := Z1.out.c 1 _ rfl; have d2 := Z1.out.c 2 _ rfl; have d3 := Z1.out.c 3 _ rfl; have d4 := Z1.out.c 4 _ rfl; have y0 := Z1.out.f 0; have y1 := Z1.out.f 1; have y2 := Z1.out.f 2; have y3 := Z1.out.f 3; have y4 := Z1.out.f 4))
      refine bodyPost_ret (v := .agg #[.int .i64 2, .int .i64 0, .string T, .bool false, .int .i64 0]) (by simp [results, Tryz.results42, go_sem, d0, d1, d2, d3, d4]) rfl ?_
      exact ⟨rfl, Q.setCell (Q.setCell (Q.setCell (Q.setCell (Q.setCell Q1.out (Nat.le_refl _) _) (Nat.le_refl _) _) (Nat.le_refl _) _) (Nat.le_refl _) _) (Nat.le_refl _) _⟩
    · have hq' : Lib.hasPrefix s.data.toList [39] = false := by simpa using hq
      have HP : Hid (∀ W, Calls Tryz.prog 40 #[.string s, .string ⟨#[39]⟩] W fun e w' => e = .returned (.tuple #[.string ⟨(Lib.trimPrefix s.data.toList [39]).toArray⟩, .bool false]) ∧ w' = W) := by
        intro W
        have := HP0.out W
        rw [show (⟨#[39]⟩ : ByteArray).data.toList = [39] from rfl, hq'] at this
        exact this
      rw [if_neg hq]
      generalize (⟨(Lib.trimPrefix s.data.toList [39]).toArray⟩ : ByteArray) = T9 at HP
      clear hq hq' HP0
      by_cases hn : V.pf (V.parseO s.data.toList) = true
      · rw [hn] at HF
        rw [if_pos hn]
        simp only
        generalize V.pk (V.parseO s.data.toList) = pn at HF ⊢
        unfold vx
        clear hn HX HT HE
        go_enter Tryz.func42, Tryz.ntmps42
        go_wp2_with (first | (go_at_call 40; refine (HP.out _).mono ?_; rintro e9 w9 ⟨rfl, h9⟩; replace h9 := h9.symm; subst h9) | (go_at_call 78; refine (HF.out _ (HW.out.on ((Q.refl _).alloc _))).mono ?_; rintro e9 w1 ⟨rfl, q1⟩; have Z1 := hid (HZ.out.on q1); have Q1 : Hid (Q w w1) := hid (((Q.refl _).alloc _).trans q1); clear q1; have d0 := Z1.out.c 0 _ rfl; have d1 := Z1.out.c 1 _ rfl; have d2 := Z1.out.c 2 _ rfl; have d3 := Z1.out.c 3 _ rfl; have d4 := Z1.out.c 4 _ rfl; have y0 := Z1.out.f 0; have y1 := Z1.out.f 1; have y2 := Z1.out.f 2; have y3 := Z1.out.f 3; have y4 := Z1.out.f 4))
        refine bodyPost_ret (v := .agg #[.int .i64 1, .int .i64 pn, .string ⟨#[]⟩, .bool false, .int .i64 0]) (by simp [results, Tryz.results42, go_sem, d0, d1, d2, d3, d4]) rfl ?_
        exact ⟨rfl, Q.setCell (Q.setCell (Q.setCell (Q.setCell (Q.setCell Q1.out (Nat.le_refl _) _) (Nat.le_refl _) _) (Nat.le_refl _) _) (Nat.le_refl _) _) (Nat.le_refl _) _⟩
      · have hn' : V.pf (V.parseO s.data.toList) = false := by simpa using hn
        rw [hn'] at HF
        rw [if_neg hn]
        generalize V.pk (V.parseO s.data.toList) = pn at HF
        clear hn hn'
        by_cases he : errN s.data.toList ≠ 0
        · rw [if_pos he]
          have ne : ((errN s.data.toList : Int) == 0) = false := by rw [beq_eq_false_iff_ne]; omega
          have ne2 : ¬ (errN s.data.toList : Int) = 0 := by omega
          simp only
          generalize (errN s.data.toList : Int) = en at HE ne ne2 ⊢
          unfold vx
          clear he HX HT
          go_enter Tryz.func42, Tryz.ntmps42
          go_wp2_with (first | (go_at_call 40; refine (HP.out _).mono ?_; rintro e9 w9 ⟨rfl, h9⟩; replace h9 := h9.symm; subst h9) | (go_at_call 78; refine (HF.out _ (HW.out.on ((Q.refl _).alloc _))).mono ?_; rintro e9 w1 ⟨rfl, q1⟩; have Z1 := hid (HZ.out.on q1); have Q1 : Hid (Q w w1) := hid (((Q.refl _).alloc _).trans q1); clear q1; have d0 := Z1.out.c 0 _ rfl; have d1 := Z1.out.c 1 _ rfl; have d2 := Z1.out.c 2 _ rfl; have d3 := Z1.out.c 3 _ rfl; have d4 := Z1.out.c 4 _ rfl; have y0 := Z1.out.f 0; have y1 := Z1.out.f 1; have y2 := Z1.out.f 2; have y3 := Z1.out.f 3; have y4 := Z1.out.f 4) | (go_at_call 79; refine (HE.out _ (HW.out.on Q1.out).nam).mono ?_; rintro e9 w9 ⟨rfl, h9⟩; replace h9 := h9.symm; subst h9))
          refine bodyPost_ret (v := .agg #[.int .i64 4, .int .i64 0, .string ⟨#[]⟩, .bool false, .int .i64 en]) (by simp [results, Tryz.results42, go_sem, d0, d1, d2, d3, d4]) rfl ?_
          exact ⟨rfl, Q.setCell (Q.setCell (Q.setCell (Q.setCell (Q.setCell Q1.out (Nat.le_refl _) _) (Nat.le_refl _) _) (Nat.le_refl _) _) (Nat.le_refl _) _) (Nat.le_refl _) _⟩
        · have he0 : errN s.data.toList = 0 := by simpa using he
          rw [if_neg he]
          rw [he0] at HE
          clear he he0
          by_cases ht : s.data.toList = truW ∨ s.data.toList = flsW
          · rw [if_pos ht]
            rw [if_pos ht] at HT
            simp only
            generalize decide (s.data.toList = truW) = tb at HT ⊢
            unfold vx at *
            clear ht
            go_enter Tryz.func42, Tryz.ntmps42
            go_wp2_with (first | (go_at_call 40; refine (HP.out _).mono ?_; rintro e9 w9 ⟨rfl, h9⟩; replace h9 := h9.symm; subst h9) | (go_at_call 78; refine (HF.out _ (HW.out.on ((Q.refl _).alloc _))).mono ?_; rintro e9 w1 ⟨rfl, q1⟩; have Z1 := hid (HZ.out.on q1); have Q1 : Hid (Q w w1) := hid (((Q.refl _).alloc _).trans q1); clear q1) | (go_at_call 79; refine (HE.out _ (HW.out.on Q1.out).nam).mono ?_; rintro e9 w9 ⟨rfl, h9⟩; replace h9 := h9.symm; subst h9) | (go_at_call 77; refine (HX.out _).mono ?_; rintro e9 w2 ⟨rfl, q2⟩; have Z2 := hid (Z1.out.on q2); have Q2 : Hid (Q w w2) := hid (Q1.out.trans q2); clear q2) | (go_at_call 80; refine (HT.out _ (HW.out.on (Q2.out.alloc _))).mono ?_; rintro e9 w3 ⟨rfl, q3⟩; have Z3 := hid (Z2.out.on (((Q.refl _).alloc _).trans q3)); have Q3 : Hid (Q w w3) := hid ((Q2.out.alloc _).trans q3); clear q3; have d0 := Z3.out.c 0 _ rfl; have d1 := Z3.out.c 1 _ rfl; have d2 := Z3.out.c 2 _ rfl; have d3 := Z3.out.c 3 _ rfl; have d4 := Z3.out.c 4 _ rfl; have y0 := Z3.out.f 0; have y1 := Z3.out.f 1; have y2 := Z3.out.f 2; have y3 := Z3.out.f 3; have y4 := Z3.out.f 4))
            refine bodyPost_ret (v := .agg #[.int .i64 3, .int .i64 0, .string ⟨#[]⟩, .bool tb, .int .i64 0]) (by simp [results, Tryz.results42, go_sem, d0, d1, d2, d3, d4]) rfl ?_
            exact ⟨rfl, Q.setCell (Q.setCell (Q.setCell (Q.setCell (Q.setCell Q3.out (Nat.le_refl _) _) (Nat.le_refl _) _) (Nat.le_refl _) _) (Nat.le_refl _) _) (Nat.le_refl _) _⟩
          · rw [if_neg ht]
            rw [if_neg ht] at HT
            simp only
            rw [bytes_of]
            generalize decide (s.data.toList = truW) = tb at HT
            unfold vx at *
            clear ht
            go_enter Tryz.func42, Tryz.ntmps42
            go_wp2_with (first | (go_at_call 40; refine (HP.out _).mono ?_; rintro e9 w9 ⟨rfl, h9⟩; replace h9 := h9.symm; subst h9) | (go_at_call 78; refine (HF.out _ (HW.out.on ((Q.refl _).alloc _))).mono ?_; rintro e9 w1 ⟨rfl, q1⟩; have Z1 := hid (HZ.out.on q1); have Q1 : Hid (Q w w1) := hid (((Q.refl _).alloc _).trans q1); clear q1) | (go_at_call 79; refine (HE.out _ (HW.out.on Q1.out).nam).mono ?_; rintro e9 w9 ⟨rfl, h9⟩; replace h9 := h9.symm; subst h9) | (go_at_call 77; refine (HX.out _).mono ?_; rintro e9 w2 ⟨rfl, q2⟩; have Z2 := hid (Z1.out.on q2); have Q2 : Hid (Q w w2) := hid (Q1.out.trans q2); clear q2; have X2 := hid (cb_new w2 [.int .i64 2, .int .i64 0, .string s, .bool false, .int .i64 0] 37)) | (go_at_call 80; refine (HT.out _ (HW.out.on (Q2.out.alloc _))).mono ?_; rintro e9 w3 ⟨rfl, q3⟩; have Z3 := hid (Z2.out.on (((Q.refl _).alloc _).trans q3)); have X3 := hid (X2.out.on q3); have Q3 : Hid (Q w w3) := hid ((Q2.out.alloc _).trans q3); clear q3; have d0 := Z3.out.c 0 _ rfl; have d1 := Z3.out.c 1 _ rfl; have d2 := Z3.out.c 2 _ rfl; have d3 := Z3.out.c 3 _ rfl; have d4 := Z3.out.c 4 _ rfl; have y0 := Z3.out.f 0; have y1 := Z3.out.f 1; have y2 := Z3.out.f 2; have y3 := Z3.out.f 3; have y4 := Z3.out.f 4; have n0 := X3.out.c 0 _ rfl; have n1 := X3.out.c 1 _ rfl; have n2 := X3.out.c 2 _ rfl; have n3 := X3.out.c 3 _ rfl; have n4 := X3.out.c 4 _ rfl))
            refine bodyPost_ret (v := .agg #[.int .i64 2, .int .i64 0, .string s, .bool false, .int .i64 0]) (by simp [results, Tryz.results42, go_sem, d0, d1, d2, d3, d4]) rfl ?_
            exact ⟨rfl, Q.setCell (Q.setCell (Q.setCell (Q.setCell (Q.setCell Q3.out (Nat.le_refl _) _) (Nat.le_refl _) _) (Nat.le_refl _) _) (Nat.le_refl _) _) (Nat.le_refl _) _⟩
end Go.Proofs.YtgheopdadfnilaaGreatDoor
