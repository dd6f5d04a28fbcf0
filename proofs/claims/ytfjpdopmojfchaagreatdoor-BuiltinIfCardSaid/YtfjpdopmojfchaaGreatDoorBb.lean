/- Package builtin: arguments; which function a name is. -/
import Derived.Test.YtfjpdopmojfchaaGreatDoorBa
import Derived.OwnWalk
import Derived.Laws.EntriesVeiled
namespace Go.Proofs.YtfjpdopmojfchaaGreatDoor
open Go.RowKit
set_option linter.unusedVariables false
set_option linter.unusedSimpArgs false
theorem sl_lit {α : Type} {enc : α → List Value} {k : Nat} (hk : ∀ x, (enc x).length = k) (W : World) (xs : List α) (n : Nat) (hn : xs.length = n) (hl : n ≤ 1000) (t : TypeId) : Sl enc k (W.alloc (.cells (flat enc xs).toArray t)) (.slice (some ⟨W.heap.size, 0, none⟩) n n) xs := by
  subst hn
  refine ⟨some ⟨W.heap.size, 0, none⟩, xs.length, rfl, Nat.le_refl _, by unfold maxLen; omega, fun _ => ⟨W.heap.size, 0, rfl, fun i hi j u hu => ?_⟩⟩
  have hj : j < k := by rw [← hk xs[i]]; exact (List.getElem?_eq_some_iff.1 hu).1
  rw [World.cell?_alloc_at _ _ _ _ rfl]
  rw [← hu, ← flat_at enc hk xs i hi j hj]
  simp
/-- an argument: a range?, its slice, its values -/
structure Ag where
  r : Bool
  s : Value
  l : List Cv
def Ag.cells (a : Ag) : List Value := [.bool a.r, a.s]
theorem Ag.len (a : Ag) : a.cells.length = 2 := rfl
/-- arguments in a slice -/
structure Args (W : World) (v : Value) (A : List Ag) : Prop where
  sl : Sl Ag.cells 2 W v A
  vs : ∀ a ∈ A, Sl Cv.cells 5 W a.s a.l
theorem Args.on {W W' : World} {v : Value} {A : List Ag} (h : Args W v A) (q : Q W W') : Args W' v A := ⟨h.sl.on q, fun a ha => (h.vs a ha).on q⟩
theorem getD_at (l : List Cv) {i : Nat} (hi : i < l.length) : l.getD i cv0 = l[i] := by rw [List.getD_eq_getElem?_getD, List.getElem?_eq_getElem hi]; rfl
theorem at5_of {W : World} {b o : Nat} {x : Cv} (h : Ats Cv.cells W b o x) : At5 W b o x := ⟨h 0 _ rfl, h 1 _ rfl, h 2 _ rfl, h 3 _ rfl, h 4 _ rfl⟩
theorem arg1_any (x : Cv) (w : World) : Calls Tryz.prog 24 #[x.v] w fun e w' => ∃ s, e = .returned (.agg #[.bool false, s]) ∧ Sl Cv.cells 5 w' s [x] ∧ Q w w' := by
  obtain ⟨k, n, t, b, e⟩ := x
  unfold Cv.v vv
  go_enter Tryz.func24, Tryz.ntmps24
  go_wp2
  refine bodyPost_ret (v := .agg #[.bool false, .slice (some ⟨w.heap.size + 1 + 1, 0, none⟩) 1 1]) (by simp [results, Tryz.results24, go_sem]) rfl ⟨_, rfl, ?_, (((Q.refl _).alloc _).alloc _).alloc _⟩
  have h := sl_lit Cv.len ((w.alloc (.cells #[.int .i64 k, .int .i64 n, .string t, .bool b, .int .i64 e] 37)).alloc (.cells #[.bool false, .slice (some ⟨w.heap.size + 1 + 1, 0, none⟩) 1 1] 32)) [⟨k, n, t, b, e⟩] 1 rfl (by omega) 37
  rw [World.size_alloc, World.size_alloc] at h
  exact h
set_option maxHeartbeats 1000000 in
theorem worst_sl (l : List Cv) (v : Value) (w : World) (hw : Std2 w) (h : Sl Cv.cells 5 w v l) (hm : l.length ≤ 1000) (hs : ∀ x ∈ l, x.sm) :
    Calls Tryz.prog 38 #[v] w fun e w' => e = .returned (.int .i64 (worst l)) ∧ Q w w' := by
  obtain ⟨ao, cap, rfl, h1, h2, h3⟩ := h
  rcases Nat.eq_zero_or_pos l.length with h0 | h0
  · have hl := List.eq_nil_of_length_eq_zero h0
    subst hl
    clear h3
    simp only [List.length_nil]
    go_enter Tryz.func38, Tryz.ntmps38
    go_wp2
    refine wp_loop_rounds 1 ?_
    rw [rounds_succ]
    go_wp2
    go_ret
    exact ⟨rfl, Q.refl _⟩
  · obtain ⟨b, off, rfl, hc⟩ := h3 h0
    refine worst_row b off l.length cap l w hw rfl (by omega) (fun i hi => ?_) (fun i hi => ?_)
    · rw [getD_at _ hi]; exact hs _ (List.getElem_mem hi)
    · rw [getD_at _ hi]; exact at5_of (hc i hi)
/-- function values: an aggregate's, one of single values, a strict one -/
def AggV (W : World) (f : Value) (F : Nat) : Prop := ∃ p, f = .func (.func 103) #[] #[.pointer (some ⟨p, 0, none⟩)] ∧ W.cell? ⟨p, 0, none⟩ = some (.func (.func F) #[] #[])
def SinV (W : World) (f : Value) (F : Nat) : Prop := ∃ p, f = .func (.func 110) #[] #[.pointer (some ⟨p, 0, none⟩)] ∧ W.cell? ⟨p, 0, none⟩ = some (.func (.func F) #[] #[])
theorem fcell {W W' : World} {p : Nat} {u : Value} (h : W.cell? ⟨p, 0, none⟩ = some u) (q : Q W W') : W'.cell? ⟨p, 0, none⟩ = some u := (q.cell (World.block_lt_of_cell? W ⟨p, 0, none⟩ h)).trans h
theorem AggV.on {W W' : World} {f : Value} {F : Nat} (h : AggV W f F) (q : Q W W') : AggV W' f F := by
  obtain ⟨p, e, c⟩ := h
  exact ⟨p, e, fcell c q⟩
theorem SinV.on {W W' : World} {f : Value} {F : Nat} (h : SinV W f F) (q : Q W W') : SinV W' f F := by
  obtain ⟨p, e, c⟩ := h
  exact ⟨p, e, fcell c q⟩
def TakV (W : World) (f : Value) (K G F : Nat) : Prop := ∃ p q r, f = .func (.func 110) #[] #[.pointer (some ⟨p, 0, none⟩)] ∧ W.cell? ⟨p, 0, none⟩ = some (.func (.func K) #[] #[.pointer (some ⟨q, 0, none⟩), .pointer (some ⟨r, 0, none⟩)]) ∧ W.cell? ⟨q, 0, none⟩ = some (.func (.func G) #[] #[]) ∧ W.cell? ⟨r, 0, none⟩ = some (.func (.func F) #[] #[])
theorem TakV.on {W W' : World} {f : Value} {K G F : Nat} (h : TakV W f K G F) (q : Q W W') : TakV W' f K G F := by
  obtain ⟨p, r, t, e, c, d, g⟩ := h
  exact ⟨p, r, t, e, fcell c q, fcell d q, fcell g q⟩
theorem aggregate_any (fn : Fn) (fi ca : Array Value) (w : World) : Calls Tryz.prog 57 #[.func fn fi ca] w fun e w' => e = .returned (.agg #[.int .i64 0, .int .i64 9223372036854775807, .func (.func 103) #[] #[.pointer (some ⟨w.heap.size, 0, none⟩)]]) ∧ w'.cell? ⟨w.heap.size, 0, none⟩ = some (.func fn fi ca) ∧ w.heap.size < w'.heap.size ∧ Q w w' := by
  go_enter Tryz.func57, Tryz.ntmps57
  go_wp2
  exact bodyPost_ret (v := .agg #[.int .i64 0, .int .i64 9223372036854775807, .func (.func 103) #[] #[.pointer (some ⟨w.heap.size, 0, none⟩)]]) (by simp [results, Tryz.results57, go_sem]) rfl ⟨rfl, by simp, by simp only [World.size_alloc]; omega, ((Q.refl _).alloc _).alloc _⟩
theorem ofSingles_any (lo hi : Int) (fn : Fn) (fi ca : Array Value) (w : World) : Calls Tryz.prog 63 #[.int .i64 lo, .int .i64 hi, .func fn fi ca] w fun e w' => e = .returned (.agg #[.int .i64 lo, .int .i64 hi, .func (.func 110) #[] #[.pointer (some ⟨w.heap.size, 0, none⟩)]]) ∧ w'.cell? ⟨w.heap.size, 0, none⟩ = some (.func fn fi ca) ∧ w.heap.size < w'.heap.size ∧ Q w w' := by
  go_enter Tryz.func63, Tryz.ntmps63
  go_wp2
  exact bodyPost_ret (v := .agg #[.int .i64 lo, .int .i64 hi, .func (.func 110) #[] #[.pointer (some ⟨w.heap.size, 0, none⟩)]]) (by simp [results, Tryz.results63, go_sem]) rfl ⟨rfl, by simp, by simp only [World.size_alloc]; omega, ((Q.refl _).alloc _).alloc _⟩
/-- what 'find' has laid first -/
abbrev fz (w : World) : World := w.alloc (.cells #[.int .i64 0, .int .i64 0, .nilFunc] 58)
theorem fz_c (w : World) : (fz w).cell? ⟨w.heap.size, 0, none⟩ = some (.int .i64 0) ∧ (fz w).cell? ⟨w.heap.size, 1, none⟩ = some (.int .i64 0) ∧ (fz w).cell? ⟨w.heap.size, 2, none⟩ = some .nilFunc := ⟨by simp, by simp, by simp⟩
theorem fz_f (w : World) (j : Nat) : (fz w).frozen? ⟨w.heap.size, j, none⟩ = false := by simp [World.frozen?_alloc_new]
theorem fz_q (w : World) : Q w (fz w) := (Q.refl _).alloc _
theorem fz_on {w W : World} (q : Q (fz w) W) : W.cell? ⟨w.heap.size, 0, none⟩ = some (.int .i64 0) ∧ W.cell? ⟨w.heap.size, 1, none⟩ = some (.int .i64 0) ∧ W.cell? ⟨w.heap.size, 2, none⟩ = some .nilFunc ∧ W.frozen? ⟨w.heap.size, 0, none⟩ = false ∧ W.frozen? ⟨w.heap.size, 1, none⟩ = false ∧ W.frozen? ⟨w.heap.size, 2, none⟩ = false := by
  have hl : w.heap.size < (fz w).heap.size := by simp
  refine ⟨?_, ?_, ?_, ?_, ?_, ?_⟩
  · rw [q.cell hl]; exact (fz_c w).1
  · rw [q.cell hl]; exact (fz_c w).2.1
  · rw [q.cell hl]; exact (fz_c w).2.2
  · rw [Below.frozen q (p := ⟨w.heap.size, 0, none⟩) hl]; exact fz_f w 0
  · rw [Below.frozen q (p := ⟨w.heap.size, 1, none⟩) hl]; exact fz_f w 1
  · rw [Below.frozen q (p := ⟨w.heap.size, 2, none⟩) hl]; exact fz_f w 2
theorem fz_set {w W : World} (q : Q w W) (a b c : Value) : Q w (((W.setCell ⟨w.heap.size, 0, none⟩ a).setCell ⟨w.heap.size, 1, none⟩ b).setCell ⟨w.heap.size, 2, none⟩ c) := ((q.setCell (Nat.le_refl _) _).setCell (Nat.le_refl _) _).setCell (Nat.le_refl _) _
theorem fz_far {w W : World} {p : Nat} (hp : w.heap.size ≠ p) (a b c : Value) : (((W.setCell ⟨w.heap.size, 0, none⟩ a).setCell ⟨w.heap.size, 1, none⟩ b).setCell ⟨w.heap.size, 2, none⟩ c).cell? ⟨p, 0, none⟩ = W.cell? ⟨p, 0, none⟩ := by
  rw [World.cell?_setCell_far _ _ _ _ hp, World.cell?_setCell_far _ _ _ _ hp, World.cell?_setCell_far _ _ _ _ hp]
set_option maxHeartbeats 1000000 in
theorem find_sum (w : World) : Calls Tryz.prog 29 #[.string ⟨#[83, 85, 77]⟩] w fun e w' => ∃ f, e = .returned (.tuple #[.agg #[.int .i64 0, .int .i64 9223372036854775807, f], .bool true]) ∧ AggV w' f 58 ∧ Q w w' := by
  have HA := hid (fun W => aggregate_any (.func 58) #[] #[] W)
  go_enter Tryz.func29, Tryz.ntmps29
  go_wp2_with (go_at_call 57; refine (HA.out _).mono ?_; rintro e w1 ⟨rfl, c1, l1, q1⟩; obtain ⟨d0, d1, d2, y0, y1, y2⟩ := fz_on q1; have Q1 := hid ((fz_q w).trans q1); have C1 := hid c1; clear c1 q1)
  refine bodyPost_ret (v := .tuple #[.agg #[.int .i64 0, .int .i64 9223372036854775807, .func (.func 103) #[] #[.pointer (some ⟨w.heap.size + 1, 0, none⟩)]], .bool true]) (by simp [results, Tryz.results29, go_sem, d0, d1, d2]) rfl ?_
  exact ⟨_, rfl, ⟨w.heap.size + 1, rfl, by rw [fz_far (by omega)]; simpa using C1.out⟩, fz_set Q1.out _ _ _⟩
set_option maxHeartbeats 1000000 in
theorem find_min (w : World) : Calls Tryz.prog 29 #[.string ⟨#[77, 73, 78]⟩] w fun e w' => ∃ f, e = .returned (.tuple #[.agg #[.int .i64 0, .int .i64 9223372036854775807, f], .bool true]) ∧ AggV w' f 59 ∧ Q w w' := by
  have HA := hid (fun W => aggregate_any (.func 59) #[] #[] W)
  go_enter Tryz.func29, Tryz.ntmps29
  go_wp2_with (go_at_call 57; refine (HA.out _).mono ?_; rintro e w1 ⟨rfl, c1, l1, q1⟩; obtain ⟨d0, d1, d2, y0, y1, y2⟩ := fz_on q1; have Q1 := hid ((fz_q w).trans q1); have C1 := hid c1; clear c1 q1)
  refine bodyPost_ret (v := .tuple #[.agg #[.int .i64 0, .int .i64 9223372036854775807, .func (.func 103) #[] #[.pointer (some ⟨w.heap.size + 1, 0, none⟩)]], .bool true]) (by simp [results, Tryz.results29, go_sem, d0, d1, d2]) rfl ?_
  exact ⟨_, rfl, ⟨w.heap.size + 1, rfl, by rw [fz_far (by omega)]; simpa using C1.out⟩, fz_set Q1.out _ _ _⟩
set_option maxHeartbeats 1000000 in
theorem find_max (w : World) : Calls Tryz.prog 29 #[.string ⟨#[77, 65, 88]⟩] w fun e w' => ∃ f, e = .returned (.tuple #[.agg #[.int .i64 0, .int .i64 9223372036854775807, f], .bool true]) ∧ AggV w' f 60 ∧ Q w w' := by
  have HA := hid (fun W => aggregate_any (.func 60) #[] #[] W)
  go_enter Tryz.func29, Tryz.ntmps29
  go_wp2_with (go_at_call 57; refine (HA.out _).mono ?_; rintro e w1 ⟨rfl, c1, l1, q1⟩; obtain ⟨d0, d1, d2, y0, y1, y2⟩ := fz_on q1; have Q1 := hid ((fz_q w).trans q1); have C1 := hid c1; clear c1 q1)
  refine bodyPost_ret (v := .tuple #[.agg #[.int .i64 0, .int .i64 9223372036854775807, .func (.func 103) #[] #[.pointer (some ⟨w.heap.size + 1, 0, none⟩)]], .bool true]) (by simp [results, Tryz.results29, go_sem, d0, d1, d2]) rfl ?_
  exact ⟨_, rfl, ⟨w.heap.size + 1, rfl, by rw [fz_far (by omega)]; simpa using C1.out⟩, fz_set Q1.out _ _ _⟩
set_option maxHeartbeats 1000000 in
theorem find_count (w : World) : Calls Tryz.prog 29 #[.string ⟨#[67, 79, 85, 78, 84]⟩] w fun e w' => ∃ f, e = .returned (.tuple #[.agg #[.int .i64 0, .int .i64 9223372036854775807, f], .bool true]) ∧ AggV w' f 61 ∧ Q w w' := by
  have HA := hid (fun W => aggregate_any (.func 61) #[] #[] W)
  go_enter Tryz.func29, Tryz.ntmps29
  go_wp2_with (go_at_call 57; refine (HA.out _).mono ?_; rintro e w1 ⟨rfl, c1, l1, q1⟩; obtain ⟨d0, d1, d2, y0, y1, y2⟩ := fz_on q1; have Q1 := hid ((fz_q w).trans q1); have C1 := hid c1; clear c1 q1)
  refine bodyPost_ret (v := .tuple #[.agg #[.int .i64 0, .int .i64 9223372036854775807, .func (.func 103) #[] #[.pointer (some ⟨w.heap.size + 1, 0, none⟩)]], .bool true]) (by simp [results, Tryz.results29, go_sem, d0, d1, d2]) rfl ?_
  exact ⟨_, rfl, ⟨w.heap.size + 1, rfl, by rw [fz_far (by omega)]; simpa using C1.out⟩, fz_set Q1.out _ _ _⟩
set_option maxHeartbeats 1000000 in
theorem find_average (w : World) : Calls Tryz.prog 29 #[.string ⟨#[65, 86, 69, 82, 65, 71, 69]⟩] w fun e w' => ∃ f, e = .returned (.tuple #[.agg #[.int .i64 0, .int .i64 9223372036854775807, f], .bool true]) ∧ AggV w' f 62 ∧ Q w w' := by
  have HA := hid (fun W => aggregate_any (.func 62) #[] #[] W)
  go_enter Tryz.func29, Tryz.ntmps29
  go_wp2_with (go_at_call 57; refine (HA.out _).mono ?_; rintro e w1 ⟨rfl, c1, l1, q1⟩; obtain ⟨d0, d1, d2, y0, y1, y2⟩ := fz_on q1; have Q1 := hid ((fz_q w).trans q1); have C1 := hid c1; clear c1 q1)
  refine bodyPost_ret (v := .tuple #[.agg #[.int .i64 0, .int .i64 9223372036854775807, .func (.func 103) #[] #[.pointer (some ⟨w.heap.size + 1, 0, none⟩)]], .bool true]) (by simp [results, Tryz.results29, go_sem, d0, d1, d2]) rfl ?_
  exact ⟨_, rfl, ⟨w.heap.size + 1, rfl, by rw [fz_far (by omega)]; simpa using C1.out⟩, fz_set Q1.out _ _ _⟩
set_option maxHeartbeats 1000000 in
theorem find_if (w : World) : Calls Tryz.prog 29 #[.string ⟨#[73, 70]⟩] w fun e w' => ∃ f, e = .returned (.tuple #[.agg #[.int .i64 2, .int .i64 3, f], .bool true]) ∧ SinV w' f 64 ∧ Q w w' := by
  have HA := hid (fun W => ofSingles_any 2 3 (.func 64) #[] #[] W)
  go_enter Tryz.func29, Tryz.ntmps29
  go_wp2_with (go_at_call 63; refine (HA.out _).mono ?_; rintro e w1 ⟨rfl, c1, l1, q1⟩; obtain ⟨d0, d1, d2, y0, y1, y2⟩ := fz_on q1; have Q1 := hid ((fz_q w).trans q1); have C1 := hid c1; clear c1 q1)
  refine bodyPost_ret (v := .tuple #[.agg #[.int .i64 2, .int .i64 3, .func (.func 110) #[] #[.pointer (some ⟨w.heap.size + 1, 0, none⟩)]], .bool true]) (by simp [results, Tryz.results29, go_sem, d0, d1, d2]) rfl ?_
  exact ⟨_, rfl, ⟨w.heap.size + 1, rfl, by rw [fz_far (by omega)]; simpa using C1.out⟩, fz_set Q1.out _ _ _⟩
set_option maxHeartbeats 1000000 in
theorem find_iserror (w : World) : Calls Tryz.prog 29 #[.string ⟨#[73, 83, 69, 82, 82, 79, 82]⟩] w fun e w' => ∃ f, e = .returned (.tuple #[.agg #[.int .i64 1, .int .i64 1, f], .bool true]) ∧ SinV w' f 74 ∧ Q w w' := by
  have HA := hid (fun W => ofSingles_any 1 1 (.func 74) #[] #[] W)
  go_enter Tryz.func29, Tryz.ntmps29
  go_wp2_with (go_at_call 63; refine (HA.out _).mono ?_; rintro e w1 ⟨rfl, c1, l1, q1⟩; obtain ⟨d0, d1, d2, y0, y1, y2⟩ := fz_on q1; have Q1 := hid ((fz_q w).trans q1); have C1 := hid c1; clear c1 q1)
  refine bodyPost_ret (v := .tuple #[.agg #[.int .i64 1, .int .i64 1, .func (.func 110) #[] #[.pointer (some ⟨w.heap.size + 1, 0, none⟩)]], .bool true]) (by simp [results, Tryz.results29, go_sem, d0, d1, d2]) rfl ?_
  exact ⟨_, rfl, ⟨w.heap.size + 1, rfl, by rw [fz_far (by omega)]; simpa using C1.out⟩, fz_set Q1.out _ _ _⟩
set_option maxHeartbeats 1000000 in
theorem find_no (w : World) : Calls Tryz.prog 29 #[.string ⟨#[105, 102]⟩] w fun e w' => e = .returned (.tuple #[.agg #[.int .i64 0, .int .i64 0, .nilFunc], .bool false]) ∧ Q w w' := by
  go_enter Tryz.func29, Tryz.ntmps29
  go_wp2
  exact bodyPost_ret (v := .tuple #[.agg #[.int .i64 0, .int .i64 0, .nilFunc], .bool false]) (by simp [results, Tryz.results29, go_sem]) rfl ⟨rfl, (Q.refl _).alloc _⟩
theorem mk_bool (fn : Fn) (fi ca : Array Value) (fn' : Fn) (fi' ca' : Array Value) (w : World) : Calls Tryz.prog 65 #[.func fn fi ca, .func fn' fi' ca'] w fun e w' => e = .returned (.func (.func 112) #[] #[.pointer (some ⟨w.heap.size, 0, none⟩), .pointer (some ⟨w.heap.size + 1, 0, none⟩)]) ∧ w'.cell? ⟨w.heap.size, 0, none⟩ = some (.func fn fi ca) ∧ w'.cell? ⟨w.heap.size + 1, 0, none⟩ = some (.func fn' fi' ca') ∧ w.heap.size + 1 < w'.heap.size ∧ Q w w' := by
  go_enter Tryz.func65, Tryz.ntmps65
  go_wp2
  exact bodyPost_ret (v := .func (.func 112) #[] #[.pointer (some ⟨w.heap.size, 0, none⟩), .pointer (some ⟨w.heap.size + 1, 0, none⟩)]) (by simp [results, Tryz.results65, go_sem]) rfl ⟨rfl, by simp, by simp, by simp only [World.size_alloc]; omega, ((Q.refl _).alloc _).alloc _⟩
theorem mk_str (fn : Fn) (fi ca : Array Value) (fn' : Fn) (fi' ca' : Array Value) (w : World) : Calls Tryz.prog 40 #[.func fn fi ca, .func fn' fi' ca'] w fun e w' => e = .returned (.func (.func 86) #[] #[.pointer (some ⟨w.heap.size, 0, none⟩), .pointer (some ⟨w.heap.size + 1, 0, none⟩)]) ∧ w'.cell? ⟨w.heap.size, 0, none⟩ = some (.func fn fi ca) ∧ w'.cell? ⟨w.heap.size + 1, 0, none⟩ = some (.func fn' fi' ca') ∧ w.heap.size + 1 < w'.heap.size ∧ Q w w' := by
  go_enter Tryz.func40, Tryz.ntmps40
  go_wp2
  exact bodyPost_ret (v := .func (.func 86) #[] #[.pointer (some ⟨w.heap.size, 0, none⟩), .pointer (some ⟨w.heap.size + 1, 0, none⟩)]) (by simp [results, Tryz.results40, go_sem]) rfl ⟨rfl, by simp, by simp, by simp only [World.size_alloc]; omega, ((Q.refl _).alloc _).alloc _⟩
theorem mk_fix (fn : Fn) (fi ca : Array Value) (fn' : Fn) (fi' ca' : Array Value) (w : World) : Calls Tryz.prog 70 #[.func fn fi ca, .func fn' fi' ca'] w fun e w' => e = .returned (.func (.func 115) #[] #[.pointer (some ⟨w.heap.size, 0, none⟩), .pointer (some ⟨w.heap.size + 1, 0, none⟩)]) ∧ w'.cell? ⟨w.heap.size, 0, none⟩ = some (.func fn fi ca) ∧ w'.cell? ⟨w.heap.size + 1, 0, none⟩ = some (.func fn' fi' ca') ∧ w.heap.size + 1 < w'.heap.size ∧ Q w w' := by
  go_enter Tryz.func70, Tryz.ntmps70
  go_wp2
  exact bodyPost_ret (v := .func (.func 115) #[] #[.pointer (some ⟨w.heap.size, 0, none⟩), .pointer (some ⟨w.heap.size + 1, 0, none⟩)]) (by simp [results, Tryz.results70, go_sem]) rfl ⟨rfl, by simp, by simp, by simp only [World.size_alloc]; omega, ((Q.refl _).alloc _).alloc _⟩
set_option maxHeartbeats 1000000 in
theorem find_and (w : World) : Calls Tryz.prog 29 #[.string ⟨#[65, 78, 68]⟩] w fun e w' => ∃ f, e = .returned (.tuple #[.agg #[.int .i64 1, .int .i64 9223372036854775807, f], .bool true]) ∧ TakV w' f 112 66 67 ∧ Q w w' := by
  have HS := hid (fun W => mk_bool (.func 66) #[] #[] (.func 67) #[] #[] W)
  have HA := hid (fun W => ofSingles_any 1 9223372036854775807 (.func 112) #[] #[.pointer (some ⟨w.heap.size + 1, 0, none⟩), .pointer (some ⟨w.heap.size + 1 + 1, 0, none⟩)] W)
  go_enter Tryz.func29, Tryz.ntmps29
  go_wp2_with (first
    | (go_at_call 65; refine (HS.out _).mono ?_; rintro e w1 ⟨rfl, c1, c2, l1, q1⟩; simp only [World.size_alloc] at c1 c2 l1 ⊢; have Q1 := hid q1; have C1 := hid c1; have C2 := hid c2; clear c1 c2 q1)
    | (go_at_call 63; refine (HA.out _).mono ?_; rintro e w2 ⟨rfl, c2, l2, q2⟩; obtain ⟨d0, d1, d2, y0, y1, y2⟩ := fz_on (Q1.out.trans q2); have Q2 := hid ((fz_q w).trans (Q1.out.trans q2)); have C3 := hid c2; have C4 := hid (fcell C1.out q2); have C5 := hid (fcell C2.out q2); clear c2 q2))
  refine bodyPost_ret (v := .tuple #[.agg #[.int .i64 1, .int .i64 9223372036854775807, .func (.func 110) #[] #[.pointer (some ⟨w1.heap.size, 0, none⟩)]], .bool true]) (by simp [results, Tryz.results29, go_sem, d0, d1, d2]) rfl ?_
  exact ⟨_, rfl, ⟨w1.heap.size, w.heap.size + 1, w.heap.size + 1 + 1, rfl, by rw [fz_far (by omega)]; exact C3.out, by rw [fz_far (by omega)]; exact C4.out, by rw [fz_far (by omega)]; exact C5.out⟩, fz_set Q2.out _ _ _⟩
set_option maxHeartbeats 1000000 in
theorem find_or (w : World) : Calls Tryz.prog 29 #[.string ⟨#[79, 82]⟩] w fun e w' => ∃ f, e = .returned (.tuple #[.agg #[.int .i64 1, .int .i64 9223372036854775807, f], .bool true]) ∧ TakV w' f 112 66 68 ∧ Q w w' := by
  have HS := hid (fun W => mk_bool (.func 66) #[] #[] (.func 68) #[] #[] W)
  have HA := hid (fun W => ofSingles_any 1 9223372036854775807 (.func 112) #[] #[.pointer (some ⟨w.heap.size + 1, 0, none⟩), .pointer (some ⟨w.heap.size + 1 + 1, 0, none⟩)] W)
  go_enter Tryz.func29, Tryz.ntmps29
  go_wp2_with (first
    | (go_at_call 65; refine (HS.out _).mono ?_; rintro e w1 ⟨rfl, c1, c2, l1, q1⟩; simp only [World.size_alloc] at c1 c2 l1 ⊢; have Q1 := hid q1; have C1 := hid c1; have C2 := hid c2; clear c1 c2 q1)
    | (go_at_call 63; refine (HA.out _).mono ?_; rintro e w2 ⟨rfl, c2, l2, q2⟩; obtain ⟨d0, d1, d2, y0, y1, y2⟩ := fz_on (Q1.out.trans q2); have Q2 := hid ((fz_q w).trans (Q1.out.trans q2)); have C3 := hid c2; have C4 := hid (fcell C1.out q2); have C5 := hid (fcell C2.out q2); clear c2 q2))
  refine bodyPost_ret (v := .tuple #[.agg #[.int .i64 1, .int .i64 9223372036854775807, .func (.func 110) #[] #[.pointer (some ⟨w1.heap.size, 0, none⟩)]], .bool true]) (by simp [results, Tryz.results29, go_sem, d0, d1, d2]) rfl ?_
  exact ⟨_, rfl, ⟨w1.heap.size, w.heap.size + 1, w.heap.size + 1 + 1, rfl, by rw [fz_far (by omega)]; exact C3.out, by rw [fz_far (by omega)]; exact C4.out, by rw [fz_far (by omega)]; exact C5.out⟩, fz_set Q2.out _ _ _⟩
set_option maxHeartbeats 1000000 in
theorem find_not (w : World) : Calls Tryz.prog 29 #[.string ⟨#[78, 79, 84]⟩] w fun e w' => ∃ f, e = .returned (.tuple #[.agg #[.int .i64 1, .int .i64 1, f], .bool true]) ∧ TakV w' f 112 66 69 ∧ Q w w' := by
  have HS := hid (fun W => mk_bool (.func 66) #[] #[] (.func 69) #[] #[] W)
  have HA := hid (fun W => ofSingles_any 1 1 (.func 112) #[] #[.pointer (some ⟨w.heap.size + 1, 0, none⟩), .pointer (some ⟨w.heap.size + 1 + 1, 0, none⟩)] W)
  go_enter Tryz.func29, Tryz.ntmps29
  go_wp2_with (first
    | (go_at_call 65; refine (HS.out _).mono ?_; rintro e w1 ⟨rfl, c1, c2, l1, q1⟩; simp only [World.size_alloc] at c1 c2 l1 ⊢; have Q1 := hid q1; have C1 := hid c1; have C2 := hid c2; clear c1 c2 q1)
    | (go_at_call 63; refine (HA.out _).mono ?_; rintro e w2 ⟨rfl, c2, l2, q2⟩; obtain ⟨d0, d1, d2, y0, y1, y2⟩ := fz_on (Q1.out.trans q2); have Q2 := hid ((fz_q w).trans (Q1.out.trans q2)); have C3 := hid c2; have C4 := hid (fcell C1.out q2); have C5 := hid (fcell C2.out q2); clear c2 q2))
  refine bodyPost_ret (v := .tuple #[.agg #[.int .i64 1, .int .i64 1, .func (.func 110) #[] #[.pointer (some ⟨w1.heap.size, 0, none⟩)]], .bool true]) (by simp [results, Tryz.results29, go_sem, d0, d1, d2]) rfl ?_
  exact ⟨_, rfl, ⟨w1.heap.size, w.heap.size + 1, w.heap.size + 1 + 1, rfl, by rw [fz_far (by omega)]; exact C3.out, by rw [fz_far (by omega)]; exact C4.out, by rw [fz_far (by omega)]; exact C5.out⟩, fz_set Q2.out _ _ _⟩
set_option maxHeartbeats 1000000 in
theorem find_abs (w : World) : Calls Tryz.prog 29 #[.string ⟨#[65, 66, 83]⟩] w fun e w' => ∃ f, e = .returned (.tuple #[.agg #[.int .i64 1, .int .i64 1, f], .bool true]) ∧ TakV w' f 115 71 72 ∧ Q w w' := by
  have HS := hid (fun W => mk_fix (.func 71) #[] #[] (.func 72) #[] #[] W)
  have HA := hid (fun W => ofSingles_any 1 1 (.func 115) #[] #[.pointer (some ⟨w.heap.size + 1, 0, none⟩), .pointer (some ⟨w.heap.size + 1 + 1, 0, none⟩)] W)
  go_enter Tryz.func29, Tryz.ntmps29
  go_wp2_with (first
    | (go_at_call 70; refine (HS.out _).mono ?_; rintro e w1 ⟨rfl, c1, c2, l1, q1⟩; simp only [World.size_alloc] at c1 c2 l1 ⊢; have Q1 := hid q1; have C1 := hid c1; have C2 := hid c2; clear c1 c2 q1)
    | (go_at_call 63; refine (HA.out _).mono ?_; rintro e w2 ⟨rfl, c2, l2, q2⟩; obtain ⟨d0, d1, d2, y0, y1, y2⟩ := fz_on (Q1.out.trans q2); have Q2 := hid ((fz_q w).trans (Q1.out.trans q2)); have C3 := hid c2; have C4 := hid (fcell C1.out q2); have C5 := hid (fcell C2.out q2); clear c2 q2))
  refine bodyPost_ret (v := .tuple #[.agg #[.int .i64 1, .int .i64 1, .func (.func 110) #[] #[.pointer (some ⟨w1.heap.size, 0, none⟩)]], .bool true]) (by simp [results, Tryz.results29, go_sem, d0, d1, d2]) rfl ?_
  exact ⟨_, rfl, ⟨w1.heap.size, w.heap.size + 1, w.heap.size + 1 + 1, rfl, by rw [fz_far (by omega)]; exact C3.out, by rw [fz_far (by omega)]; exact C4.out, by rw [fz_far (by omega)]; exact C5.out⟩, fz_set Q2.out _ _ _⟩
set_option maxHeartbeats 1000000 in
theorem find_len (w : World) : Calls Tryz.prog 29 #[.string ⟨#[76, 69, 78]⟩] w fun e w' => ∃ f, e = .returned (.tuple #[.agg #[.int .i64 1, .int .i64 1, f], .bool true]) ∧ TakV w' f 86 41 73 ∧ Q w w' := by
  have HS := hid (fun W => mk_str (.func 41) #[] #[] (.func 73) #[] #[] W)
  have HA := hid (fun W => ofSingles_any 1 1 (.func 86) #[] #[.pointer (some ⟨w.heap.size + 1, 0, none⟩), .pointer (some ⟨w.heap.size + 1 + 1, 0, none⟩)] W)
  go_enter Tryz.func29, Tryz.ntmps29
  go_wp2_with (first
    | (go_at_call 40; refine (HS.out _).mono ?_; rintro e w1 ⟨rfl, c1, c2, l1, q1⟩; simp only [World.size_alloc] at c1 c2 l1 ⊢; have Q1 := hid q1; have C1 := hid c1; have C2 := hid c2; clear c1 c2 q1)
    | (go_at_call 63; refine (HA.out _).mono ?_; rintro e w2 ⟨rfl, c2, l2, q2⟩; obtain ⟨d0, d1, d2, y0, y1, y2⟩ := fz_on (Q1.out.trans q2); have Q2 := hid ((fz_q w).trans (Q1.out.trans q2)); have C3 := hid c2; have C4 := hid (fcell C1.out q2); have C5 := hid (fcell C2.out q2); clear c2 q2))
  refine bodyPost_ret (v := .tuple #[.agg #[.int .i64 1, .int .i64 1, .func (.func 110) #[] #[.pointer (some ⟨w1.heap.size, 0, none⟩)]], .bool true]) (by simp [results, Tryz.results29, go_sem, d0, d1, d2]) rfl ?_
  exact ⟨_, rfl, ⟨w1.heap.size, w.heap.size + 1, w.heap.size + 1 + 1, rfl, by rw [fz_far (by omega)]; exact C3.out, by rw [fz_far (by omega)]; exact C4.out, by rw [fz_far (by omega)]; exact C5.out⟩, fz_set Q2.out _ _ _⟩
set_option maxHeartbeats 1000000 in
theorem find_concat (w : World) : Calls Tryz.prog 29 #[.string ⟨#[67, 79, 78, 67, 65, 84]⟩] w fun e w' => ∃ f, e = .returned (.tuple #[.agg #[.int .i64 0, .int .i64 9223372036854775807, f], .bool true]) ∧ TakV w' f 86 41 42 ∧ Q w w' := by
  have HS := hid (fun W => mk_str (.func 41) #[] #[] (.func 42) #[] #[] W)
  have HA := hid (fun W => ofSingles_any 0 9223372036854775807 (.func 86) #[] #[.pointer (some ⟨w.heap.size + 1, 0, none⟩), .pointer (some ⟨w.heap.size + 1 + 1, 0, none⟩)] W)
  go_enter Tryz.func29, Tryz.ntmps29
  go_wp2_with (first
    | (go_at_call 40; refine (HS.out _).mono ?_; rintro e w1 ⟨rfl, c1, c2, l1, q1⟩; simp only [World.size_alloc] at c1 c2 l1 ⊢; have Q1 := hid q1; have C1 := hid c1; have C2 := hid c2; clear c1 c2 q1)
    | (go_at_call 63; refine (HA.out _).mono ?_; rintro e w2 ⟨rfl, c2, l2, q2⟩; obtain ⟨d0, d1, d2, y0, y1, y2⟩ := fz_on (Q1.out.trans q2); have Q2 := hid ((fz_q w).trans (Q1.out.trans q2)); have C3 := hid c2; have C4 := hid (fcell C1.out q2); have C5 := hid (fcell C2.out q2); clear c2 q2))
  refine bodyPost_ret (v := .tuple #[.agg #[.int .i64 0, .int .i64 9223372036854775807, .func (.func 110) #[] #[.pointer (some ⟨w1.heap.size, 0, none⟩)]], .bool true]) (by simp [results, Tryz.results29, go_sem, d0, d1, d2]) rfl ?_
  exact ⟨_, rfl, ⟨w1.heap.size, w.heap.size + 1, w.heap.size + 1 + 1, rfl, by rw [fz_far (by omega)]; exact C3.out, by rw [fz_far (by omega)]; exact C4.out, by rw [fz_far (by omega)]; exact C5.out⟩, fz_set Q2.out _ _ _⟩
set_option maxHeartbeats 1000000 in
theorem find_na (w : World) : Calls Tryz.prog 29 #[.string ⟨#[78, 65]⟩] w fun e w' => ∃ f, e = .returned (.tuple #[.agg #[.int .i64 0, .int .i64 0, f], .bool true]) ∧ SinV w' f 75 ∧ Q w w' := by
  have HA := hid (fun W => ofSingles_any 0 0 (.func 75) #[] #[] W)
  go_enter Tryz.func29, Tryz.ntmps29
  go_wp2_with (go_at_call 63; refine (HA.out _).mono ?_; rintro e w1 ⟨rfl, c1, l1, q1⟩; obtain ⟨d0, d1, d2, y0, y1, y2⟩ := fz_on q1; have Q1 := hid ((fz_q w).trans q1); have C1 := hid c1; clear c1 q1)
  refine bodyPost_ret (v := .tuple #[.agg #[.int .i64 0, .int .i64 0, .func (.func 110) #[] #[.pointer (some ⟨w.heap.size + 1, 0, none⟩)]], .bool true]) (by simp [results, Tryz.results29, go_sem, d0, d1, d2]) rfl ?_
  exact ⟨_, rfl, ⟨w.heap.size + 1, rfl, by rw [fz_far (by omega)]; simpa using C1.out⟩, fz_set Q1.out _ _ _⟩
end Go.Proofs.YtfjpdopmojfchaaGreatDoor
