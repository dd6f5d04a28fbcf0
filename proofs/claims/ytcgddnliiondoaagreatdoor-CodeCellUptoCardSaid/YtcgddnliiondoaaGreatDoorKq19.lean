/- The writer of package opcode: references; trees, kind by kin. -/
import Derived.Test.YtcgddnliiondoaaGreatDoorKq18
import Derived.Test.YtcgddnliiondoaaGreatDoorKq16
set_option linter.unusedVariables false
set_option linter.unusedSimpArgs false
set_option maxRecDepth 100000
set_option maxHeartbeats 8000000
namespace Go.Proofs.YtcgddnliiondoaaGreatDoor
open Go.RowKit
theorem wpl_layq (w : World) {ops : Array Oper} {rest : List Oper} {o : Oper} {a : Act} {Q : Exit → Act → World → Prop} (t : TypeId) (x y : Operand) (ho : o.op = .store t x y) (hgd : o.guard = none) (z old : Array Value)
    (hx : a.eval x = .pointer (some ⟨w.heap.size, 0, none⟩)) (hy : a.eval y = .agg z) (hi : (Tryz.prog.info? t).map (·.size) = some z.size) (hold : old.size = z.size) (h1 : z.all (·.oneCell') = true)
    {W : World} (hW : W = w.alloc (.cells old t)) (h : wpList Tryz.prog ops Q rest (a.put o.dst undef) (w.alloc (.cells z t))) : wpList Tryz.prog ops Q (o :: rest) a W := by
  subst hW
  refine wpList_store_row hgd t x y ho w.heap.size z hx hy t old (heap_alloc_last w _) hi hold h1 ?_
  rw [World.setRow_alloc_new]
  exact h
theorem info96 : (Tryz.prog.info? 96).map (·.size) = some 5 := by kernel_rfl
theorem info40 : (Tryz.prog.info? 40).map (·.size) = some 7 := by kernel_rfl
def wfR (x : Rf) : Prop := x.1.length ≤ 2000000 ∧ (0 ≤ x.2.1 ∧ x.2.1 < 4611686018427387904) ∧ (0 ≤ x.2.2.1 ∧ x.2.2.1 < 4611686018427387904)
set_option maxHeartbeats 4000000 in
theorem wref_any (p : Nat) (sv : ByteArray) (r c : Nat) (x y : Bool) (L : List UInt8) (w : World) (hs : sv.size ≤ 2000000) (hr : r < 4611686018427387904) (hc : c < 4611686018427387904) (h : Wr p L w) (hL : L.length ≤ 900000000) :
    Calls Tryz.prog 87 #[.pointer (some ⟨p, 0, none⟩), .agg #[.string sv, .int .i64 r, .int .i64 c, .bool x, .bool y]] w fun e W' => e = .returned (.tuple #[]) ∧ Wr p (L ++ encR (sv.data.toList, (r : Int), (c : Int), x, y)) W' ∧ Ww p w W' := by
  have HW := hid h
  have T0 : Hid True := hid trivial
  have HB := hid (And.intro hL (And.intro hs (And.intro (vn_len sv.size) (And.intro (vn_len r) (vn_len c)))))
  have HE : Hid (L ++ encR (sv.data.toList, (r : Int), (c : Int), x, y) = L ++ vn sv.size ++ sv.data.toList ++ vn r ++ vn c ++ vn (heldN x y)) := hid (by
    simp [encR, List.append_assoc])
  clear h hL hs
  have HH : Hid (heldN x y < 9223372036854775808) := hid (by unfold heldN; split <;> split <;> omega)
  go_enter Tryz.func87, Tryz.ntmps87
  go_upto_region 1 with fail
  have HZ := hid (bq_new w #[.string sv, .int .i64 r, .int .i64 c, .bool x, .bool y] 96)
  have HNE : Hid (w.heap.size ≠ p) := hid (by have := HW.out.lt; omega)
  have HQ : Hid (Ww p w (w.alloc (.cells #[.string sv, .int .i64 r, .int .i64 c, .bool x, .bool y] 96))) := hid (Ww.of ((Q.refl _).alloc _) (Nat.le_of_lt HW.out.lt))
  replace HW := hid (HW.out.on ((Q.refl w).alloc (.cells #[.string sv, .int .i64 r, .int .i64 c, .bool x, .bool y] 96)))
  generalize w.alloc (.cells #[.string sv, .int .i64 r, .int .i64 c, .bool x, .bool y] 96) = w1 at HZ HW HQ ⊢
  generalize w.heap.size = b0 at HZ HNE ⊢
  have d0 := HZ.out.c 0 _ rfl; have d1 := HZ.out.c 1 _ rfl; have d2 := HZ.out.c 2 _ rfl; have d3 := HZ.out.c 3 _ rfl; have d4 := HZ.out.c 4 _ rfl
  go_wp2_with (first
    | (go_at_call 55; refine (wtext_big p sv _ _ HB.out.2.1 HW.out (by (try simp only [List.length_append, len_data]); have := HB.out; omega)).mono ?_; rintro e9 y9 ⟨rfl, hw9, hq9⟩; replace HW := hid hw9; replace HZ := hid (HZ.out.ww hq9 HNE.out (by decide)); replace HQ := hid (HQ.out.trans hq9); have d0 := HZ.out.c 0 _ rfl; have d1 := HZ.out.c 1 _ rfl; have d2 := HZ.out.c 2 _ rfl; have d3 := HZ.out.c 3 _ rfl; have d4 := HZ.out.c 4 _ rfl; clear hw9 hq9)
    | (go_at_call 72; clear T0; refine (wline_any p r _ _ (by omega) HW.out (by (try simp only [List.length_append, len_data]); have := HB.out; omega)).mono ?_; rintro e9 y9 ⟨rfl, hw9, hq9⟩; replace HW := hid hw9; replace HZ := hid (HZ.out.ww hq9 HNE.out (by decide)); replace HQ := hid (HQ.out.trans hq9); have d0 := HZ.out.c 0 _ rfl; have d1 := HZ.out.c 1 _ rfl; have d2 := HZ.out.c 2 _ rfl; have d3 := HZ.out.c 3 _ rfl; have d4 := HZ.out.c 4 _ rfl; clear hw9 hq9)
    | (go_at_call 72; refine (wline_any p c _ _ (by omega) HW.out (by (try simp only [List.length_append, len_data]); have := HB.out; omega)).mono ?_; rintro e9 y9 ⟨rfl, hw9, hq9⟩; replace HW := hid hw9; replace HZ := hid (HZ.out.ww hq9 HNE.out (by decide)); replace HQ := hid (HQ.out.trans hq9); have d0 := HZ.out.c 0 _ rfl; have d1 := HZ.out.c 1 _ rfl; have d2 := HZ.out.c 2 _ rfl; have d3 := HZ.out.c 3 _ rfl; have d4 := HZ.out.c 4 _ rfl; clear hw9 hq9)
    | (go_at_call 111; refine (held_any sv r c x y _).mono ?_; rintro e9 y8 ⟨rfl, hq9⟩; replace HQ := hid (HQ.out.trans (Ww.of hq9 (Nat.le_of_lt HW.out.lt))); replace HW := hid (HW.out.on hq9); clear hq9)
    | (go_at_call 38; refine (wcount_any p (heldN x y) _ _ HH.out HW.out (by (try simp only [List.length_append, len_data]); have := HB.out; omega)).mono ?_; rintro e9 y9 ⟨rfl, hw9, hq9⟩; replace HW := hid hw9; replace HQ := hid (HQ.out.trans hq9); clear hw9 hq9))
  go_end0
  exact ⟨rfl, HE.out ▸ HW.out, HQ.out⟩
def TreeC (w0 : World) (p : Nat) (X : Ex) (v : Value) : Prop := ∀ L W, Q w0 W → Wr p L W → L.length + (encT X).length ≤ 900000000 → Calls Tryz.prog 53 #[.pointer (some ⟨p, 0, none⟩), v] W fun e W' => e = .returned (.tuple #[]) ∧ Wr p (L ++ encT X) W' ∧ Ww p W W'
def TreesC (w0 : World) (p : Nat) (ks : List Ex) (v : Value) : Prop := ∀ L W, Q w0 W → Wr p L W → L.length + (encT.encTL ks).length ≤ 900000000 → Calls Tryz.prog 88 #[.pointer (some ⟨p, 0, none⟩), v] W fun e W' => e = .returned (.tuple #[]) ∧ Wr p (L ++ encT.encTL ks) W' ∧ Ww p W W'
theorem encT_1 (n : Int) (t : ByteArray) (b : Bool) (e : Int) (rs : List Rf) (ks : List Ex) : encT (.mk 1 n t.data.toList b e rs ks) = vn 1 ++ vn (u64N n) := by
  rw [encT]
  simp
theorem encT_2 (n : Int) (t : ByteArray) (b : Bool) (e : Int) (rs : List Rf) (ks : List Ex) : encT (.mk 2 n t.data.toList b e rs ks) = vn 2 ++ (vn t.size ++ t.data.toList) := by
  rw [encT]
  simp
theorem encT_3 (n : Int) (t : ByteArray) (b : Bool) (e : Int) (rs : List Rf) (ks : List Ex) : encT (.mk 3 n t.data.toList b e rs ks) = vn 3 ++ vn (if b then 1 else 0) := by
  rw [encT]
  simp
theorem encT_4 (n : Int) (t : ByteArray) (b : Bool) (e : Int) (rs : List Rf) (ks : List Ex) : encT (.mk 4 n t.data.toList b e rs ks) = vn 4 ++ vn e.toNat := by
  rw [encT]
  simp
theorem encT_5 (n : Int) (t : ByteArray) (b : Bool) (e : Int) (rs : List Rf) (ks : List Ex) : encT (.mk 5 n t.data.toList b e rs ks) = vn 5 ++ rs.flatMap encR := by
  rw [encT]
  simp
theorem encT_6 (n : Int) (t : ByteArray) (b : Bool) (e : Int) (rs : List Rf) (ks : List Ex) : encT (.mk 6 n t.data.toList b e rs ks) = vn 6 ++ rs.flatMap encR := by
  rw [encT]
  simp
theorem encT_7 (n : Int) (t : ByteArray) (b : Bool) (e : Int) (rs : List Rf) (ks : List Ex) : encT (.mk 7 n t.data.toList b e rs ks) = vn 7 ++ encT.encTL ks := by
  rw [encT]
  simp
theorem encT_8 (n : Int) (t : ByteArray) (b : Bool) (e : Int) (rs : List Rf) (ks : List Ex) : encT (.mk 8 n t.data.toList b e rs ks) = vn 8 ++ (vn t.size ++ (t.data.toList ++ encT.encTL ks)) := by
  rw [encT]
  simp
theorem encT_9 (n : Int) (t : ByteArray) (b : Bool) (e : Int) (rs : List Rf) (ks : List Ex) : encT (.mk 9 n t.data.toList b e rs ks) = vn 9 ++ (vn t.size ++ (t.data.toList ++ (vn ks.length ++ encT.encTL ks))) := by
  rw [encT]
  simp
set_option maxHeartbeats 8000000 in
theorem wtree_1 (w0 : World) (p : Nat) (n : Int) (t : ByteArray) (b : Bool) (e : Int) (rs : List Rf) (ks : List Ex) (ar ao : Option Addr) (cr cap : Nat) (hp : w0.heap.size ≤ p)  : TreeC w0 p (.mk 1 n t.data.toList b e rs ks) (.agg #[.int .i64 1, .int .i64 n, .string t, .bool b, .int .i64 e, .slice ar rs.length cr, .slice ao ks.length cap]) := by
  intro L W hq0 h hL
  rw [encT_1] at hL ⊢
  simp only [List.length_append, len_data] at hL
  have HW := hid h
  have HQ0 := hid hq0
  have T0 : Hid True := hid trivial
  have HB := hid (And.intro hL (u64N_lt n))
  have eW := u64N_eq n
  clear h hL hq0
  go_enter Tryz.func53, Tryz.ntmps53
  go_upto_region 1 with fail
  have HZ := hid (bq_new W #[.int .i64 1, .int .i64 n, .string t, .bool b, .int .i64 e, .slice ar rs.length cr, .slice ao ks.length cap] 40)
  have HNE : Hid (W.heap.size ≠ p) := hid (by have := HW.out.lt; omega)
  have HQ : Hid (Ww p W (W.alloc (.cells #[.int .i64 1, .int .i64 n, .string t, .bool b, .int .i64 e, .slice ar rs.length cr, .slice ao ks.length cap] 40))) := hid (Ww.of ((Q.refl _).alloc _) (Nat.le_of_lt HW.out.lt))
  replace HW := hid (HW.out.on ((Q.refl W).alloc (.cells #[.int .i64 1, .int .i64 n, .string t, .bool b, .int .i64 e, .slice ar rs.length cr, .slice ao ks.length cap] 40)))
  generalize W.alloc (.cells #[.int .i64 1, .int .i64 n, .string t, .bool b, .int .i64 e, .slice ar rs.length cr, .slice ao ks.length cap] 40) = w1 at HZ HW HQ ⊢
  generalize W.heap.size = b0 at HZ HNE ⊢
  have d0 := HZ.out.c 0 _ rfl; have d1 := HZ.out.c 1 _ rfl; have d2 := HZ.out.c 2 _ rfl; have d3 := HZ.out.c 3 _ rfl; have d4 := HZ.out.c 4 _ rfl; have d5 := HZ.out.c 5 _ rfl; have d6 := HZ.out.c 6 _ rfl
  go_wp2_with (first
    | (go_at_call 38; refine (wcount_any p 1 _ _ (by decide) HW.out (by (try simp only [List.length_append, len_data]); have := HB.out; omega)).mono ?_; rintro e9 y9 ⟨rfl, hw9, hq9⟩; replace HW := hid hw9; replace HZ := hid (HZ.out.ww hq9 HNE.out (by decide)); replace HQ := hid (HQ.out.trans hq9); have d0 := HZ.out.c 0 _ rfl; have d1 := HZ.out.c 1 _ rfl; have d2 := HZ.out.c 2 _ rfl; have d3 := HZ.out.c 3 _ rfl; have d4 := HZ.out.c 4 _ rfl; have d5 := HZ.out.c 5 _ rfl; have d6 := HZ.out.c 6 _ rfl; clear hw9 hq9)
    | (go_at_call 71; refine (wnum_any p (u64N n) _ _ HB.out.2 HW.out (by (try simp only [List.length_append, len_data]); have := HB.out; omega)).mono ?_; rintro e9 y9 ⟨rfl, hw9, hq9⟩; replace HW := hid hw9; replace HZ := hid (HZ.out.ww hq9 HNE.out (by decide)); replace HQ := hid (HQ.out.trans hq9); have d0 := HZ.out.c 0 _ rfl; have d1 := HZ.out.c 1 _ rfl; have d2 := HZ.out.c 2 _ rfl; have d3 := HZ.out.c 3 _ rfl; have d4 := HZ.out.c 4 _ rfl; have d5 := HZ.out.c 5 _ rfl; have d6 := HZ.out.c 6 _ rfl; clear hw9 hq9))
  go_end0
  refine ⟨rfl, ?_, HQ.out⟩
  have := HW.out
  simpa [List.append_assoc] using this
set_option maxHeartbeats 8000000 in
theorem wtree_2 (w0 : World) (p : Nat) (n : Int) (t : ByteArray) (b : Bool) (e : Int) (rs : List Rf) (ks : List Ex) (ar ao : Option Addr) (cr cap : Nat) (hp : w0.heap.size ≤ p) (ht : t.size ≤ 1000000) : TreeC w0 p (.mk 2 n t.data.toList b e rs ks) (.agg #[.int .i64 2, .int .i64 n, .string t, .bool b, .int .i64 e, .slice ar rs.length cr, .slice ao ks.length cap]) := by
  intro L W hq0 h hL
  rw [encT_2] at hL ⊢
  simp only [List.length_append, len_data] at hL
  have HW := hid h
  have HQ0 := hid hq0
  have T0 : Hid True := hid trivial
  have HB := hid (And.intro hL ht)
  clear h hL hq0
  go_enter Tryz.func53, Tryz.ntmps53
  go_upto_region 1 with fail
  have HZ := hid (bq_new W #[.int .i64 2, .int .i64 n, .string t, .bool b, .int .i64 e, .slice ar rs.length cr, .slice ao ks.length cap] 40)
  have HNE : Hid (W.heap.size ≠ p) := hid (by have := HW.out.lt; omega)
  have HQ : Hid (Ww p W (W.alloc (.cells #[.int .i64 2, .int .i64 n, .string t, .bool b, .int .i64 e, .slice ar rs.length cr, .slice ao ks.length cap] 40))) := hid (Ww.of ((Q.refl _).alloc _) (Nat.le_of_lt HW.out.lt))
  replace HW := hid (HW.out.on ((Q.refl W).alloc (.cells #[.int .i64 2, .int .i64 n, .string t, .bool b, .int .i64 e, .slice ar rs.length cr, .slice ao ks.length cap] 40)))
  generalize W.alloc (.cells #[.int .i64 2, .int .i64 n, .string t, .bool b, .int .i64 e, .slice ar rs.length cr, .slice ao ks.length cap] 40) = w1 at HZ HW HQ ⊢
  generalize W.heap.size = b0 at HZ HNE ⊢
  have d0 := HZ.out.c 0 _ rfl; have d1 := HZ.out.c 1 _ rfl; have d2 := HZ.out.c 2 _ rfl; have d3 := HZ.out.c 3 _ rfl; have d4 := HZ.out.c 4 _ rfl; have d5 := HZ.out.c 5 _ rfl; have d6 := HZ.out.c 6 _ rfl
  go_wp2_with (first
    | (go_at_call 38; refine (wcount_any p 2 _ _ (by decide) HW.out (by (try simp only [List.length_append, len_data]); have := HB.out; omega)).mono ?_; rintro e9 y9 ⟨rfl, hw9, hq9⟩; replace HW := hid hw9; replace HZ := hid (HZ.out.ww hq9 HNE.out (by decide)); replace HQ := hid (HQ.out.trans hq9); have d0 := HZ.out.c 0 _ rfl; have d1 := HZ.out.c 1 _ rfl; have d2 := HZ.out.c 2 _ rfl; have d3 := HZ.out.c 3 _ rfl; have d4 := HZ.out.c 4 _ rfl; have d5 := HZ.out.c 5 _ rfl; have d6 := HZ.out.c 6 _ rfl; clear hw9 hq9)
    | (go_at_call 55; refine (wtext_any p t _ _ HB.out.2 HW.out (by (try simp only [List.length_append, len_data]); have := HB.out; omega)).mono ?_; rintro e9 y9 ⟨rfl, hw9, hq9⟩; replace HW := hid hw9; replace HZ := hid (HZ.out.ww hq9 HNE.out (by decide)); replace HQ := hid (HQ.out.trans hq9); have d0 := HZ.out.c 0 _ rfl; have d1 := HZ.out.c 1 _ rfl; have d2 := HZ.out.c 2 _ rfl; have d3 := HZ.out.c 3 _ rfl; have d4 := HZ.out.c 4 _ rfl; have d5 := HZ.out.c 5 _ rfl; have d6 := HZ.out.c 6 _ rfl; clear hw9 hq9))
  go_end0
  refine ⟨rfl, ?_, HQ.out⟩
  have := HW.out
  simpa [List.append_assoc] using this
set_option maxHeartbeats 8000000 in
theorem wtree_3 (w0 : World) (p : Nat) (n : Int) (t : ByteArray) (b : Bool) (e : Int) (rs : List Rf) (ks : List Ex) (ar ao : Option Addr) (cr cap : Nat) (hp : w0.heap.size ≤ p)  : TreeC w0 p (.mk 3 n t.data.toList b e rs ks) (.agg #[.int .i64 3, .int .i64 n, .string t, .bool b, .int .i64 e, .slice ar rs.length cr, .slice ao ks.length cap]) := by
  intro L W hq0 h hL
  rw [encT_3] at hL ⊢
  simp only [List.length_append, len_data] at hL
  have HW := hid h
  have HQ0 := hid hq0
  have T0 : Hid True := hid trivial
  have HB := hid (And.intro hL trivial)
  obtain ⟨m, hm⟩ : ∃ m : Nat, (if b then 1 else 0) = m := ⟨_, rfl⟩
  have HTR := hid (fun L w (h : Wr p L w) (hL : L.length ≤ 1000000000) => hm ▸ wtruth_any p b L w h hL)
  rw [hm] at HB ⊢
  clear hm
  clear h hL hq0
  go_enter Tryz.func53, Tryz.ntmps53
  go_upto_region 1 with fail
  have HZ := hid (bq_new W #[.int .i64 3, .int .i64 n, .string t, .bool b, .int .i64 e, .slice ar rs.length cr, .slice ao ks.length cap] 40)
  have HNE : Hid (W.heap.size ≠ p) := hid (by have := HW.out.lt; omega)
  have HQ : Hid (Ww p W (W.alloc (.cells #[.int .i64 3, .int .i64 n, .string t, .bool b, .int .i64 e, .slice ar rs.length cr, .slice ao ks.length cap] 40))) := hid (Ww.of ((Q.refl _).alloc _) (Nat.le_of_lt HW.out.lt))
  replace HW := hid (HW.out.on ((Q.refl W).alloc (.cells #[.int .i64 3, .int .i64 n, .string t, .bool b, .int .i64 e, .slice ar rs.length cr, .slice ao ks.length cap] 40)))
  generalize W.alloc (.cells #[.int .i64 3, .int .i64 n, .string t, .bool b, .int .i64 e, .slice ar rs.length cr, .slice ao ks.length cap] 40) = w1 at HZ HW HQ ⊢
  generalize W.heap.size = b0 at HZ HNE ⊢
  have d0 := HZ.out.c 0 _ rfl; have d1 := HZ.out.c 1 _ rfl; have d2 := HZ.out.c 2 _ rfl; have d3 := HZ.out.c 3 _ rfl; have d4 := HZ.out.c 4 _ rfl; have d5 := HZ.out.c 5 _ rfl; have d6 := HZ.out.c 6 _ rfl
  go_wp2_with (first
    | (go_at_call 38; refine (wcount_any p 3 _ _ (by decide) HW.out (by (try simp only [List.length_append, len_data]); have := HB.out; omega)).mono ?_; rintro e9 y9 ⟨rfl, hw9, hq9⟩; replace HW := hid hw9; replace HZ := hid (HZ.out.ww hq9 HNE.out (by decide)); replace HQ := hid (HQ.out.trans hq9); have d0 := HZ.out.c 0 _ rfl; have d1 := HZ.out.c 1 _ rfl; have d2 := HZ.out.c 2 _ rfl; have d3 := HZ.out.c 3 _ rfl; have d4 := HZ.out.c 4 _ rfl; have d5 := HZ.out.c 5 _ rfl; have d6 := HZ.out.c 6 _ rfl; clear hw9 hq9)
    | (go_at_call 56; refine (HTR.out _ _ HW.out (by (try simp only [List.length_append, len_data]); have := HB.out; omega)).mono ?_; rintro e9 y9 ⟨rfl, hw9, hq9⟩; replace HW := hid hw9; replace HZ := hid (HZ.out.ww hq9 HNE.out (by decide)); replace HQ := hid (HQ.out.trans hq9); have d0 := HZ.out.c 0 _ rfl; have d1 := HZ.out.c 1 _ rfl; have d2 := HZ.out.c 2 _ rfl; have d3 := HZ.out.c 3 _ rfl; have d4 := HZ.out.c 4 _ rfl; have d5 := HZ.out.c 5 _ rfl; have d6 := HZ.out.c 6 _ rfl; clear hw9 hq9))
  go_end0
  refine ⟨rfl, ?_, HQ.out⟩
  have := HW.out
  simpa [List.append_assoc] using this
set_option maxHeartbeats 8000000 in
theorem wtree_4 (w0 : World) (p : Nat) (n : Int) (t : ByteArray) (b : Bool) (e : Nat) (rs : List Rf) (ks : List Ex) (ar ao : Option Addr) (cr cap : Nat) (hp : w0.heap.size ≤ p) (he : e < 9223372036854775808) : TreeC w0 p (.mk 4 n t.data.toList b (e : Int) rs ks) (.agg #[.int .i64 4, .int .i64 n, .string t, .bool b, .int .i64 e, .slice ar rs.length cr, .slice ao ks.length cap]) := by
  intro L W hq0 h hL
  rw [encT_4] at hL ⊢
  simp only [List.length_append, len_data] at hL
  have HW := hid h
  have HQ0 := hid hq0
  have T0 : Hid True := hid trivial
  have HB := hid (And.intro hL he)
  clear h hL hq0
  go_enter Tryz.func53, Tryz.ntmps53
  go_upto_region 1 with fail
  have HZ := hid (bq_new W #[.int .i64 4, .int .i64 n, .string t, .bool b, .int .i64 e, .slice ar rs.length cr, .slice ao ks.length cap] 40)
  have HNE : Hid (W.heap.size ≠ p) := hid (by have := HW.out.lt; omega)
  have HQ : Hid (Ww p W (W.alloc (.cells #[.int .i64 4, .int .i64 n, .string t, .bool b, .int .i64 e, .slice ar rs.length cr, .slice ao ks.length cap] 40))) := hid (Ww.of ((Q.refl _).alloc _) (Nat.le_of_lt HW.out.lt))
  replace HW := hid (HW.out.on ((Q.refl W).alloc (.cells #[.int .i64 4, .int .i64 n, .string t, .bool b, .int .i64 e, .slice ar rs.length cr, .slice ao ks.length cap] 40)))
  generalize W.alloc (.cells #[.int .i64 4, .int .i64 n, .string t, .bool b, .int .i64 e, .slice ar rs.length cr, .slice ao ks.length cap] 40) = w1 at HZ HW HQ ⊢
  generalize W.heap.size = b0 at HZ HNE ⊢
  have d0 := HZ.out.c 0 _ rfl; have d1 := HZ.out.c 1 _ rfl; have d2 := HZ.out.c 2 _ rfl; have d3 := HZ.out.c 3 _ rfl; have d4 := HZ.out.c 4 _ rfl; have d5 := HZ.out.c 5 _ rfl; have d6 := HZ.out.c 6 _ rfl
  go_wp2_with (first
    | (go_at_call 38; clear T0; refine (wcount_any p 4 _ _ (by decide) HW.out (by (try simp only [List.length_append, len_data]); have := HB.out; omega)).mono ?_; rintro e9 y9 ⟨rfl, hw9, hq9⟩; replace HW := hid hw9; replace HZ := hid (HZ.out.ww hq9 HNE.out (by decide)); replace HQ := hid (HQ.out.trans hq9); have d0 := HZ.out.c 0 _ rfl; have d1 := HZ.out.c 1 _ rfl; have d2 := HZ.out.c 2 _ rfl; have d3 := HZ.out.c 3 _ rfl; have d4 := HZ.out.c 4 _ rfl; have d5 := HZ.out.c 5 _ rfl; have d6 := HZ.out.c 6 _ rfl; clear hw9 hq9)
    | (go_at_call 38; refine (wcount_any p e _ _ HB.out.2 HW.out (by (try simp only [List.length_append, len_data]); have := HB.out; omega)).mono ?_; rintro e9 y9 ⟨rfl, hw9, hq9⟩; replace HW := hid hw9; replace HZ := hid (HZ.out.ww hq9 HNE.out (by decide)); replace HQ := hid (HQ.out.trans hq9); have d0 := HZ.out.c 0 _ rfl; have d1 := HZ.out.c 1 _ rfl; have d2 := HZ.out.c 2 _ rfl; have d3 := HZ.out.c 3 _ rfl; have d4 := HZ.out.c 4 _ rfl; have d5 := HZ.out.c 5 _ rfl; have d6 := HZ.out.c 6 _ rfl; clear hw9 hq9))
  go_end0
  refine ⟨rfl, ?_, HQ.out⟩
  have := HW.out
  simpa [List.append_assoc] using this
set_option maxHeartbeats 8000000 in
theorem wtree_5 (w0 : World) (p : Nat) (n : Int) (t : ByteArray) (b : Bool) (e : Int) (rs : List Rf) (ks : List Ex) (ar ao : Option Addr) (cr cap : Nat) (hp : w0.heap.size ≤ p) (hr : Sl rf 5 w0 (.slice ar rs.length cr) rs) (hf : ∀ x ∈ rs, wfR x) : TreeC w0 p (.mk 5 n t.data.toList b e rs ks) (.agg #[.int .i64 5, .int .i64 n, .string t, .bool b, .int .i64 e, .slice ar rs.length cr, .slice ao ks.length cap]) := by
  intro L W hq0 h hL
  rw [encT_5] at hL ⊢
  simp only [List.length_append, len_data] at hL
  have HW := hid h
  have HQ0 := hid hq0
  have T0 : Hid True := hid trivial
  have HB := hid (And.intro hL trivial)
  have HP := hid hp
  have HR := hid hr
  have HF := hid hf
  have hmx : rs.length ≤ 9223372036854775807 := by
    obtain ⟨_, _, e0, h1, h2⟩ := hr.len
    cases e0
    unfold maxLen at h2
    omega
  clear hr hf
  clear h hL hq0
  go_enter Tryz.func53, Tryz.ntmps53
  go_upto_region 1 with fail
  have HZ := hid (bq_new W #[.int .i64 5, .int .i64 n, .string t, .bool b, .int .i64 e, .slice ar rs.length cr, .slice ao ks.length cap] 40)
  have HNE : Hid (W.heap.size ≠ p) := hid (by have := HW.out.lt; omega)
  have HQ : Hid (Ww p W (W.alloc (.cells #[.int .i64 5, .int .i64 n, .string t, .bool b, .int .i64 e, .slice ar rs.length cr, .slice ao ks.length cap] 40))) := hid (Ww.of ((Q.refl _).alloc _) (Nat.le_of_lt HW.out.lt))
  replace HW := hid (HW.out.on ((Q.refl W).alloc (.cells #[.int .i64 5, .int .i64 n, .string t, .bool b, .int .i64 e, .slice ar rs.length cr, .slice ao ks.length cap] 40)))
  generalize W.alloc (.cells #[.int .i64 5, .int .i64 n, .string t, .bool b, .int .i64 e, .slice ar rs.length cr, .slice ao ks.length cap] 40) = w1 at HZ HW HQ ⊢
  generalize W.heap.size = b0 at HZ HNE ⊢
  have d0 := HZ.out.c 0 _ rfl; have d1 := HZ.out.c 1 _ rfl; have d2 := HZ.out.c 2 _ rfl; have d3 := HZ.out.c 3 _ rfl; have d4 := HZ.out.c 4 _ rfl; have d5 := HZ.out.c 5 _ rfl; have d6 := HZ.out.c 6 _ rfl
  go_upto_region 3 with (go_at_call 38; refine (wcount_any p 5 _ _ (by decide) HW.out (by (try simp only [List.length_append, len_data]); have := HB.out; omega)).mono ?_; rintro e9 y9 ⟨rfl, hw9, hq9⟩; replace HW := hid hw9; replace HZ := hid (HZ.out.ww hq9 HNE.out (by decide)); replace HQ := hid (HQ.out.trans hq9); have d0 := HZ.out.c 0 _ rfl; have d1 := HZ.out.c 1 _ rfl; have d2 := HZ.out.c 2 _ rfl; have d3 := HZ.out.c 3 _ rfl; have d4 := HZ.out.c 4 _ rfl; have d5 := HZ.out.c 5 _ rfl; have d6 := HZ.out.c 6 _ rfl; clear hw9 hq9)
  go_upto_region 13 with fail
  go_wp2_with fail
  have HZ0 := HW
  have HQ9 := HQ
  clear HZ HZ0
  go_loopw [43] (fun s V => ∃ (i : Nat), i ≤ rs.length ∧ s = .int .i64 i ∧ Hid (Wr p (L ++ vn 5 ++ (rs.take i).flatMap encR) V) ∧ Hid (Ww p W V)) (fun s _ => rs.length - (intOf s).toNat)
  case atStart => exact ⟨0, Nat.zero_le _, rfl, by simpa using HW, HQ⟩
  case round =>
    obtain ⟨i, hi, rfl, hw9, hq9⟩ := hrel
    clear HW HQ HQ9
    have HW := hw9
    have HQ := hq9
    clear hw9 hq9
    have HQ1 : Hid (Q w0 wr) := hid (HQ.out.q HQ0.out HP.out)
    by_cases hlt : i < rs.length
    · have hlt' : (i : Int) < (rs.length : Int) := by omega
      obtain ⟨g, off, cap', e', _, _, hc⟩ := (HR.out.on HQ1.out).at hlt
      cases e'
      have HWF := hid (HF.out _ (List.getElem_mem hlt))
      have HRg : Hid (wr.rangeAt g (off + i * 5) (rf rs[i])) := hid (fun j u hu => hc j u hu)
      have HT : Hid ((rs.take (i + 1)).flatMap encR = (rs.take i).flatMap encR ++ encR rs[i]) := hid (by rw [List.take_succ_eq_append_getElem hlt, List.flatMap_append]; simp)
      have HLN : Hid (((rs.take i).flatMap encR).length ≤ (rs.flatMap encR).length) := hid (by
        have e9 := congrArg (fun l => (l.flatMap encR).length) (List.take_append_drop i rs)
        simp only [List.flatMap_append, List.length_append] at e9
        omega)
      clear hc
      generalize rs[i] = x at HWF HRg HT
      obtain ⟨xt, xr, xc, xa, xb⟩ := x
      obtain ⟨h1, ⟨h2, h3⟩, h4, h5⟩ := HWF.out
      obtain ⟨r, rfl⟩ : ∃ r : Nat, xr = (r : Int) := ⟨xr.toNat, by simp at h2; omega⟩
      obtain ⟨c, rfl⟩ : ∃ c : Nat, xc = (c : Int) := ⟨xc.toNat, by simp at h4; omega⟩
      have HA := hid (And.intro h1 (And.intro h3 h5))
      clear h1 h2 h3 h4 h5 HWF
      have HPS : Hid (p ≤ wr.heap.size) := hid (Nat.le_of_lt HW.out.lt)
      go_wp2_with (first
        | (with_reducible refine wpList_load_mid (by with_unfolding_all rfl) 96 _ (by with_unfolding_all rfl) g (off + i * 5) (by with_unfolding_all rfl) (rf (xt, (r : Int), (c : Int), xa, xb)) _ (by with_unfolding_all exact HRg.out) Tryz.underlying96 (by with_unfolding_all rfl) (by with_unfolding_all exact info96) ?_)
        | (with_reducible refine wpl_layq wr 96 _ _ (by with_unfolding_all rfl) (by with_unfolding_all rfl) #[.string ⟨xt.toArray⟩, .int .i64 r, .int .i64 c, .bool xa, .bool xb] #[.string ⟨#[]⟩, .int .i64 0, .int .i64 0, .bool false, .bool false] (by with_unfolding_all rfl) (by with_unfolding_all rfl) (by with_unfolding_all exact info96) (by with_unfolding_all rfl) (by kernel_rfl) (by with_unfolding_all rfl) ?_)
        | (with_reducible refine wpList_load_row (by with_unfolding_all rfl) 96 _ (by with_unfolding_all rfl) wr.heap.size (by with_unfolding_all rfl) 96 #[.string ⟨xt.toArray⟩, .int .i64 r, .int .i64 c, .bool xa, .bool xb] (0, 0) _ (heap_alloc_last wr _) Tryz.underlying96 (by with_unfolding_all rfl) (by with_unfolding_all exact info96) ?_)
        | (go_at_call 87; refine (wref_any p ⟨xt.toArray⟩ r c xa xb _ _ (by have := HA.out.1; rw [size_mk]; simpa using this) (by have := HA.out.2.1; simp at this; omega) (by have := HA.out.2.2; simp at this; omega) (HW.out.on ((Q.refl _).alloc _)) (by simp only [List.length_append]; have := HB.out.1; have := HLN.out; omega)).mono ?_; rintro e9 y9 ⟨rfl, hw9, hq9⟩; have HW2 := hid hw9; have HQ2 := hid (HQ.out.trans ((Ww.of ((Q.refl _).alloc _) HPS.out).trans hq9)); clear hw9 hq9))
      go_roundw
      case rel => exact ⟨i + 1, by omega, by go_num, hid (by rw [HT.out, ← List.append_assoc]; exact HW2.out), HQ2⟩
      case measure => simp [intOf]; omega
    · have HN : Hid ((rs.take i).flatMap encR = rs.flatMap encR) := hid (by rw [List.take_of_length_le (by omega)])
      go_wp2_with fail
      go_end0
      refine ⟨rfl, ?_, HQ.out⟩
      have := HW.out
      rw [HN.out] at this
      simpa [List.append_assoc] using this
set_option maxHeartbeats 8000000 in
theorem wtree_6 (w0 : World) (p : Nat) (n : Int) (t : ByteArray) (b : Bool) (e : Int) (rs : List Rf) (ks : List Ex) (ar ao : Option Addr) (cr cap : Nat) (hp : w0.heap.size ≤ p) (hr : Sl rf 5 w0 (.slice ar rs.length cr) rs) (hf : ∀ x ∈ rs, wfR x) : TreeC w0 p (.mk 6 n t.data.toList b e rs ks) (.agg #[.int .i64 6, .int .i64 n, .string t, .bool b, .int .i64 e, .slice ar rs.length cr, .slice ao ks.length cap]) := by
  intro L W hq0 h hL
  rw [encT_6] at hL ⊢
  simp only [List.length_append, len_data] at hL
  have HW := hid h
  have HQ0 := hid hq0
  have T0 : Hid True := hid trivial
  have HB := hid (And.intro hL trivial)
  have HP := hid hp
  have HR := hid hr
  have HF := hid hf
  have hmx : rs.length ≤ 9223372036854775807 := by
    obtain ⟨_, _, e0, h1, h2⟩ := hr.len
    cases e0
    unfold maxLen at h2
    omega
  clear hr hf
  clear h hL hq0
  go_enter Tryz.func53, Tryz.ntmps53
  go_upto_region 1 with fail
  have HZ := hid (bq_new W #[.int .i64 6, .int .i64 n, .string t, .bool b, .int .i64 e, .slice ar rs.length cr, .slice ao ks.length cap] 40)
  have HNE : Hid (W.heap.size ≠ p) := hid (by have := HW.out.lt; omega)
  have HQ : Hid (Ww p W (W.alloc (.cells #[.int .i64 6, .int .i64 n, .string t, .bool b, .int .i64 e, .slice ar rs.length cr, .slice ao ks.length cap] 40))) := hid (Ww.of ((Q.refl _).alloc _) (Nat.le_of_lt HW.out.lt))
  replace HW := hid (HW.out.on ((Q.refl W).alloc (.cells #[.int .i64 6, .int .i64 n, .string t, .bool b, .int .i64 e, .slice ar rs.length cr, .slice ao ks.length cap] 40)))
  generalize W.alloc (.cells #[.int .i64 6, .int .i64 n, .string t, .bool b, .int .i64 e, .slice ar rs.length cr, .slice ao ks.length cap] 40) = w1 at HZ HW HQ ⊢
  generalize W.heap.size = b0 at HZ HNE ⊢
  have d0 := HZ.out.c 0 _ rfl; have d1 := HZ.out.c 1 _ rfl; have d2 := HZ.out.c 2 _ rfl; have d3 := HZ.out.c 3 _ rfl; have d4 := HZ.out.c 4 _ rfl; have d5 := HZ.out.c 5 _ rfl; have d6 := HZ.out.c 6 _ rfl
  go_upto_region 3 with (go_at_call 38; refine (wcount_any p 6 _ _ (by decide) HW.out (by (try simp only [List.length_append, len_data]); have := HB.out; omega)).mono ?_; rintro e9 y9 ⟨rfl, hw9, hq9⟩; replace HW := hid hw9; replace HZ := hid (HZ.out.ww hq9 HNE.out (by decide)); replace HQ := hid (HQ.out.trans hq9); have d0 := HZ.out.c 0 _ rfl; have d1 := HZ.out.c 1 _ rfl; have d2 := HZ.out.c 2 _ rfl; have d3 := HZ.out.c 3 _ rfl; have d4 := HZ.out.c 4 _ rfl; have d5 := HZ.out.c 5 _ rfl; have d6 := HZ.out.c 6 _ rfl; clear hw9 hq9)
  go_upto_region 13 with fail
  go_wp2_with fail
  have HZ0 := HW
  have HQ9 := HQ
  clear HZ HZ0
  go_loopw [43] (fun s V => ∃ (i : Nat), i ≤ rs.length ∧ s = .int .i64 i ∧ Hid (Wr p (L ++ vn 6 ++ (rs.take i).flatMap encR) V) ∧ Hid (Ww p W V)) (fun s _ => rs.length - (intOf s).toNat)
  case atStart => exact ⟨0, Nat.zero_le _, rfl, by simpa using HW, HQ⟩
  case round =>
    obtain ⟨i, hi, rfl, hw9, hq9⟩ := hrel
    clear HW HQ HQ9
    have HW := hw9
    have HQ := hq9
    clear hw9 hq9
    have HQ1 : Hid (Q w0 wr) := hid (HQ.out.q HQ0.out HP.out)
    by_cases hlt : i < rs.length
    · have hlt' : (i : Int) < (rs.length : Int) := by omega
      obtain ⟨g, off, cap', e', _, _, hc⟩ := (HR.out.on HQ1.out).at hlt
      cases e'
      have HWF := hid (HF.out _ (List.getElem_mem hlt))
      have HRg : Hid (wr.rangeAt g (off + i * 5) (rf rs[i])) := hid (fun j u hu => hc j u hu)
      have HT : Hid ((rs.take (i + 1)).flatMap encR = (rs.take i).flatMap encR ++ encR rs[i]) := hid (by rw [List.take_succ_eq_append_getElem hlt, List.flatMap_append]; simp)
      have HLN : Hid (((rs.take i).flatMap encR).length ≤ (rs.flatMap encR).length) := hid (by
        have e9 := congrArg (fun l => (l.flatMap encR).length) (List.take_append_drop i rs)
        simp only [List.flatMap_append, List.length_append] at e9
        omega)
      clear hc
      generalize rs[i] = x at HWF HRg HT
      obtain ⟨xt, xr, xc, xa, xb⟩ := x
      obtain ⟨h1, ⟨h2, h3⟩, h4, h5⟩ := HWF.out
      obtain ⟨r, rfl⟩ : ∃ r : Nat, xr = (r : Int) := ⟨xr.toNat, by simp at h2; omega⟩
      obtain ⟨c, rfl⟩ : ∃ c : Nat, xc = (c : Int) := ⟨xc.toNat, by simp at h4; omega⟩
      have HA := hid (And.intro h1 (And.intro h3 h5))
      clear h1 h2 h3 h4 h5 HWF
      have HPS : Hid (p ≤ wr.heap.size) := hid (Nat.le_of_lt HW.out.lt)
      go_wp2_with (first
        | (with_reducible refine wpList_load_mid (by with_unfolding_all rfl) 96 _ (by with_unfolding_all rfl) g (off + i * 5) (by with_unfolding_all rfl) (rf (xt, (r : Int), (c : Int), xa, xb)) _ (by with_unfolding_all exact HRg.out) Tryz.underlying96 (by with_unfolding_all rfl) (by with_unfolding_all exact info96) ?_)
        | (with_reducible refine wpl_layq wr 96 _ _ (by with_unfolding_all rfl) (by with_unfolding_all rfl) #[.string ⟨xt.toArray⟩, .int .i64 r, .int .i64 c, .bool xa, .bool xb] #[.string ⟨#[]⟩, .int .i64 0, .int .i64 0, .bool false, .bool false] (by with_unfolding_all rfl) (by with_unfolding_all rfl) (by with_unfolding_all exact info96) (by with_unfolding_all rfl) (by kernel_rfl) (by with_unfolding_all rfl) ?_)
        | (with_reducible refine wpList_load_row (by with_unfolding_all rfl) 96 _ (by with_unfolding_all rfl) wr.heap.size (by with_unfolding_all rfl) 96 #[.string ⟨xt.toArray⟩, .int .i64 r, .int .i64 c, .bool xa, .bool xb] (0, 0) _ (heap_alloc_last wr _) Tryz.underlying96 (by with_unfolding_all rfl) (by with_unfolding_all exact info96) ?_)
        | (go_at_call 87; refine (wref_any p ⟨xt.toArray⟩ r c xa xb _ _ (by have := HA.out.1; rw [size_mk]; simpa using this) (by have := HA.out.2.1; simp at this; omega) (by have := HA.out.2.2; simp at this; omega) (HW.out.on ((Q.refl _).alloc _)) (by simp only [List.length_append]; have := HB.out.1; have := HLN.out; omega)).mono ?_; rintro e9 y9 ⟨rfl, hw9, hq9⟩; have HW2 := hid hw9; have HQ2 := hid (HQ.out.trans ((Ww.of ((Q.refl _).alloc _) HPS.out).trans hq9)); clear hw9 hq9))
      go_roundw
      case rel => exact ⟨i + 1, by omega, by go_num, hid (by rw [HT.out, ← List.append_assoc]; exact HW2.out), HQ2⟩
      case measure => simp [intOf]; omega
    · have HN : Hid ((rs.take i).flatMap encR = rs.flatMap encR) := hid (by rw [List.take_of_length_le (by omega)])
      go_wp2_with fail
      go_end0
      refine ⟨rfl, ?_, HQ.out⟩
      have := HW.out
      rw [HN.out] at this
      simpa [List.append_assoc] using this
set_option maxHeartbeats 8000000 in
theorem wtree_7 (w0 : World) (p : Nat) (n : Int) (t : ByteArray) (b : Bool) (e : Int) (rs : List Rf) (ks : List Ex) (ar ao : Option Addr) (cr cap : Nat) (hp : w0.heap.size ≤ p) (hk : TreesC w0 p ks (.slice ao ks.length cap)) : TreeC w0 p (.mk 7 n t.data.toList b e rs ks) (.agg #[.int .i64 7, .int .i64 n, .string t, .bool b, .int .i64 e, .slice ar rs.length cr, .slice ao ks.length cap]) := by
  intro L W hq0 h hL
  rw [encT_7] at hL ⊢
  simp only [List.length_append, len_data] at hL
  have HW := hid h
  have HQ0 := hid hq0
  have T0 : Hid True := hid trivial
  have HB := hid (And.intro hL trivial)
  have HK := hid hk
  have HP := hid hp
  clear hk
  clear h hL hq0
  go_enter Tryz.func53, Tryz.ntmps53
  go_upto_region 1 with fail
  have HZ := hid (bq_new W #[.int .i64 7, .int .i64 n, .string t, .bool b, .int .i64 e, .slice ar rs.length cr, .slice ao ks.length cap] 40)
  have HNE : Hid (W.heap.size ≠ p) := hid (by have := HW.out.lt; omega)
  have HQ : Hid (Ww p W (W.alloc (.cells #[.int .i64 7, .int .i64 n, .string t, .bool b, .int .i64 e, .slice ar rs.length cr, .slice ao ks.length cap] 40))) := hid (Ww.of ((Q.refl _).alloc _) (Nat.le_of_lt HW.out.lt))
  replace HW := hid (HW.out.on ((Q.refl W).alloc (.cells #[.int .i64 7, .int .i64 n, .string t, .bool b, .int .i64 e, .slice ar rs.length cr, .slice ao ks.length cap] 40)))
  generalize W.alloc (.cells #[.int .i64 7, .int .i64 n, .string t, .bool b, .int .i64 e, .slice ar rs.length cr, .slice ao ks.length cap] 40) = w1 at HZ HW HQ ⊢
  generalize W.heap.size = b0 at HZ HNE ⊢
  have d0 := HZ.out.c 0 _ rfl; have d1 := HZ.out.c 1 _ rfl; have d2 := HZ.out.c 2 _ rfl; have d3 := HZ.out.c 3 _ rfl; have d4 := HZ.out.c 4 _ rfl; have d5 := HZ.out.c 5 _ rfl; have d6 := HZ.out.c 6 _ rfl
  go_wp2_with (first
    | (go_at_call 38; refine (wcount_any p 7 _ _ (by decide) HW.out (by (try simp only [List.length_append, len_data]); have := HB.out; omega)).mono ?_; rintro e9 y9 ⟨rfl, hw9, hq9⟩; replace HW := hid hw9; replace HZ := hid (HZ.out.ww hq9 HNE.out (by decide)); replace HQ := hid (HQ.out.trans hq9); have d0 := HZ.out.c 0 _ rfl; have d1 := HZ.out.c 1 _ rfl; have d2 := HZ.out.c 2 _ rfl; have d3 := HZ.out.c 3 _ rfl; have d4 := HZ.out.c 4 _ rfl; have d5 := HZ.out.c 5 _ rfl; have d6 := HZ.out.c 6 _ rfl; clear hw9 hq9)
    | (go_at_call 88; refine (HK.out _ _ (HQ.out.q HQ0.out HP.out) HW.out (by (try simp only [List.length_append, len_data]); have := HB.out; omega)).mono ?_; rintro e9 y9 ⟨rfl, hw9, hq9⟩; replace HW := hid hw9; replace HZ := hid (HZ.out.ww hq9 HNE.out (by decide)); replace HQ := hid (HQ.out.trans hq9); have d0 := HZ.out.c 0 _ rfl; have d1 := HZ.out.c 1 _ rfl; have d2 := HZ.out.c 2 _ rfl; have d3 := HZ.out.c 3 _ rfl; have d4 := HZ.out.c 4 _ rfl; have d5 := HZ.out.c 5 _ rfl; have d6 := HZ.out.c 6 _ rfl; clear hw9 hq9))
  go_end0
  refine ⟨rfl, ?_, HQ.out⟩
  have := HW.out
  simpa [List.append_assoc] using this
set_option maxHeartbeats 8000000 in
theorem wtree_8 (w0 : World) (p : Nat) (n : Int) (t : ByteArray) (b : Bool) (e : Int) (rs : List Rf) (ks : List Ex) (ar ao : Option Addr) (cr cap : Nat) (hp : w0.heap.size ≤ p) (ht : t.size ≤ 1000000) (hk : TreesC w0 p ks (.slice ao ks.length cap)) : TreeC w0 p (.mk 8 n t.data.toList b e rs ks) (.agg #[.int .i64 8, .int .i64 n, .string t, .bool b, .int .i64 e, .slice ar rs.length cr, .slice ao ks.length cap]) := by
  intro L W hq0 h hL
  rw [encT_8] at hL ⊢
  simp only [List.length_append, len_data] at hL
  have HW := hid h
  have HQ0 := hid hq0
  have T0 : Hid True := hid trivial
  have HB := hid (And.intro hL ht)
  have HK := hid hk
  have HP := hid hp
  clear hk
  clear h hL hq0
  go_enter Tryz.func53, Tryz.ntmps53
  go_upto_region 1 with fail
  have HZ := hid (bq_new W #[.int .i64 8, .int .i64 n, .string t, .bool b, .int .i64 e, .slice ar rs.length cr, .slice ao ks.length cap] 40)
  have HNE : Hid (W.heap.size ≠ p) := hid (by have := HW.out.lt; omega)
  have HQ : Hid (Ww p W (W.alloc (.cells #[.int .i64 8, .int .i64 n, .string t, .bool b, .int .i64 e, .slice ar rs.length cr, .slice ao ks.length cap] 40))) := hid (Ww.of ((Q.refl _).alloc _) (Nat.le_of_lt HW.out.lt))
  replace HW := hid (HW.out.on ((Q.refl W).alloc (.cells #[.int .i64 8, .int .i64 n, .string t, .bool b, .int .i64 e, .slice ar rs.length cr, .slice ao ks.length cap] 40)))
  generalize W.alloc (.cells #[.int .i64 8, .int .i64 n, .string t, .bool b, .int .i64 e, .slice ar rs.length cr, .slice ao ks.length cap] 40) = w1 at HZ HW HQ ⊢
  generalize W.heap.size = b0 at HZ HNE ⊢
  have d0 := HZ.out.c 0 _ rfl; have d1 := HZ.out.c 1 _ rfl; have d2 := HZ.out.c 2 _ rfl; have d3 := HZ.out.c 3 _ rfl; have d4 := HZ.out.c 4 _ rfl; have d5 := HZ.out.c 5 _ rfl; have d6 := HZ.out.c 6 _ rfl
  go_wp2_with (first
    | (go_at_call 38; refine (wcount_any p 8 _ _ (by decide) HW.out (by (try simp only [List.length_append, len_data]); have := HB.out; omega)).mono ?_; rintro e9 y9 ⟨rfl, hw9, hq9⟩; replace HW := hid hw9; replace HZ := hid (HZ.out.ww hq9 HNE.out (by decide)); replace HQ := hid (HQ.out.trans hq9); have d0 := HZ.out.c 0 _ rfl; have d1 := HZ.out.c 1 _ rfl; have d2 := HZ.out.c 2 _ rfl; have d3 := HZ.out.c 3 _ rfl; have d4 := HZ.out.c 4 _ rfl; have d5 := HZ.out.c 5 _ rfl; have d6 := HZ.out.c 6 _ rfl; clear hw9 hq9)
    | (go_at_call 55; refine (wtext_any p t _ _ HB.out.2 HW.out (by (try simp only [List.length_append, len_data]); have := HB.out; omega)).mono ?_; rintro e9 y9 ⟨rfl, hw9, hq9⟩; replace HW := hid hw9; replace HZ := hid (HZ.out.ww hq9 HNE.out (by decide)); replace HQ := hid (HQ.out.trans hq9); have d0 := HZ.out.c 0 _ rfl; have d1 := HZ.out.c 1 _ rfl; have d2 := HZ.out.c 2 _ rfl; have d3 := HZ.out.c 3 _ rfl; have d4 := HZ.out.c 4 _ rfl; have d5 := HZ.out.c 5 _ rfl; have d6 := HZ.out.c 6 _ rfl; clear hw9 hq9)
    | (go_at_call 88; refine (HK.out _ _ (HQ.out.q HQ0.out HP.out) HW.out (by (try simp only [List.length_append, len_data]); have := HB.out; omega)).mono ?_; rintro e9 y9 ⟨rfl, hw9, hq9⟩; replace HW := hid hw9; replace HZ := hid (HZ.out.ww hq9 HNE.out (by decide)); replace HQ := hid (HQ.out.trans hq9); have d0 := HZ.out.c 0 _ rfl; have d1 := HZ.out.c 1 _ rfl; have d2 := HZ.out.c 2 _ rfl; have d3 := HZ.out.c 3 _ rfl; have d4 := HZ.out.c 4 _ rfl; have d5 := HZ.out.c 5 _ rfl; have d6 := HZ.out.c 6 _ rfl; clear hw9 hq9))
  go_end0
  refine ⟨rfl, ?_, HQ.out⟩
  have := HW.out
  simpa [List.append_assoc] using this
set_option maxHeartbeats 8000000 in
theorem wtree_9 (w0 : World) (p : Nat) (n : Int) (t : ByteArray) (b : Bool) (e : Int) (rs : List Rf) (ks : List Ex) (ar ao : Option Addr) (cr cap : Nat) (hp : w0.heap.size ≤ p) (ht : t.size ≤ 1000000) (hl : ks.length ≤ 1000000) (hk : TreesC w0 p ks (.slice ao ks.length cap)) : TreeC w0 p (.mk 9 n t.data.toList b e rs ks) (.agg #[.int .i64 9, .int .i64 n, .string t, .bool b, .int .i64 e, .slice ar rs.length cr, .slice ao ks.length cap]) := by
  intro L W hq0 h hL
  rw [encT_9] at hL ⊢
  simp only [List.length_append, len_data] at hL
  have HW := hid h
  have HQ0 := hid hq0
  have T0 : Hid True := hid trivial
  have HB := hid (And.intro hL (And.intro ht hl))
  have HK := hid hk
  have HP := hid hp
  clear hk
  clear h hL hq0
  go_enter Tryz.func53, Tryz.ntmps53
  go_upto_region 1 with fail
  have HZ := hid (bq_new W #[.int .i64 9, .int .i64 n, .string t, .bool b, .int .i64 e, .slice ar rs.length cr, .slice ao ks.length cap] 40)
  have HNE : Hid (W.heap.size ≠ p) := hid (by have := HW.out.lt; omega)
  have HQ : Hid (Ww p W (W.alloc (.cells #[.int .i64 9, .int .i64 n, .string t, .bool b, .int .i64 e, .slice ar rs.length cr, .slice ao ks.length cap] 40))) := hid (Ww.of ((Q.refl _).alloc _) (Nat.le_of_lt HW.out.lt))
  replace HW := hid (HW.out.on ((Q.refl W).alloc (.cells #[.int .i64 9, .int .i64 n, .string t, .bool b, .int .i64 e, .slice ar rs.length cr, .slice ao ks.length cap] 40)))
  generalize W.alloc (.cells #[.int .i64 9, .int .i64 n, .string t, .bool b, .int .i64 e, .slice ar rs.length cr, .slice ao ks.length cap] 40) = w1 at HZ HW HQ ⊢
  generalize W.heap.size = b0 at HZ HNE ⊢
  have d0 := HZ.out.c 0 _ rfl; have d1 := HZ.out.c 1 _ rfl; have d2 := HZ.out.c 2 _ rfl; have d3 := HZ.out.c 3 _ rfl; have d4 := HZ.out.c 4 _ rfl; have d5 := HZ.out.c 5 _ rfl; have d6 := HZ.out.c 6 _ rfl
  go_wp2_with (first
    | (go_at_call 38; clear T0; refine (wcount_any p 9 _ _ (by decide) HW.out (by (try simp only [List.length_append, len_data]); have := HB.out; omega)).mono ?_; rintro e9 y9 ⟨rfl, hw9, hq9⟩; replace HW := hid hw9; replace HZ := hid (HZ.out.ww hq9 HNE.out (by decide)); replace HQ := hid (HQ.out.trans hq9); have d0 := HZ.out.c 0 _ rfl; have d1 := HZ.out.c 1 _ rfl; have d2 := HZ.out.c 2 _ rfl; have d3 := HZ.out.c 3 _ rfl; have d4 := HZ.out.c 4 _ rfl; have d5 := HZ.out.c 5 _ rfl; have d6 := HZ.out.c 6 _ rfl; clear hw9 hq9)
    | (go_at_call 55; refine (wtext_any p t _ _ HB.out.2.1 HW.out (by (try simp only [List.length_append, len_data]); have := HB.out; omega)).mono ?_; rintro e9 y9 ⟨rfl, hw9, hq9⟩; replace HW := hid hw9; replace HZ := hid (HZ.out.ww hq9 HNE.out (by decide)); replace HQ := hid (HQ.out.trans hq9); have d0 := HZ.out.c 0 _ rfl; have d1 := HZ.out.c 1 _ rfl; have d2 := HZ.out.c 2 _ rfl; have d3 := HZ.out.c 3 _ rfl; have d4 := HZ.out.c 4 _ rfl; have d5 := HZ.out.c 5 _ rfl; have d6 := HZ.out.c 6 _ rfl; clear hw9 hq9)
    | (go_at_call 38; refine (wcount_any p ks.length _ _ (by have := HB.out.2.2; omega) HW.out (by (try simp only [List.length_append, len_data]); have := HB.out; omega)).mono ?_; rintro e9 y9 ⟨rfl, hw9, hq9⟩; replace HW := hid hw9; replace HZ := hid (HZ.out.ww hq9 HNE.out (by decide)); replace HQ := hid (HQ.out.trans hq9); have d0 := HZ.out.c 0 _ rfl; have d1 := HZ.out.c 1 _ rfl; have d2 := HZ.out.c 2 _ rfl; have d3 := HZ.out.c 3 _ rfl; have d4 := HZ.out.c 4 _ rfl; have d5 := HZ.out.c 5 _ rfl; have d6 := HZ.out.c 6 _ rfl; clear hw9 hq9)
    | (go_at_call 88; refine (HK.out _ _ (HQ.out.q HQ0.out HP.out) HW.out (by (try simp only [List.length_append, len_data]); have := HB.out; omega)).mono ?_; rintro e9 y9 ⟨rfl, hw9, hq9⟩; replace HW := hid hw9; replace HZ := hid (HZ.out.ww hq9 HNE.out (by decide)); replace HQ := hid (HQ.out.trans hq9); have d0 := HZ.out.c 0 _ rfl; have d1 := HZ.out.c 1 _ rfl; have d2 := HZ.out.c 2 _ rfl; have d3 := HZ.out.c 3 _ rfl; have d4 := HZ.out.c 4 _ rfl; have d5 := HZ.out.c 5 _ rfl; have d6 := HZ.out.c 6 _ rfl; clear hw9 hq9))
  go_end0
  refine ⟨rfl, ?_, HQ.out⟩
  have := HW.out
  simpa [List.append_assoc] using this
theorem kid_range {W : World} {x : Ex} {b off : Nat} {c0 c1 c2 c3 c4 c5 c6 : Value} (h : Kid W x b off c0 c1 c2 c3 c4 c5 c6) : W.rangeAt b off [c0, c1, c2, c3, c4, c5, c6] := fun j u hu => by
  rcases j with _ | _ | _ | _ | _ | _ | _ | j
  · cases hu; exact h.g0
  · cases hu; exact h.g1
  · cases hu; exact h.g2
  · cases hu; exact h.g3
  · cases hu; exact h.g4
  · cases hu; exact h.g5
  · cases hu; exact h.g6
  · simp at hu
set_option maxHeartbeats 8000000 in
theorem wtrees_any (w0 : World) (p : Nat) (ks : List Ex) (ao : Option Addr) (cap : Nat) (hp : w0.heap.size ≤ p) (hc : ks.length ≤ cap) (hm : cap ≤ maxLen) (hl : ks ≠ [] → ∃ b off, ao = some ⟨b, off, none⟩ ∧ Rd.RdL w0 ks b off) (hk : ∀ y ∈ ks, ∀ v, Rd w0 y v → TreeC w0 p y v) : TreesC w0 p ks (.slice ao ks.length cap) := by
  intro L W hq0 h hL
  have HW := hid h
  have HQ0 := hid hq0
  have HP := hid hp
  have HK := hid hk
  have HLs := hid hl
  have HB := hid hL
  have hmx : ks.length ≤ 9223372036854775807 := by unfold maxLen at hm; omega
  clear h hq0 hk hl hL hp hc hm
  go_enter Tryz.func88, Tryz.ntmps88
  go_wp2_with fail
  go_loopw [8] (fun s V => ∃ (i : Nat), i ≤ ks.length ∧ s = .int .i64 i ∧ Hid (Wr p (L ++ encT.encTL (ks.take i)) V) ∧ Hid (Ww p W V)) (fun s _ => ks.length - (intOf s).toNat)
  case atStart => exact ⟨0, Nat.zero_le _, rfl, by simpa [encT.encTL] using HW, hid (Ww.refl _ _)⟩
  case round =>
    obtain ⟨i, hi, rfl, hw9, hq9⟩ := hrel
    clear HW
    have HW := hw9
    have HQ := hq9
    clear hw9 hq9
    have HQ1 : Hid (Q w0 wr) := hid (HQ.out.q HQ0.out HP.out)
    by_cases hlt : i < ks.length
    · have hlt' : (i : Int) < (ks.length : Int) := by omega
      obtain ⟨b, off, rfl, hrl⟩ := HLs.out (by intro e; rw [e] at hlt; simp at hlt)
      obtain ⟨c0, c1, c2, c3, c4, c5, c6, hkid⟩ := hrl.kid i hlt
      have HT := hid (encTL_take hlt)
      have HLE := hid (encTL_le hlt)
      have HTr := hid (HK.out _ (List.getElem_mem hlt) _ hkid.rd)
      obtain ⟨k, n, t, bb, e, rs, kk, rv, kv, a1, cp1, ev, hprt⟩ := hkid.rd.prt
      cases ev
      have hkl := hprt.kl
      obtain ⟨ar, cr, hrv, _, _⟩ := hprt.rl.len
      subst hkl hrv
      have HRg := hid (fun V (q : Q w0 V) => show V.rangeAt b (off + i * 7) _ from fun j u hu => (q.cell (World.block_lt_of_cell? w0 ⟨b, off + i * 7 + j, none⟩ (kid_range hkid j u hu))).trans (kid_range hkid j u hu))
      generalize ks[i] = x at HT HLE HTr
      clear hkid hprt hrl
      have HPS : Hid (p ≤ wr.heap.size) := hid (Nat.le_of_lt HW.out.lt)
      have HCall := hid (HTr.out (L ++ encT.encTL (ks.take i)) _ (HQ1.out.alloc (.cells #[.int .i64 k, .int .i64 n, .string t, .bool bb, .int .i64 e, .slice ar rs.length cr, .slice a1 kk.length cp1] 40)) (HW.out.on ((Q.refl _).alloc _)) (by simp only [List.length_append]; have := HB.out; have := HLE.out; omega))
      go_wp2_with (first
        | (with_reducible refine wpList_load_mid (by with_unfolding_all rfl) 40 _ (by with_unfolding_all rfl) b (off + i * 7) (by with_unfolding_all rfl) [.int .i64 k, .int .i64 n, .string t, .bool bb, .int .i64 e, .slice ar rs.length cr, .slice a1 kk.length cp1] _ (by with_unfolding_all exact HRg.out _ HQ1.out) Tryz.underlying40 (by with_unfolding_all rfl) (by with_unfolding_all exact info40) ?_)
        | (with_reducible refine wpl_layq wr 40 _ _ (by with_unfolding_all rfl) (by with_unfolding_all rfl) #[.int .i64 k, .int .i64 n, .string t, .bool bb, .int .i64 e, .slice ar rs.length cr, .slice a1 kk.length cp1] #[.int .i64 0, .int .i64 0, .string ⟨#[]⟩, .bool false, .int .i64 0, .slice none 0 0, .slice none 0 0] (by with_unfolding_all rfl) (by with_unfolding_all rfl) (by with_unfolding_all exact info40) (by with_unfolding_all rfl) (by kernel_rfl) (by with_unfolding_all rfl) ?_)
        | (with_reducible refine wpList_load_row (by with_unfolding_all rfl) 40 _ (by with_unfolding_all rfl) wr.heap.size (by with_unfolding_all rfl) 40 #[.int .i64 k, .int .i64 n, .string t, .bool bb, .int .i64 e, .slice ar rs.length cr, .slice a1 kk.length cp1] (0, 0) _ (heap_alloc_last wr _) Tryz.underlying40 (by with_unfolding_all rfl) (by with_unfolding_all exact info40) ?_)
        | (go_at_call 53; refine HCall.out.mono ?_; rintro e9 y9 ⟨rfl, hw9, hq9⟩; have HW2 := hid hw9; have HQ2 := hid (HQ.out.trans ((Ww.of ((Q.refl _).alloc _) HPS.out).trans hq9)); clear hw9 hq9))
      go_roundw
      case rel => exact ⟨i + 1, by omega, by go_num, hid (by rw [HT.out, ← List.append_assoc]; exact HW2.out), HQ2⟩
      case measure => simp [intOf]; omega
    · have HN : Hid (ks.take i = ks) := hid (List.take_of_length_le (by omega))
      go_wp2_with fail
      go_end0
      refine ⟨rfl, ?_, HQ.out⟩
      have := HW.out
      rw [HN.out] at this
      exact this
def WfT : Ex → Prop
  | .mk k n t b e rs ks => (t.length ≤ 1000000 ∧ ks.length ≤ 1000000 ∧ (k = 1 ∨ k = 2 ∨ k = 3 ∨ (k = 4 ∧ 0 ≤ e ∧ e < 100) ∨ ((k = 5 ∨ k = 6) ∧ ∀ x ∈ rs, wfR x) ∨ k = 7 ∨ k = 8 ∨ k = 9)) ∧ WfTL ks
  where
  WfTL : List Ex → Prop
  | [] => True
  | x :: xs => WfT x ∧ WfTL xs
theorem wtree_all (w0 : World) (p : Nat) (hp : w0.heap.size ≤ p) : ∀ (X : Ex) (v : Value), Rd w0 X v → WfT X → TreeC w0 p X v
  | .mk k n t b e rs ks, v, hr, hw => by
    rw [WfT] at hw
    have hkids := go w0 p hp ks hw.2
    obtain ⟨k', n', t', b', e', rs', ks', rv, kv, ao, cap, hv, hprt⟩ := hr.prt
    have hx := hprt.ex
    injection hx with h1 h2 h3 h4 h5 h6 h7
    subst h1 h2 h3 h4 h5 h6 h7
    obtain ⟨⟨w1, w2, w3⟩, _⟩ := hw
    have hkl := hprt.kl
    obtain ⟨ar, cr, hrv, _, _⟩ := hprt.rl.len
    have hrl := hprt.rl
    subst hkl hrv hv
    rw [len_data] at w1
    have hk := wtrees_any w0 p ks ao cap hp hprt.le hprt.mx hprt.kd hkids
    rcases w3 with rfl | rfl | rfl | ⟨rfl, he, he'⟩ | ⟨rfl | rfl, hf⟩ | rfl | rfl | rfl
    · exact wtree_1 w0 p n t' b e rs ks ar ao cr cap hp
    · exact wtree_2 w0 p n t' b e rs ks ar ao cr cap hp w1
    · exact wtree_3 w0 p n t' b e rs ks ar ao cr cap hp
    · obtain ⟨m, rfl⟩ : ∃ m : Nat, e = (m : Int) := ⟨e.toNat, by omega⟩
      exact wtree_4 w0 p n t' b m rs ks ar ao cr cap hp (by omega)
    · exact wtree_5 w0 p n t' b e rs ks ar ao cr cap hp hrl hf
    · exact wtree_6 w0 p n t' b e rs ks ar ao cr cap hp hrl hf
    · exact wtree_7 w0 p n t' b e rs ks ar ao cr cap hp hk
    · exact wtree_8 w0 p n t' b e rs ks ar ao cr cap hp w1 hk
    · exact wtree_9 w0 p n t' b e rs ks ar ao cr cap hp w1 w2 hk
  where
  go (w0 : World) (p : Nat) (hp : w0.heap.size ≤ p) : ∀ (ks : List Ex), WfT.WfTL ks → ∀ y ∈ ks, ∀ v, Rd w0 y v → TreeC w0 p y v
  | [], _, y, hy, _, _ => absurd hy (by simp)
  | x :: xs, h, y, hy, v, hr => by
    rw [WfT.WfTL] at h
    rcases List.mem_cons.1 hy with e | hy
    · rw [e] at hr ⊢
      exact wtree_all w0 p hp x v hr h.1
    · exact go w0 p hp xs h.2 y hy v hr
def sgN (n : Int) : Nat := if 0 ≤ n then 2 * n.toNat else 2 * (-n).toNat - 1
theorem xor_zero64 (a : Nat) (h : a < 18446744073709551616) : bits .xor .u64 (a : Int) 0 = (a : Int) := by
  unfold bits
  simp [IntKind.bits, IntKind.signed]
  refine (congrArg (fun x : BitVec 64 => IntKind.u64.wrap (x.toNat : Int)) (show (BitVec.ofNat 64 a ^^^ 0#64) = BitVec.ofNat 64 a from BitVec.xor_zero)).trans ?_
  simp [IntKind.wrap, IntKind.bits, IntKind.signed]
  omega
theorem xor_ones64 (a : Nat) (h : a < 18446744073709551616) : bits .xor .u64 (a : Int) 18446744073709551615 = ((18446744073709551615 - a : Nat) : Int) := by
  unfold bits
  simp [IntKind.bits, IntKind.signed]
  refine (congrArg (fun x : BitVec 64 => IntKind.u64.wrap (x.toNat : Int)) (show (BitVec.ofNat 64 a ^^^ 18446744073709551615#64) = ~~~ (BitVec.ofNat 64 a) from BitVec.xor_allOnes)).trans ?_
  rw [BitVec.toNat_not, BitVec.toNat_ofNat]
  simp [IntKind.wrap, IntKind.bits, IntKind.signed]
  omega
set_option maxHeartbeats 2000000 in
theorem wsigned_pos (p m : Nat) (L : List UInt8) (w : World) (hm : m < 9223372036854775808) (h : Wr p L w) (hL : L.length ≤ 1000000000) :
    Calls Tryz.prog 54 #[.pointer (some ⟨p, 0, none⟩), .int .i64 m] w fun e W' => e = .returned (.tuple #[]) ∧ Wr p (L ++ vn (2 * m)) W' ∧ Ww p w W' := by
  have HN := hid (wnum_any p (2 * m) L w (by omega) h hL)
  have eW : IntKind.u64.wrap (m : Int) = (m : Int) := by simp [IntKind.wrap, IntKind.bits, IntKind.signed]; omega
  have eD : (m : Int) / 9223372036854775808 = 0 := by omega
  obtain ⟨a, ha⟩ : ∃ a : Nat, 2 * m = a := ⟨_, rfl⟩
  have eM : (m : Int) * 2 = (a : Int) := by omega
  have eX := xor_zero64 a (by omega)
  rw [ha] at HN ⊢
  clear h ha
  go_enter Tryz.func54, Tryz.ntmps54
  go_wp2_with (go_at_call 71; refine HN.out.mono ?_; rintro e9 y9 ⟨rfl, hw9, hq9⟩; have HF := hid (And.intro hw9 hq9); clear hw9 hq9)
  go_end0
  exact ⟨rfl, HF.out⟩
set_option maxHeartbeats 2000000 in
theorem wsigned_neg (p m : Nat) (L : List UInt8) (w : World) (hm : m < 9223372036854775808) (h : Wr p L w) (hL : L.length ≤ 1000000000) :
    Calls Tryz.prog 54 #[.pointer (some ⟨p, 0, none⟩), .int .i64 (-((m : Int) + 1))] w fun e W' => e = .returned (.tuple #[]) ∧ Wr p (L ++ vn (2 * m + 1)) W' ∧ Ww p w W' := by
  have HN := hid (wnum_any p (2 * m + 1) L w (by omega) h hL)
  clear h
  obtain ⟨a, ha⟩ : ∃ a : Nat, 2 * m + 1 = a := ⟨_, rfl⟩
  obtain ⟨b, hb⟩ : ∃ b : Nat, 18446744073709551616 - (m + 1) = b := ⟨_, rfl⟩
  obtain ⟨c, hc⟩ : ∃ c : Nat, 18446744073709551615 - a = c := ⟨_, rfl⟩
  generalize hn : -((m : Int) + 1) = n
  have eW : IntKind.u64.wrap n = (b : Int) := by simp [IntKind.wrap, IntKind.bits, IntKind.signed]; omega
  have eV : IntKind.u64.wrap ((b : Int) * 2) = (c : Int) := by simp [IntKind.wrap, IntKind.bits, IntKind.signed]; omega
  have eD : n / 9223372036854775808 = -1 := by omega
  have eX : bits .xor .u64 (c : Int) (IntKind.u64.wrap (-1)) = (a : Int) := by
    rw [show IntKind.u64.wrap (-1) = 18446744073709551615 from by kernel_rfl, xor_ones64 c (by omega)]
    omega
  rw [ha] at HN ⊢
  clear ha hb hc hn
  go_enter Tryz.func54, Tryz.ntmps54
  go_wp2_with (go_at_call 71; refine HN.out.mono ?_; rintro e9 y9 ⟨rfl, hw9, hq9⟩; have HF := hid (And.intro hw9 hq9); clear hw9 hq9)
  go_end0
  exact ⟨rfl, HF.out⟩
theorem wsigned_any (p : Nat) (n : Int) (L : List UInt8) (w : World) (h1 : -9223372036854775808 ≤ n) (h2 : n < 9223372036854775808) (h : Wr p L w) (hL : L.length ≤ 1000000000) :
    Calls Tryz.prog 54 #[.pointer (some ⟨p, 0, none⟩), .int .i64 n] w fun e W' => e = .returned (.tuple #[]) ∧ Wr p (L ++ vn (sgN n)) W' ∧ Ww p w W' := by
  unfold sgN
  by_cases hn : 0 ≤ n
  · obtain ⟨m, rfl⟩ : ∃ m : Nat, n = (m : Int) := ⟨n.toNat, by omega⟩
    rw [if_pos hn]
    exact wsigned_pos p m L w (by omega) h hL
  · obtain ⟨m, rfl⟩ : ∃ m : Nat, n = -((m : Int) + 1) := ⟨(-n - 1).toNat, by omega⟩
    rw [if_neg hn, show 2 * (-(-((m : Int) + 1))).toNat - 1 = 2 * m + 1 by omega]
    exact wsigned_neg p m L w (by omega) h hL
def encC (f : Bool) (vk vn9 : Int) (t : List UInt8) (b : Bool) (e : Int) (X : Ex) : List UInt8 :=
  if f then vn 5 ++ encT X else vn vk.toNat ++ (if vk = 1 then vn (sgN vn9) else if vk = 2 then vn t.length ++ t else if vk = 3 then vn (if b then 1 else 0) else if vk = 4 then vn e.toNat else [])
def CellC (w0 : World) (p : Nat) (bs : List UInt8) (v : Value) : Prop := ∀ L W, Q w0 W → Wr p L W → L.length + bs.length ≤ 900000000 → Calls Tryz.prog 29 #[.pointer (some ⟨p, 0, none⟩), v] W fun e W' => e = .returned (.tuple #[]) ∧ Wr p (L ++ bs) W' ∧ Ww p W W'
set_option maxHeartbeats 8000000 in
theorem wcell_1 (w0 : World) (p : Nat) (n : Int) (t : ByteArray) (b : Bool) (e : Int) (x6 x7 x8 x9 x10 x11 x12 : Value) (hp : w0.heap.size ≤ p) (h1 : -9223372036854775808 ≤ n) (h2 : n < 9223372036854775808) : CellC w0 p (vn 1 ++ vn (sgN n)) (.agg #[.bool false, .int .i64 1, .int .i64 n, .string t, .bool b, .int .i64 e, x6, x7, x8, x9, x10, x11, x12]) := by
  intro L W hq0 h hL
  simp only [List.length_append, len_data] at hL
  have HW := hid h
  have HQ0 := hid hq0
  have T0 : Hid True := hid trivial
  have HB := hid (And.intro hL (And.intro h1 h2))
  clear h hL hq0
  go_enter Tryz.func29, Tryz.ntmps29
  go_upto_region 1 with fail
  have HZ := hid (bq_new W #[.bool false, .int .i64 1, .int .i64 n, .string t, .bool b, .int .i64 e, x6, x7, x8, x9, x10, x11, x12] 42)
  have HNE : Hid (W.heap.size ≠ p) := hid (by have := HW.out.lt; omega)
  have HQ : Hid (Ww p W (W.alloc (.cells #[.bool false, .int .i64 1, .int .i64 n, .string t, .bool b, .int .i64 e, x6, x7, x8, x9, x10, x11, x12] 42))) := hid (Ww.of ((Q.refl _).alloc _) (Nat.le_of_lt HW.out.lt))
  replace HW := hid (HW.out.on ((Q.refl W).alloc (.cells #[.bool false, .int .i64 1, .int .i64 n, .string t, .bool b, .int .i64 e, x6, x7, x8, x9, x10, x11, x12] 42)))
  generalize W.alloc (.cells #[.bool false, .int .i64 1, .int .i64 n, .string t, .bool b, .int .i64 e, x6, x7, x8, x9, x10, x11, x12] 42) = w1 at HZ HW HQ ⊢
  generalize W.heap.size = b0 at HZ HNE ⊢
  have d0 := HZ.out.c 0 _ rfl; have d1 := HZ.out.c 1 _ rfl; have d2 := HZ.out.c 2 _ rfl; have d3 := HZ.out.c 3 _ rfl; have d4 := HZ.out.c 4 _ rfl; have d5 := HZ.out.c 5 _ rfl; have d6 := HZ.out.c 6 _ rfl; have d7 := HZ.out.c 7 _ rfl; have d8 := HZ.out.c 8 _ rfl; have d9 := HZ.out.c 9 _ rfl; have d10 := HZ.out.c 10 _ rfl; have d11 := HZ.out.c 11 _ rfl; have d12 := HZ.out.c 12 _ rfl
  go_wp2_with (first
    | (go_at_call 38; refine (wcount_any p 1 _ _ (by decide) HW.out (by (try simp only [List.length_append, len_data]); have := HB.out; omega)).mono ?_; rintro e9 y9 ⟨rfl, hw9, hq9⟩; replace HW := hid hw9; replace HZ := hid (HZ.out.ww hq9 HNE.out (by decide)); replace HQ := hid (HQ.out.trans hq9); have d0 := HZ.out.c 0 _ rfl; have d1 := HZ.out.c 1 _ rfl; have d2 := HZ.out.c 2 _ rfl; have d3 := HZ.out.c 3 _ rfl; have d4 := HZ.out.c 4 _ rfl; have d5 := HZ.out.c 5 _ rfl; have d6 := HZ.out.c 6 _ rfl; have d7 := HZ.out.c 7 _ rfl; have d8 := HZ.out.c 8 _ rfl; have d9 := HZ.out.c 9 _ rfl; have d10 := HZ.out.c 10 _ rfl; have d11 := HZ.out.c 11 _ rfl; have d12 := HZ.out.c 12 _ rfl; clear hw9 hq9)
    | (go_at_call 54; refine (wsigned_any p n _ _ HB.out.2.1 HB.out.2.2 HW.out (by (try simp only [List.length_append, len_data]); have := HB.out; omega)).mono ?_; rintro e9 y9 ⟨rfl, hw9, hq9⟩; replace HW := hid hw9; replace HZ := hid (HZ.out.ww hq9 HNE.out (by decide)); replace HQ := hid (HQ.out.trans hq9); have d0 := HZ.out.c 0 _ rfl; have d1 := HZ.out.c 1 _ rfl; have d2 := HZ.out.c 2 _ rfl; have d3 := HZ.out.c 3 _ rfl; have d4 := HZ.out.c 4 _ rfl; have d5 := HZ.out.c 5 _ rfl; have d6 := HZ.out.c 6 _ rfl; have d7 := HZ.out.c 7 _ rfl; have d8 := HZ.out.c 8 _ rfl; have d9 := HZ.out.c 9 _ rfl; have d10 := HZ.out.c 10 _ rfl; have d11 := HZ.out.c 11 _ rfl; have d12 := HZ.out.c 12 _ rfl; clear hw9 hq9))
  go_end0
  refine ⟨rfl, ?_, HQ.out⟩
  have := HW.out
  simpa [List.append_assoc] using this
set_option maxHeartbeats 8000000 in
theorem wcell_2 (w0 : World) (p : Nat) (n : Int) (t : ByteArray) (b : Bool) (e : Int) (x6 x7 x8 x9 x10 x11 x12 : Value) (hp : w0.heap.size ≤ p) (ht : t.size ≤ 1000000) : CellC w0 p (vn 2 ++ (vn t.size ++ t.data.toList)) (.agg #[.bool false, .int .i64 2, .int .i64 n, .string t, .bool b, .int .i64 e, x6, x7, x8, x9, x10, x11, x12]) := by
  intro L W hq0 h hL
  simp only [List.length_append, len_data] at hL
  have HW := hid h
  have HQ0 := hid hq0
  have T0 : Hid True := hid trivial
  have HB := hid (And.intro hL ht)
  clear h hL hq0
  go_enter Tryz.func29, Tryz.ntmps29
  go_upto_region 1 with fail
  have HZ := hid (bq_new W #[.bool false, .int .i64 2, .int .i64 n, .string t, .bool b, .int .i64 e, x6, x7, x8, x9, x10, x11, x12] 42)
  have HNE : Hid (W.heap.size ≠ p) := hid (by have := HW.out.lt; omega)
  have HQ : Hid (Ww p W (W.alloc (.cells #[.bool false, .int .i64 2, .int .i64 n, .string t, .bool b, .int .i64 e, x6, x7, x8, x9, x10, x11, x12] 42))) := hid (Ww.of ((Q.refl _).alloc _) (Nat.le_of_lt HW.out.lt))
  replace HW := hid (HW.out.on ((Q.refl W).alloc (.cells #[.bool false, .int .i64 2, .int .i64 n, .string t, .bool b, .int .i64 e, x6, x7, x8, x9, x10, x11, x12] 42)))
  generalize W.alloc (.cells #[.bool false, .int .i64 2, .int .i64 n, .string t, .bool b, .int .i64 e, x6, x7, x8, x9, x10, x11, x12] 42) = w1 at HZ HW HQ ⊢
  generalize W.heap.size = b0 at HZ HNE ⊢
  have d0 := HZ.out.c 0 _ rfl; have d1 := HZ.out.c 1 _ rfl; have d2 := HZ.out.c 2 _ rfl; have d3 := HZ.out.c 3 _ rfl; have d4 := HZ.out.c 4 _ rfl; have d5 := HZ.out.c 5 _ rfl; have d6 := HZ.out.c 6 _ rfl; have d7 := HZ.out.c 7 _ rfl; have d8 := HZ.out.c 8 _ rfl; have d9 := HZ.out.c 9 _ rfl; have d10 := HZ.out.c 10 _ rfl; have d11 := HZ.out.c 11 _ rfl; have d12 := HZ.out.c 12 _ rfl
  go_wp2_with (first
    | (go_at_call 38; refine (wcount_any p 2 _ _ (by decide) HW.out (by (try simp only [List.length_append, len_data]); have := HB.out; omega)).mono ?_; rintro e9 y9 ⟨rfl, hw9, hq9⟩; replace HW := hid hw9; replace HZ := hid (HZ.out.ww hq9 HNE.out (by decide)); replace HQ := hid (HQ.out.trans hq9); have d0 := HZ.out.c 0 _ rfl; have d1 := HZ.out.c 1 _ rfl; have d2 := HZ.out.c 2 _ rfl; have d3 := HZ.out.c 3 _ rfl; have d4 := HZ.out.c 4 _ rfl; have d5 := HZ.out.c 5 _ rfl; have d6 := HZ.out.c 6 _ rfl; have d7 := HZ.out.c 7 _ rfl; have d8 := HZ.out.c 8 _ rfl; have d9 := HZ.out.c 9 _ rfl; have d10 := HZ.out.c 10 _ rfl; have d11 := HZ.out.c 11 _ rfl; have d12 := HZ.out.c 12 _ rfl; clear hw9 hq9)
    | (go_at_call 55; refine (wtext_any p t _ _ HB.out.2 HW.out (by (try simp only [List.length_append, len_data]); have := HB.out; omega)).mono ?_; rintro e9 y9 ⟨rfl, hw9, hq9⟩; replace HW := hid hw9; replace HZ := hid (HZ.out.ww hq9 HNE.out (by decide)); replace HQ := hid (HQ.out.trans hq9); have d0 := HZ.out.c 0 _ rfl; have d1 := HZ.out.c 1 _ rfl; have d2 := HZ.out.c 2 _ rfl; have d3 := HZ.out.c 3 _ rfl; have d4 := HZ.out.c 4 _ rfl; have d5 := HZ.out.c 5 _ rfl; have d6 := HZ.out.c 6 _ rfl; have d7 := HZ.out.c 7 _ rfl; have d8 := HZ.out.c 8 _ rfl; have d9 := HZ.out.c 9 _ rfl; have d10 := HZ.out.c 10 _ rfl; have d11 := HZ.out.c 11 _ rfl; have d12 := HZ.out.c 12 _ rfl; clear hw9 hq9))
  go_end0
  refine ⟨rfl, ?_, HQ.out⟩
  have := HW.out
  simpa [List.append_assoc] using this
set_option maxHeartbeats 8000000 in
theorem wcell_3 (w0 : World) (p : Nat) (n : Int) (t : ByteArray) (b : Bool) (m : Nat) (e : Int) (x6 x7 x8 x9 x10 x11 x12 : Value) (hp : w0.heap.size ≤ p) (hm : (if b then 1 else 0) = m) : CellC w0 p (vn 3 ++ vn m) (.agg #[.bool false, .int .i64 3, .int .i64 n, .string t, .bool b, .int .i64 e, x6, x7, x8, x9, x10, x11, x12]) := by
  intro L W hq0 h hL
  simp only [List.length_append, len_data] at hL
  have HW := hid h
  have HQ0 := hid hq0
  have T0 : Hid True := hid trivial
  have HB := hid (And.intro hL trivial)
  have HTR := hid (fun L w (h : Wr p L w) (hL : L.length ≤ 1000000000) => hm ▸ wtruth_any p b L w h hL)
  clear hm
  clear h hL hq0
  go_enter Tryz.func29, Tryz.ntmps29
  go_upto_region 1 with fail
  have HZ := hid (bq_new W #[.bool false, .int .i64 3, .int .i64 n, .string t, .bool b, .int .i64 e, x6, x7, x8, x9, x10, x11, x12] 42)
  have HNE : Hid (W.heap.size ≠ p) := hid (by have := HW.out.lt; omega)
  have HQ : Hid (Ww p W (W.alloc (.cells #[.bool false, .int .i64 3, .int .i64 n, .string t, .bool b, .int .i64 e, x6, x7, x8, x9, x10, x11, x12] 42))) := hid (Ww.of ((Q.refl _).alloc _) (Nat.le_of_lt HW.out.lt))
  replace HW := hid (HW.out.on ((Q.refl W).alloc (.cells #[.bool false, .int .i64 3, .int .i64 n, .string t, .bool b, .int .i64 e, x6, x7, x8, x9, x10, x11, x12] 42)))
  generalize W.alloc (.cells #[.bool false, .int .i64 3, .int .i64 n, .string t, .bool b, .int .i64 e, x6, x7, x8, x9, x10, x11, x12] 42) = w1 at HZ HW HQ ⊢
  generalize W.heap.size = b0 at HZ HNE ⊢
  have d0 := HZ.out.c 0 _ rfl; have d1 := HZ.out.c 1 _ rfl; have d2 := HZ.out.c 2 _ rfl; have d3 := HZ.out.c 3 _ rfl; have d4 := HZ.out.c 4 _ rfl; have d5 := HZ.out.c 5 _ rfl; have d6 := HZ.out.c 6 _ rfl; have d7 := HZ.out.c 7 _ rfl; have d8 := HZ.out.c 8 _ rfl; have d9 := HZ.out.c 9 _ rfl; have d10 := HZ.out.c 10 _ rfl; have d11 := HZ.out.c 11 _ rfl; have d12 := HZ.out.c 12 _ rfl
  go_wp2_with (first
    | (go_at_call 38; refine (wcount_any p 3 _ _ (by decide) HW.out (by (try simp only [List.length_append, len_data]); have := HB.out; omega)).mono ?_; rintro e9 y9 ⟨rfl, hw9, hq9⟩; replace HW := hid hw9; replace HZ := hid (HZ.out.ww hq9 HNE.out (by decide)); replace HQ := hid (HQ.out.trans hq9); have d0 := HZ.out.c 0 _ rfl; have d1 := HZ.out.c 1 _ rfl; have d2 := HZ.out.c 2 _ rfl; have d3 := HZ.out.c 3 _ rfl; have d4 := HZ.out.c 4 _ rfl; have d5 := HZ.out.c 5 _ rfl; have d6 := HZ.out.c 6 _ rfl; have d7 := HZ.out.c 7 _ rfl; have d8 := HZ.out.c 8 _ rfl; have d9 := HZ.out.c 9 _ rfl; have d10 := HZ.out.c 10 _ rfl; have d11 := HZ.out.c 11 _ rfl; have d12 := HZ.out.c 12 _ rfl; clear hw9 hq9)
    | (go_at_call 56; refine (HTR.out _ _ HW.out (by (try simp only [List.length_append, len_data]); have := HB.out; omega)).mono ?_; rintro e9 y9 ⟨rfl, hw9, hq9⟩; replace HW := hid hw9; replace HZ := hid (HZ.out.ww hq9 HNE.out (by decide)); replace HQ := hid (HQ.out.trans hq9); have d0 := HZ.out.c 0 _ rfl; have d1 := HZ.out.c 1 _ rfl; have d2 := HZ.out.c 2 _ rfl; have d3 := HZ.out.c 3 _ rfl; have d4 := HZ.out.c 4 _ rfl; have d5 := HZ.out.c 5 _ rfl; have d6 := HZ.out.c 6 _ rfl; have d7 := HZ.out.c 7 _ rfl; have d8 := HZ.out.c 8 _ rfl; have d9 := HZ.out.c 9 _ rfl; have d10 := HZ.out.c 10 _ rfl; have d11 := HZ.out.c 11 _ rfl; have d12 := HZ.out.c 12 _ rfl; clear hw9 hq9))
  go_end0
  refine ⟨rfl, ?_, HQ.out⟩
  have := HW.out
  simpa [List.append_assoc] using this
set_option maxHeartbeats 8000000 in
theorem wcell_4 (w0 : World) (p : Nat) (n : Int) (t : ByteArray) (b : Bool) (e : Nat) (x6 x7 x8 x9 x10 x11 x12 : Value) (hp : w0.heap.size ≤ p) (he : e < 9223372036854775808) : CellC w0 p (vn 4 ++ vn e) (.agg #[.bool false, .int .i64 4, .int .i64 n, .string t, .bool b, .int .i64 e, x6, x7, x8, x9, x10, x11, x12]) := by
  intro L W hq0 h hL
  simp only [List.length_append, len_data] at hL
  have HW := hid h
  have HQ0 := hid hq0
  have T0 : Hid True := hid trivial
  have HB := hid (And.intro hL he)
  clear h hL hq0
  go_enter Tryz.func29, Tryz.ntmps29
  go_upto_region 1 with fail
  have HZ := hid (bq_new W #[.bool false, .int .i64 4, .int .i64 n, .string t, .bool b, .int .i64 e, x6, x7, x8, x9, x10, x11, x12] 42)
  have HNE : Hid (W.heap.size ≠ p) := hid (by have := HW.out.lt; omega)
  have HQ : Hid (Ww p W (W.alloc (.cells #[.bool false, .int .i64 4, .int .i64 n, .string t, .bool b, .int .i64 e, x6, x7, x8, x9, x10, x11, x12] 42))) := hid (Ww.of ((Q.refl _).alloc _) (Nat.le_of_lt HW.out.lt))
  replace HW := hid (HW.out.on ((Q.refl W).alloc (.cells #[.bool false, .int .i64 4, .int .i64 n, .string t, .bool b, .int .i64 e, x6, x7, x8, x9, x10, x11, x12] 42)))
  generalize W.alloc (.cells #[.bool false, .int .i64 4, .int .i64 n, .string t, .bool b, .int .i64 e, x6, x7, x8, x9, x10, x11, x12] 42) = w1 at HZ HW HQ ⊢
  generalize W.heap.size = b0 at HZ HNE ⊢
  have d0 := HZ.out.c 0 _ rfl; have d1 := HZ.out.c 1 _ rfl; have d2 := HZ.out.c 2 _ rfl; have d3 := HZ.out.c 3 _ rfl; have d4 := HZ.out.c 4 _ rfl; have d5 := HZ.out.c 5 _ rfl; have d6 := HZ.out.c 6 _ rfl; have d7 := HZ.out.c 7 _ rfl; have d8 := HZ.out.c 8 _ rfl; have d9 := HZ.out.c 9 _ rfl; have d10 := HZ.out.c 10 _ rfl; have d11 := HZ.out.c 11 _ rfl; have d12 := HZ.out.c 12 _ rfl
  go_wp2_with (first
    | (go_at_call 38; clear T0; refine (wcount_any p 4 _ _ (by decide) HW.out (by (try simp only [List.length_append, len_data]); have := HB.out; omega)).mono ?_; rintro e9 y9 ⟨rfl, hw9, hq9⟩; replace HW := hid hw9; replace HZ := hid (HZ.out.ww hq9 HNE.out (by decide)); replace HQ := hid (HQ.out.trans hq9); have d0 := HZ.out.c 0 _ rfl; have d1 := HZ.out.c 1 _ rfl; have d2 := HZ.out.c 2 _ rfl; have d3 := HZ.out.c 3 _ rfl; have d4 := HZ.out.c 4 _ rfl; have d5 := HZ.out.c 5 _ rfl; have d6 := HZ.out.c 6 _ rfl; have d7 := HZ.out.c 7 _ rfl; have d8 := HZ.out.c 8 _ rfl; have d9 := HZ.out.c 9 _ rfl; have d10 := HZ.out.c 10 _ rfl; have d11 := HZ.out.c 11 _ rfl; have d12 := HZ.out.c 12 _ rfl; clear hw9 hq9)
    | (go_at_call 38; refine (wcount_any p e _ _ HB.out.2 HW.out (by (try simp only [List.length_append, len_data]); have := HB.out; omega)).mono ?_; rintro e9 y9 ⟨rfl, hw9, hq9⟩; replace HW := hid hw9; replace HZ := hid (HZ.out.ww hq9 HNE.out (by decide)); replace HQ := hid (HQ.out.trans hq9); have d0 := HZ.out.c 0 _ rfl; have d1 := HZ.out.c 1 _ rfl; have d2 := HZ.out.c 2 _ rfl; have d3 := HZ.out.c 3 _ rfl; have d4 := HZ.out.c 4 _ rfl; have d5 := HZ.out.c 5 _ rfl; have d6 := HZ.out.c 6 _ rfl; have d7 := HZ.out.c 7 _ rfl; have d8 := HZ.out.c 8 _ rfl; have d9 := HZ.out.c 9 _ rfl; have d10 := HZ.out.c 10 _ rfl; have d11 := HZ.out.c 11 _ rfl; have d12 := HZ.out.c 12 _ rfl; clear hw9 hq9))
  go_end0
  refine ⟨rfl, ?_, HQ.out⟩
  have := HW.out
  simpa [List.append_assoc] using this
set_option maxHeartbeats 8000000 in
theorem wcell_f (w0 : World) (p : Nat) (x1 x2 x3 x4 x5 x6 x7 x8 x9 x10 x11 x12 : Value) (X : Ex) (hp : w0.heap.size ≤ p) (ht : TreeC w0 p X (.agg #[x6, x7, x8, x9, x10, x11, x12])) : CellC w0 p (vn 5 ++ encT X) (.agg #[.bool true, x1, x2, x3, x4, x5, x6, x7, x8, x9, x10, x11, x12]) := by
  intro L W hq0 h hL
  simp only [List.length_append, len_data] at hL
  have HW := hid h
  have HQ0 := hid hq0
  have T0 : Hid True := hid trivial
  have HB := hid (And.intro hL trivial)
  have HT := hid ht
  have HP := hid hp
  clear ht
  clear h hL hq0
  go_enter Tryz.func29, Tryz.ntmps29
  go_upto_region 1 with fail
  have HZ := hid (bq_new W #[.bool true, x1, x2, x3, x4, x5, x6, x7, x8, x9, x10, x11, x12] 42)
  have HNE : Hid (W.heap.size ≠ p) := hid (by have := HW.out.lt; omega)
  have HQ : Hid (Ww p W (W.alloc (.cells #[.bool true, x1, x2, x3, x4, x5, x6, x7, x8, x9, x10, x11, x12] 42))) := hid (Ww.of ((Q.refl _).alloc _) (Nat.le_of_lt HW.out.lt))
  replace HW := hid (HW.out.on ((Q.refl W).alloc (.cells #[.bool true, x1, x2, x3, x4, x5, x6, x7, x8, x9, x10, x11, x12] 42)))
  generalize W.alloc (.cells #[.bool true, x1, x2, x3, x4, x5, x6, x7, x8, x9, x10, x11, x12] 42) = w1 at HZ HW HQ ⊢
  generalize W.heap.size = b0 at HZ HNE ⊢
  have d0 := HZ.out.c 0 _ rfl; have d1 := HZ.out.c 1 _ rfl; have d2 := HZ.out.c 2 _ rfl; have d3 := HZ.out.c 3 _ rfl; have d4 := HZ.out.c 4 _ rfl; have d5 := HZ.out.c 5 _ rfl; have d6 := HZ.out.c 6 _ rfl; have d7 := HZ.out.c 7 _ rfl; have d8 := HZ.out.c 8 _ rfl; have d9 := HZ.out.c 9 _ rfl; have d10 := HZ.out.c 10 _ rfl; have d11 := HZ.out.c 11 _ rfl; have d12 := HZ.out.c 12 _ rfl
  go_wp2_with (first
    | (go_at_call 38; refine (wcount_any p 5 _ _ (by decide) HW.out (by (try simp only [List.length_append, len_data]); have := HB.out; omega)).mono ?_; rintro e9 y9 ⟨rfl, hw9, hq9⟩; replace HW := hid hw9; replace HZ := hid (HZ.out.ww hq9 HNE.out (by decide)); replace HQ := hid (HQ.out.trans hq9); have d0 := HZ.out.c 0 _ rfl; have d1 := HZ.out.c 1 _ rfl; have d2 := HZ.out.c 2 _ rfl; have d3 := HZ.out.c 3 _ rfl; have d4 := HZ.out.c 4 _ rfl; have d5 := HZ.out.c 5 _ rfl; have d6 := HZ.out.c 6 _ rfl; have d7 := HZ.out.c 7 _ rfl; have d8 := HZ.out.c 8 _ rfl; have d9 := HZ.out.c 9 _ rfl; have d10 := HZ.out.c 10 _ rfl; have d11 := HZ.out.c 11 _ rfl; have d12 := HZ.out.c 12 _ rfl; clear hw9 hq9)
    | (go_at_call 53; refine (HT.out _ _ (HQ.out.q HQ0.out HP.out) HW.out (by (try simp only [List.length_append, len_data]); have := HB.out; omega)).mono ?_; rintro e9 y9 ⟨rfl, hw9, hq9⟩; replace HW := hid hw9; replace HZ := hid (HZ.out.ww hq9 HNE.out (by decide)); replace HQ := hid (HQ.out.trans hq9); have d0 := HZ.out.c 0 _ rfl; have d1 := HZ.out.c 1 _ rfl; have d2 := HZ.out.c 2 _ rfl; have d3 := HZ.out.c 3 _ rfl; have d4 := HZ.out.c 4 _ rfl; have d5 := HZ.out.c 5 _ rfl; have d6 := HZ.out.c 6 _ rfl; have d7 := HZ.out.c 7 _ rfl; have d8 := HZ.out.c 8 _ rfl; have d9 := HZ.out.c 9 _ rfl; have d10 := HZ.out.c 10 _ rfl; have d11 := HZ.out.c 11 _ rfl; have d12 := HZ.out.c 12 _ rfl; clear hw9 hq9))
  refine bodyPost_ret (results_none rfl _ _ _) rfl ⟨rfl, ?_, HQ.out⟩
  have := HW.out
  simpa [List.append_assoc] using this
theorem wcell_0 (w0 : World) (p : Nat) (x2 x3 x4 x5 x6 x7 x8 x9 x10 x11 x12 : Value) (hp : w0.heap.size ≤ p) : CellC w0 p (vn 0) (.agg #[.bool false, .int .i64 0, x2, x3, x4, x5, x6, x7, x8, x9, x10, x11, x12]) := by
  intro L W hq0 h hL
  have h9 := wcell0 p L x2 x3 x4 x5 x6 x7 x8 x9 x10 x11 x12 W h (by omega)
  rw [vn_lt (m := 0) (by decide)]
  exact h9
theorem u8_inj {a b : Nat} (ha : a < 256) (hb : b < 256) (h : UInt8.ofNat a = UInt8.ofNat b) : a = b := by
  have := congrArg UInt8.toNat h
  simp at this
  omega
theorem vnF_inj : ∀ (k m n : Nat) (r s : List UInt8), m < 128 ^ k → n < 128 ^ k → vnF k m ++ r = vnF k n ++ s → m = n ∧ r = s
  | 0, m, n, r, s, hm, hn, h => by
    simp at hm hn
    subst hm hn
    exact ⟨rfl, by simpa [vnF] using h⟩
  | k + 1, m, n, r, s, hm, hn, h => by
    by_cases h1 : m < 128 <;> by_cases h2 : n < 128
    · rw [vnF_lt h1, vnF_lt h2] at h
      simp only [List.cons_append, List.nil_append, List.cons.injEq] at h
      exact ⟨u8_inj (by omega) (by omega) h.1, h.2⟩
    · rw [vnF_lt h1, vnF_ge h2] at h
      simp only [List.cons_append, List.nil_append, List.cons.injEq] at h
      have := u8_inj (by omega) (by omega) h.1
      omega
    · rw [vnF_ge h1, vnF_lt h2] at h
      simp only [List.cons_append, List.nil_append, List.cons.injEq] at h
      have := u8_inj (by omega) (by omega) h.1
      omega
    · rw [vnF_ge h1, vnF_ge h2] at h
      simp only [List.cons_append, List.cons.injEq] at h
      have e1 := u8_inj (by omega) (by omega) h.1
      have e2 := vnF_inj k (m / 128) (n / 128) r s (by rw [Nat.pow_succ] at hm; exact Nat.div_lt_of_lt_mul (by omega)) (by rw [Nat.pow_succ] at hn; exact Nat.div_lt_of_lt_mul (by omega)) h.2
      exact ⟨by omega, e2.2⟩
theorem vn_inj {m n : Nat} {r s : List UInt8} (hm : m < 18446744073709551616) (hn : n < 18446744073709551616) (h : vn m ++ r = vn n ++ s) : m = n ∧ r = s :=
  vnF_inj 10 m n r s (by omega) (by omega) h
theorem txt_inj2 {a b r s : List UInt8} (ha : a.length ≤ 2000000) (hb : b.length ≤ 2000000) (h : vn a.length ++ (a ++ r) = vn b.length ++ (b ++ s)) : a = b ∧ r = s := by
  obtain ⟨h1, h2⟩ := vn_inj (by omega) (by omega) h
  exact List.append_inj h2 h1
theorem txt_inj {a b r s : List UInt8} (ha : a.length ≤ 1000000) (hb : b.length ≤ 1000000) (h : vn a.length ++ (a ++ r) = vn b.length ++ (b ++ s)) : a = b ∧ r = s := txt_inj2 (by omega) (by omega) h
theorem held_inj {a b c d : Bool} (h : heldN a b = heldN c d) : a = c ∧ b = d := by
  revert h
  cases a <;> cases b <;> cases c <;> cases d <;> decide
theorem held_lt (a b : Bool) : heldN a b < 4 := by
  cases a <;> cases b <;> decide
theorem encR_inj {x y : Rf} {r s : List UInt8} (hx : wfR x) (hy : wfR y) (h : encR x ++ r = encR y ++ s) : x = y ∧ r = s := by
  obtain ⟨xt, xr, xc, xa, xb⟩ := x
  obtain ⟨yt, yr, yc, ya, yb⟩ := y
  obtain ⟨a1, ⟨a2, a3⟩, a4, a5⟩ := hx
  obtain ⟨b1, ⟨b2, b3⟩, b4, b5⟩ := hy
  simp only at a1 a2 a3 a4 a5 b1 b2 b3 b4 b5
  simp only [encR, List.append_assoc] at h
  obtain ⟨rfl, h2⟩ := txt_inj2 a1 b1 h
  obtain ⟨e1, h3⟩ := vn_inj (m := xr.toNat) (n := yr.toNat) (by omega) (by omega) h2
  obtain ⟨e2, h4⟩ := vn_inj (m := xc.toNat) (n := yc.toNat) (by omega) (by omega) h3
  obtain ⟨e3, rfl⟩ := vn_inj (m := heldN xa xb) (n := heldN ya yb) (by have := held_lt xa xb; omega) (by have := held_lt ya yb; omega) h4
  obtain ⟨rfl, rfl⟩ := held_inj e3
  obtain rfl : xr = yr := by omega
  obtain rfl : xc = yc := by omega
  exact ⟨rfl, rfl⟩
def okT : Ex → Prop
  | .mk k n t b e rs ks => (
    (k = 1 ∧ (0 ≤ n ∧ n < 9223372036854775808) ∧ t = [] ∧ b = false ∧ e = 0 ∧ rs = [] ∧ ks = []) ∨
    (k = 2 ∧ n = 0 ∧ t.length ≤ 1000000 ∧ b = false ∧ e = 0 ∧ rs = [] ∧ ks = []) ∨
    (k = 3 ∧ n = 0 ∧ t = [] ∧ e = 0 ∧ rs = [] ∧ ks = []) ∨
    (k = 4 ∧ n = 0 ∧ t = [] ∧ b = false ∧ (0 ≤ e ∧ e < 100) ∧ rs = [] ∧ ks = []) ∨
    (k = 5 ∧ n = 0 ∧ t = [] ∧ b = false ∧ e = 0 ∧ (∃ x, rs = [x] ∧ wfR x) ∧ ks = []) ∨
    (k = 6 ∧ n = 0 ∧ t = [] ∧ b = false ∧ e = 0 ∧ (∃ x y, rs = [x, y] ∧ wfR x ∧ wfR y) ∧ ks = []) ∨
    (k = 7 ∧ n = 0 ∧ t = [] ∧ b = false ∧ e = 0 ∧ rs = [] ∧ ks.length = 1) ∨
    (k = 8 ∧ n = 0 ∧ t.length ≤ 1000000 ∧ b = false ∧ e = 0 ∧ rs = [] ∧ ks.length = 2) ∨
    (k = 9 ∧ n = 0 ∧ t.length ≤ 1000000 ∧ b = false ∧ e = 0 ∧ rs = [] ∧ ks.length ≤ 1000000)) ∧ okTL ks
  where
  okTL : List Ex → Prop
  | [] => True
  | x :: xs => okT x ∧ okTL xs
theorem encT_kind {k n : Int} {t : List UInt8} {b : Bool} {e : Int} {rs : List Rf} {ks : List Ex} (h : okT (.mk k n t b e rs ks)) : ∃ z, encT (.mk k n t b e rs ks) = vn k.toNat ++ z ∧ 1 ≤ k ∧ k ≤ 9 := by
  rw [okT] at h
  refine ⟨_, by rw [encT], ?_⟩
  rcases h.1 with h | h | h | h | h | h | h | h | h <;> (have := h.1; omega)
theorem encT_inj : ∀ (X Y : Ex) (r s : List UInt8), okT X → okT Y → encT X ++ r = encT Y ++ s → X = Y ∧ r = s
  | .mk k n t b e rs ks, .mk k' n' t' b' e' rs' ks', r, s, hx, hy, h => by
    obtain ⟨z, hz, h1, h9⟩ := encT_kind hx
    obtain ⟨z', hz', h1', h9'⟩ := encT_kind hy
    have hk : k = k' := by
      rw [hz, hz', List.append_assoc, List.append_assoc] at h
      have := (vn_inj (by omega) (by omega) h).1
      omega
    subst hk
    clear hz hz' z z'
    rw [okT] at hx hy
    obtain ⟨hx, hxl⟩ := hx
    obtain ⟨hy, hyl⟩ := hy
    have hgo := go ks
    rcases hx with ⟨rfl, a2, rfl, rfl, rfl, rfl, rfl⟩ | ⟨rfl, rfl, a3, rfl, rfl, rfl, rfl⟩ | ⟨rfl, rfl, rfl, rfl, rfl, rfl⟩ | ⟨rfl, rfl, rfl, rfl, a5, rfl, rfl⟩ | ⟨rfl, rfl, rfl, rfl, rfl, ⟨x, rfl, a6⟩, rfl⟩ | ⟨rfl, rfl, rfl, rfl, rfl, ⟨x, x2, rfl, a6, a7⟩, rfl⟩ | ⟨rfl, rfl, rfl, rfl, rfl, rfl, a7⟩ | ⟨rfl, rfl, a3, rfl, rfl, rfl, a7⟩ | ⟨rfl, rfl, a3, rfl, rfl, rfl, a7⟩
    all_goals simp only [Int.reduceEq, false_and, true_and, false_or, or_false] at hy
    · obtain ⟨b2, rfl, rfl, rfl, rfl, rfl⟩ := hy
      simp only [encT, if_pos, List.append_assoc] at h
      obtain ⟨_, h⟩ := vn_inj (by omega) (by omega) h
      obtain ⟨e1, rfl⟩ := vn_inj (u64N_lt _) (u64N_lt _) h
      obtain ⟨m, rfl⟩ : ∃ m : Nat, n = (m : Int) := ⟨n.toNat, by omega⟩
      obtain ⟨m', rfl⟩ : ∃ m : Nat, n' = (m : Int) := ⟨n'.toNat, by omega⟩
      rw [u64N_nat (by omega), u64N_nat (by omega)] at e1
      subst e1
      exact ⟨rfl, rfl⟩
    · obtain ⟨rfl, b3, rfl, rfl, rfl, rfl⟩ := hy
      simp [encT, List.append_assoc] at h
      obtain ⟨rfl, rfl⟩ := txt_inj a3 b3 h
      exact ⟨rfl, rfl⟩
    · obtain ⟨rfl, rfl, rfl, rfl, rfl⟩ := hy
      simp [encT, List.append_assoc] at h
      obtain ⟨e1, rfl⟩ := vn_inj (by split <;> omega) (by split <;> omega) h
      have : b = b' := by
        revert e1
        cases b <;> cases b' <;> simp
      subst this
      exact ⟨rfl, rfl⟩
    · obtain ⟨rfl, rfl, rfl, b5, rfl, rfl⟩ := hy
      simp [encT, List.append_assoc] at h
      obtain ⟨e1, rfl⟩ := vn_inj (by omega) (by omega) h
      obtain rfl : e = e' := by omega
      exact ⟨rfl, rfl⟩
    · obtain ⟨rfl, rfl, rfl, rfl, ⟨y, rfl, b6⟩, rfl⟩ := hy
      simp [encT, List.append_assoc] at h
      obtain ⟨rfl, rfl⟩ := encR_inj a6 b6 h
      exact ⟨rfl, rfl⟩
    · obtain ⟨rfl, rfl, rfl, rfl, ⟨y, y2, rfl, b6, b7⟩, rfl⟩ := hy
      simp [encT, List.append_assoc] at h
      obtain ⟨e1, h2⟩ := encR_inj a6 b6 h
      obtain ⟨e2, e3⟩ := encR_inj a7 b7 h2
      exact ⟨by rw [e1, e2], e3⟩
    · obtain ⟨rfl, rfl, rfl, rfl, rfl, b7⟩ := hy
      simp [encT, List.append_assoc] at h
      obtain ⟨rfl, rfl⟩ := hgo ks' r s hxl hyl (by omega) h
      exact ⟨rfl, rfl⟩
    · obtain ⟨rfl, b3, rfl, rfl, rfl, b7⟩ := hy
      simp [encT, List.append_assoc] at h
      obtain ⟨e1, h2⟩ := txt_inj a3 b3 h
      obtain ⟨e2, e3⟩ := hgo ks' r s hxl hyl (by omega) h2
      exact ⟨by rw [e1, e2], e3⟩
    · obtain ⟨rfl, b3, rfl, rfl, rfl, b7⟩ := hy
      simp [encT, List.append_assoc] at h
      obtain ⟨e1, h2⟩ := txt_inj a3 b3 h
      obtain ⟨e2, h3⟩ := vn_inj (m := ks.length) (n := ks'.length) (by omega) (by omega) h2
      obtain ⟨e3, e4⟩ := hgo ks' r s hxl hyl e2 h3
      exact ⟨by rw [e1, e3], e4⟩
  where
  go : ∀ (ks ks' : List Ex) (r s : List UInt8), okT.okTL ks → okT.okTL ks' → ks.length = ks'.length → encT.encTL ks ++ r = encT.encTL ks' ++ s → ks = ks' ∧ r = s
  | [], [], r, s, _, _, _, h => ⟨rfl, by simpa [encT.encTL] using h⟩
  | [], y :: ys, r, s, _, _, hl, _ => by simp at hl
  | x :: xs, [], r, s, _, _, hl, _ => by simp at hl
  | x :: xs, y :: ys, r, s, hx, hy, hl, h => by
    rw [okT.okTL] at hx hy
    rw [encTL_cons, encTL_cons, List.append_assoc, List.append_assoc] at h
    obtain ⟨e1, h⟩ := encT_inj x y _ _ hx.1 hy.1 h
    obtain ⟨e2, e3⟩ := go xs ys r s hx.2 hy.2 (by simpa using hl) h
    exact ⟨by rw [e1, e2], e3⟩
theorem sgN_inj {m n : Int} (h : sgN m = sgN n) : m = n := by
  unfold sgN at h
  split at h <;> split at h <;> omega
theorem sgN_lt {n : Int} (h1 : -9223372036854775808 ≤ n) (h2 : n < 9223372036854775808) : sgN n < 18446744073709551616 := by
  unfold sgN
  split <;> omega
def okC (f : Bool) (vk n : Int) (t : List UInt8) (b : Bool) (e : Int) (X : Ex) : Prop :=
  (f = true ∧ vk = 0 ∧ n = 0 ∧ t = [] ∧ b = false ∧ e = 0 ∧ okT X) ∨
  (f = false ∧ X = zeroE ∧ (
    (vk = 0 ∧ n = 0 ∧ t = [] ∧ b = false ∧ e = 0) ∨ (vk = 1 ∧ (-9223372036854775808 ≤ n ∧ n < 9223372036854775808) ∧ t = [] ∧ b = false ∧ e = 0) ∨
    (vk = 2 ∧ n = 0 ∧ t.length ≤ 1000000 ∧ b = false ∧ e = 0) ∨ (vk = 3 ∧ n = 0 ∧ t = [] ∧ e = 0) ∨ (vk = 4 ∧ n = 0 ∧ t = [] ∧ b = false ∧ (0 ≤ e ∧ e < 100))))
theorem encC_inj {f f' : Bool} {vk vk' n n' e e' : Int} {t t' : List UInt8} {b b' : Bool} {X X' : Ex} {r s : List UInt8} (hx : okC f vk n t b e X) (hy : okC f' vk' n' t' b' e' X') (h : encC f vk n t b e X ++ r = encC f' vk' n' t' b' e' X' ++ s) :
    (f = f' ∧ vk = vk' ∧ n = n' ∧ t = t' ∧ b = b' ∧ e = e' ∧ X = X') ∧ r = s := by
  rcases hx with ⟨rfl, rfl, rfl, rfl, rfl, rfl, hx⟩ | ⟨rfl, rfl, hx⟩ <;> rcases hy with ⟨rfl, rfl, rfl, rfl, rfl, rfl, hy⟩ | ⟨rfl, rfl, hy⟩
  · simp only [encC, if_true, List.append_assoc] at h
    obtain ⟨_, h2⟩ := vn_inj (m := 5) (n := 5) (by omega) (by omega) h
    obtain ⟨rfl, rfl⟩ := encT_inj X X' r s hx hy h2
    exact ⟨⟨rfl, rfl, rfl, rfl, rfl, rfl, rfl⟩, rfl⟩
  · exfalso
    have h5 : vk'.toNat < 5 := by rcases hy with h | h | h | h | h <;> (have := h.1; omega)
    simp only [encC, if_true, Bool.false_eq_true, if_false, List.append_assoc] at h
    have := (vn_inj (m := 5) (n := vk'.toNat) (by omega) (by omega) h).1
    omega
  · exfalso
    have h5 : vk.toNat < 5 := by rcases hx with h | h | h | h | h <;> (have := h.1; omega)
    simp only [encC, if_true, Bool.false_eq_true, if_false, List.append_assoc] at h
    have := (vn_inj (m := vk.toNat) (n := 5) (by omega) (by omega) h).1
    omega
  · have h5 : 0 ≤ vk ∧ vk < 5 := by rcases hx with h | h | h | h | h <;> (have := h.1; omega)
    have h6 : 0 ≤ vk' ∧ vk' < 5 := by rcases hy with h | h | h | h | h <;> (have := h.1; omega)
    simp only [encC, Bool.false_eq_true, if_false, List.append_assoc] at h
    obtain ⟨e1, h2⟩ := vn_inj (m := vk.toNat) (n := vk'.toNat) (by omega) (by omega) h
    obtain rfl : vk = vk' := by omega
    clear e1 h
    rcases hx with ⟨rfl, rfl, rfl, rfl, rfl⟩ | ⟨rfl, hn, rfl, rfl, rfl⟩ | ⟨rfl, rfl, ht, rfl, rfl⟩ | ⟨rfl, rfl, rfl, rfl⟩ | ⟨rfl, rfl, rfl, rfl, he⟩
    all_goals simp only [Int.reduceEq, false_and, true_and, false_or, or_false] at hy
    · obtain ⟨rfl, rfl, rfl, rfl⟩ := hy
      simp at h2
      exact ⟨⟨rfl, rfl, rfl, rfl, rfl, rfl, rfl⟩, h2⟩
    · obtain ⟨hn', rfl, rfl, rfl⟩ := hy
      simp only [if_true] at h2
      obtain ⟨e1, e2⟩ := vn_inj (sgN_lt hn.1 hn.2) (sgN_lt hn'.1 hn'.2) h2
      exact ⟨⟨rfl, rfl, sgN_inj e1, rfl, rfl, rfl, rfl⟩, e2⟩
    · obtain ⟨rfl, ht', rfl, rfl⟩ := hy
      simp [List.append_assoc] at h2
      obtain ⟨e1, e2⟩ := txt_inj ht ht' h2
      exact ⟨⟨rfl, rfl, rfl, e1, rfl, rfl, rfl⟩, e2⟩
    · obtain ⟨rfl, rfl, rfl⟩ := hy
      simp [List.append_assoc] at h2
      obtain ⟨e1, e2⟩ := vn_inj (by split <;> omega) (by split <;> omega) h2
      have : b = b' := by
        revert e1
        cases b <;> cases b' <;> simp
      exact ⟨⟨rfl, rfl, rfl, rfl, this, rfl, rfl⟩, e2⟩
    · obtain ⟨rfl, rfl, rfl, he'⟩ := hy
      simp [List.append_assoc] at h2
      obtain ⟨e1, e2⟩ := vn_inj (m := e.toNat) (n := e'.toNat) (by omega) (by omega) h2
      exact ⟨⟨rfl, rfl, rfl, rfl, rfl, by omega, rfl⟩, e2⟩
set_option maxHeartbeats 2000000 in
theorem rcountq (w0 : World) (r m c : Nat) (D : List UInt8) (nd : Int) (w : World) (hq : Q w0 w) (hcm : c ≤ m) (hm : m < 9223372036854775808) (h : Rq w0 r (vn c ++ D) nd w) : Calls Tryz.prog 46 #[.pointer (some ⟨r, 0, none⟩), .int .i64 m] w fun e W' => e = .returned (.int .i64 c) ∧ Rq w0 r D nd W' ∧ Qx r w W' := by
  have HN := hid (rnumq w0 r c D nd w (by omega) hq h)
  clear h
  have eW : IntKind.u64.wrap (m : Int) = (m : Int) := by simp [IntKind.wrap, IntKind.bits, IntKind.signed]; omega
  have eC : IntKind.i64.wrap (c : Int) = (c : Int) := by simp [IntKind.wrap, IntKind.bits, IntKind.signed]; omega
  have hn : ¬ (m : Int) < (c : Int) := by omega
  go_enter Tryz.func46, Tryz.ntmps46
  go_wp2_with (go_at_call 77; refine HN.out.mono ?_; rintro e9 y9 ⟨rfl, hw9, hq9⟩; have HF := hid (And.intro hw9 hq9); clear hw9 hq9)
  go_ret
  exact ⟨rfl, HF.out⟩
set_option maxHeartbeats 2000000 in
theorem rlineq (w0 : World) (r c : Nat) (D : List UInt8) (nd : Int) (w : World) (hq : Q w0 w) (hm : c < 9223372036854775808) (h : Rq w0 r (vn c ++ D) nd w) : Calls Tryz.prog 79 #[.pointer (some ⟨r, 0, none⟩)] w fun e W' => e = .returned (.int .i64 c) ∧ Rq w0 r D nd W' ∧ Qx r w W' := by
  have HN := hid (rnumq w0 r c D nd w (by omega) hq h)
  clear h
  have eC : IntKind.i64.wrap (c : Int) = (c : Int) := by simp [IntKind.wrap, IntKind.bits, IntKind.signed]; omega
  go_enter Tryz.func79, Tryz.ntmps79
  go_wp2_with (go_at_call 77; refine HN.out.mono ?_; rintro e9 y9 ⟨rfl, hw9, hq9⟩; have HF := hid (And.intro hw9 hq9); clear hw9 hq9)
  go_ret
  exact ⟨rfl, HF.out⟩
theorem and_one64 (s : Nat) (h : s < 18446744073709551616) : bits .and .u64 (s : Int) 1 = ((s % 2 : Nat) : Int) := by
  unfold bits
  show IntKind.u64.wrap ((BitVec.ofInt 64 (s : Int) &&& BitVec.ofInt 64 ((1 : Nat) : Int)).toNat : Int) = _
  rw [BitVec.toNat_and, BitVec.ofInt_natCast, BitVec.ofInt_natCast, BitVec.toNat_ofNat, BitVec.toNat_ofNat, Nat.mod_eq_of_lt h, Nat.mod_eq_of_lt (by decide : 1 < 2 ^ 64), Nat.and_one_is_mod]
  simp only [IntKind.wrap, IntKind.bits, IntKind.signed, Bool.false_and, Bool.false_eq_true, if_false]
  omega
theorem xor_zeroI (a : Nat) (h : a < 9223372036854775808) : bits .xor .i64 (a : Int) 0 = (a : Int) := by
  unfold bits
  show IntKind.i64.wrap ((BitVec.ofInt 64 (a : Int) ^^^ BitVec.ofInt 64 ((0 : Nat) : Int)).toNat : Int) = _
  rw [BitVec.toNat_xor, BitVec.ofInt_natCast, BitVec.ofInt_natCast, BitVec.toNat_ofNat, BitVec.toNat_ofNat, Nat.mod_eq_of_lt (by omega : a < 2 ^ 64)]
  simp [IntKind.wrap, IntKind.bits, IntKind.signed]
  omega
theorem xor_onesI (a : Nat) (h : a < 9223372036854775808) : bits .xor .i64 (a : Int) (-1) = -((a : Int) + 1) := by
  unfold bits
  show IntKind.i64.wrap ((BitVec.ofInt 64 (a : Int) ^^^ BitVec.ofInt 64 (-1)).toNat : Int) = _
  rw [show BitVec.ofInt 64 (-1) = BitVec.allOnes 64 from by decide, BitVec.xor_allOnes, BitVec.toNat_not, BitVec.ofInt_natCast, BitVec.toNat_ofNat, Nat.mod_eq_of_lt (by omega : a < 2 ^ 64)]
  obtain ⟨x, hx⟩ : ∃ x : Nat, 2 ^ 64 - 1 - a = x := ⟨_, rfl⟩
  rw [hx]
  have h1 : 9223372036854775808 ≤ x ∧ x < 18446744073709551616 := by omega
  have h2 : (a : Int) = 18446744073709551615 - (x : Int) := by omega
  rw [h2]
  clear hx h2 h
  simp [IntKind.wrap, IntKind.bits, IntKind.signed]
  omega
set_option maxHeartbeats 2000000 in
theorem rsignedq (w0 : World) (r : Nat) (n : Int) (D : List UInt8) (nd : Int) (w : World) (hq : Q w0 w) (h1 : -9223372036854775808 ≤ n) (h2 : n < 9223372036854775808) (h : Rq w0 r (vn (sgN n) ++ D) nd w) : Calls Tryz.prog 61 #[.pointer (some ⟨r, 0, none⟩)] w fun e W' => e = .returned (.int .i64 n) ∧ Rq w0 r D nd W' ∧ Qx r w W' := by
  have hs : sgN n < 18446744073709551616 := by unfold sgN; split <;> omega
  have HN := hid (rnumq w0 r (sgN n) D nd w hs hq h)
  clear h
  obtain ⟨k, b, hk, hkb, hn⟩ : ∃ k b : Nat, k < 9223372036854775808 ∧ sgN n = 2 * k + b ∧ ((b = 0 ∧ n = (k : Int)) ∨ (b = 1 ∧ n = -((k : Int) + 1))) := by
    unfold sgN
    by_cases hp : 0 ≤ n
    · exact ⟨n.toNat, 0, by omega, by rw [if_pos hp]; omega, .inl ⟨rfl, by omega⟩⟩
    · exact ⟨(-n - 1).toNat, 1, by omega, by rw [if_neg hp]; omega, .inr ⟨rfl, by omega⟩⟩
  have eA := and_one64 (sgN n) hs
  have eS : ((sgN n : Nat) : Int) / 2 = (k : Int) := by omega
  have eK : IntKind.i64.wrap (k : Int) = (k : Int) := by simp [IntKind.wrap, IntKind.bits, IntKind.signed]; omega
  generalize sgN n = s at *
  have eB : s % 2 = b := by omega
  rw [eB] at eA
  clear hkb eB hs
  rcases hn with ⟨rfl, rfl⟩ | ⟨rfl, rfl⟩
  · have eX := xor_zeroI k hk
    go_enter Tryz.func61, Tryz.ntmps61
    go_wp2_with (go_at_call 77; refine HN.out.mono ?_; rintro e9 y9 ⟨rfl, hw9, hq9⟩; have HF := hid (And.intro hw9 hq9); clear hw9 hq9)
    go_ret
    exact ⟨rfl, HF.out⟩
  · have eX := xor_onesI k hk
    go_enter Tryz.func61, Tryz.ntmps61
    go_wp2_with (go_at_call 77; refine HN.out.mono ?_; rintro e9 y9 ⟨rfl, hw9, hq9⟩; have HF := hid (And.intro hw9 hq9); clear hw9 hq9)
    go_ret
    exact ⟨rfl, HF.out⟩
set_option maxHeartbeats 2000000 in
theorem rtruthq (w0 : World) (r : Nat) (b : Bool) (D : List UInt8) (nd : Int) (w : World) (hq : Q w0 w) (h : Rq w0 r (vn (if b then 1 else 0) ++ D) nd w) : Calls Tryz.prog 63 #[.pointer (some ⟨r, 0, none⟩)] w fun e W' => e = .returned (.bool b) ∧ Rq w0 r D nd W' ∧ Qx r w W' := by
  have HN : Hid (Calls Tryz.prog 46 #[.pointer (some ⟨r, 0, none⟩), .int .i64 1] w fun e W' => e = .returned (.int .i64 ((if b then 1 else 0 : Nat) : Int)) ∧ Rq w0 r D nd W' ∧ Qx r w W') := hid (rcountq w0 r 1 (if b then 1 else 0) D nd w hq (by cases b <;> decide) (by decide) h)
  clear h
  cases b
  · go_enter Tryz.func63, Tryz.ntmps63
    go_wp2_with (go_at_call 46; refine HN.out.mono ?_; rintro e9 y9 ⟨rfl, hw9, hq9⟩; have HF := hid (And.intro hw9 hq9); clear hw9 hq9)
    go_ret
    exact ⟨rfl, HF.out⟩
  · go_enter Tryz.func63, Tryz.ntmps63
    go_wp2_with (go_at_call 46; refine HN.out.mono ?_; rintro e9 y9 ⟨rfl, hw9, hq9⟩; have HF := hid (And.intro hw9 hq9); clear hw9 hq9)
    go_ret
    exact ⟨rfl, HF.out⟩
set_option maxHeartbeats 2000000 in
theorem rtextq (w0 : World) (r : Nat) (s D : List UInt8) (nd : Int) (w : World) (hq : Q w0 w) (hr0 : w0.heap.size ≤ r) (hb : s.length ≤ 200) (h : Rq w0 r (vn s.length ++ (s ++ D)) nd w) : Calls Tryz.prog 62 #[.pointer (some ⟨r, 0, none⟩)] w fun e W' => e = .returned (.string ⟨s.toArray⟩) ∧ Rq w0 r D nd W' ∧ Qx r w W' := by
  have HN : Hid (Calls Tryz.prog 46 #[.pointer (some ⟨r, 0, none⟩), .int .i64 200] w fun e W' => e = .returned (.int .i64 s.length) ∧ Rq w0 r (s ++ D) nd W' ∧ Qx r w W') := hid (rcountq w0 r 200 s.length (s ++ D) nd w hq hb (by decide) h)
  clear h
  go_enter Tryz.func62, Tryz.ntmps62
  go_upto_region 2 with (go_at_call 46; refine HN.out.mono ?_; rintro e9 w1 ⟨rfl, hw9, hq9⟩; have HR := hid hw9; have HX := hid hq9; clear hw9 hq9)
  obtain ⟨v, hbk, hs⟩ := HR.out.h
  have HQ1 : Hid (Q w0 w1) := hid (HX.out.qq hq hr0)
  obtain ⟨ao, cap, rfl, h1, h2⟩ := hs.len
  obtain ⟨a1, c1, hr1, hs1⟩ := sl_to hs s.length (by simp)
  obtain ⟨a2, c2, hr2, hs2⟩ := sl_from hs s.length (by simp)
  have hT := hr1.out
  have hF := hr2.out
  have hC := sl_conv (hs1.on HQ1.out)
  rw [List.take_left] at hC
  rw [List.drop_left] at hs2
  have c0 : w1.cell? ⟨r, 0, none⟩ = some (.slice ao (s ++ D).length cap) := by rw [Lib.cell_of_heap hbk]; rfl
  have f0 : w1.frozen? ⟨r, 0, none⟩ = false := Lib.frozen_of_heap hbk 0
  have HF := hid (Rq.put hbk hs2)
  clear hbk hs hs1 hs2 hr1 hr2 h1 h2
  have hle : ¬ ((s ++ D).length : Int) < (s.length : Int) := by simp; omega
  generalize (s ++ D).length - s.length = n2 at hF HF
  generalize (s ++ D).length = n at c0 hT hF hle
  generalize s.length = m at hT hF hC hle
  go_wp2_with fail
  go_ret
  exact ⟨rfl, HF.out.1, HX.out.trans HF.out.2⟩
end Go.Proofs.YtcgddnliiondoaaGreatDoor
namespace Go.Proofs.YtcgddnliiondoaaGreatDoor
open Go.RowKit
set_option linter.unusedVariables false
set_option linter.unusedSimpArgs false
theorem Bq.put {W : World} {q : Nat} {cs : Array Value} {t : TypeId} (h : Bq W q cs t) (j : Nat) (v : Value) : Bq (W.setCell ⟨q, j, none⟩ v) q (cs.setIfInBounds j v) t := by
  refine ⟨?_⟩
  rw [setCell_eq_setRow W q j _ _ _ v h.h, setRow_heap W q _ _ _ _ h.h]
theorem Bq.oth {W : World} {q p : Nat} {cs : Array Value} {t : TypeId} (h : Bq W q cs t) (hp : q ≠ p) (j : Nat) (v : Value) : Bq (W.setCell ⟨p, j, none⟩ v) q cs t := ⟨(heap_setCell_other W _ q v hp).trans h.h⟩
theorem Bq.row {W : World} {q : Nat} {cs : Array Value} {t : TypeId} (h : Bq W q cs t) (ds : Array Value) : Bq (W.setRow q ds) q ds t := ⟨setRow_heap W q _ _ _ _ h.h⟩
theorem Bq.orow {W : World} {q p : Nat} {cs : Array Value} {t : TypeId} (h : Bq W q cs t) (hp : q ≠ p) (ds : Array Value) : Bq (W.setRow p ds) q cs t := ⟨(setRow_other W p q ds hp).trans h.h⟩
theorem Bq.qx {r : Nat} {W W' : World} {q : Nat} {cs : Array Value} {t : TypeId} (h : Bq W q cs t) (k : Qx r W W') (hne : q ≠ r) : Bq W' q cs t := ⟨(k.block q h.l (fun e => hne (Option.some.inj e))).trans h.h⟩
theorem Rq.oth {w0 : World} {r : Nat} {D : List UInt8} {nd : Int} {W : World} (h : Rq w0 r D nd W) {p : Nat} (hp : r ≠ p) (j : Nat) (v : Value) : Rq w0 r D nd (W.setCell ⟨p, j, none⟩ v) := by
  obtain ⟨u, hb, hs⟩ := h.h
  exact ⟨u, (heap_setCell_other W _ r v hp).trans hb, hs⟩
theorem Rq.orow {w0 : World} {r : Nat} {D : List UInt8} {nd : Int} {W : World} (h : Rq w0 r D nd W) {p : Nat} (hp : r ≠ p) (ds : Array Value) : Rq w0 r D nd (W.setRow p ds) := by
  obtain ⟨u, hb, hs⟩ := h.h
  exact ⟨u, (setRow_other W p r ds hp).trans hb, hs⟩
theorem Qx.newrow {r q : Nat} {a w : World} {cs : Array Value} {t : TypeId} (h : Qx r a w) (hb : a.heap.size ≤ q) (k : Bq w q cs t) (ds : Array Value) : Qx r a (w.setRow q ds) :=
  ⟨h.os, h.tape, h.output, by simpa [World.setRow] using h.size, fun i hi hne => by
    have hiq : i ≠ q := by omega
    exact (setRow_other w q i ds hiq).trans (h.block i hi hne)⟩
structure Sr (w w0 : World) (r q q2 : Nat) (t : TypeId) (z : Array Value) (t2 : TypeId) (D : List UInt8) (nd : Int) (cs : Array Value) (W : World) : Prop where
  x : Qx r w W
  R : Rq w0 r D nd W
  c : Bq W q cs t
  z : Bq W q2 z t2
section
variable {w w0 W W' : World} {r q q2 : Nat} {t t2 : TypeId} {z cs : Array Value} {D D' : List UInt8} {nd nd' : Int}
theorem Sr.call (h : Sr w w0 r q q2 t z t2 D nd cs W) (hq : q ≠ r) (hq2 : q2 ≠ r) (hR : Rq w0 r D' nd' W') (k : Qx r W W') : Sr w w0 r q q2 t z t2 D' nd' cs W' := ⟨h.x.trans k, hR, h.c.qx k hq, h.z.qx k hq2⟩
theorem Sr.put (h : Sr w w0 r q q2 t z t2 D nd cs W) (hw : w.heap.size ≤ q) (hq : q ≠ r) (hq2 : q2 ≠ q) (j : Nat) (v : Value) : Sr w w0 r q q2 t z t2 D nd (cs.setIfInBounds j v) (W.setCell ⟨q, j, none⟩ v) :=
  ⟨h.x.new hw j v, h.R.oth (Ne.symm hq) j v, h.c.put j v, h.z.oth hq2 j v⟩
theorem Sr.start (hR : Rq w0 r D nd w) (hq0 : q2 = w.heap.size) (hq1 : q = w.heap.size + 1) : Sr w w0 r q q2 t z t2 D nd cs ((w.alloc (.cells z t2)).alloc (.cells cs t)) := by
  subst hq0 hq1
  refine ⟨(Qx.of (((Q.refl w).alloc _).alloc _)), hR.on (((Q.refl w).alloc _).alloc _), ?_, (bq_new w z t2).on ((Q.refl _).alloc _)⟩
  have h := bq_new (w.alloc (.cells z t2)) cs t
  rwa [show (w.alloc (.cells z t2)).heap.size = w.heap.size + 1 by simp] at h
theorem Sr.fin (h : Sr w w0 r q q2 t z t D nd cs W) (hw : w.heap.size ≤ q2) (hq2 : q2 ≠ r) : Bq (W.setRow q2 cs) q2 cs t ∧ Rq w0 r D nd (W.setRow q2 cs) ∧ Qx r w (W.setRow q2 cs) :=
  ⟨h.z.row cs, h.R.orow (Ne.symm hq2) cs, h.x.newrow hw h.z cs⟩
end
def z96 : Array Value := #[.string ⟨#[]⟩, .int .i64 0, .int .i64 0, .bool false, .bool false]
theorem rref_end {w w0 : World} {r q q2 : Nat} {D : List UInt8} {nd : Int} {s : ByteArray} {row col : Int} {a b : Bool} {W : World} {p : Prop}
    (h : Hid (Sr w w0 r q q2 96 z96 96 D nd #[.string s, .int .i64 row, .int .i64 col, .bool a, .bool b] W)) (hw : Hid (w.heap.size ≤ q ∧ w.heap.size ≤ q2)) (hq2 : q2 ≠ r)
    (k : ∀ C : Array Value, Hid (Bq W q C 96 ∧ Bq W q2 z96 96 ∧ (Tryz.prog.info? 96).map (·.size) = some C.size ∧ z96.size = C.size ∧ C.all (·.oneCell') = true ∧ C = #[.string s, .int .i64 row, .int .i64 col, .bool a, .bool b]) → Hid (Bq (W.setRow q2 C) q2 C 96 ∧ Rq w0 r D nd (W.setRow q2 C) ∧ Qx r w (W.setRow q2 C)) → p) : p :=
  k _ (hid ⟨h.out.c, h.out.z, info96, rfl, by kernel_rfl, rfl⟩) (hid (h.out.fin hw.out.2 hq2))
set_option maxHeartbeats 4000000 in
theorem rrefq (w0 : World) (r : Nat) (s : List UInt8) (row col : Nat) (xa xb : Bool) (D : List UInt8) (nd : Int) (w : World) (hq : Q w0 w) (hr0 : w0.heap.size ≤ r) (hs : s.length ≤ 200) (h1 : row < 9223372036854775808) (h2 : col < 9223372036854775808) (h : Rq w0 r (vn s.length ++ (s ++ (vn row ++ (vn col ++ (vn (heldN xa xb) ++ D))))) nd w) :
    Calls Tryz.prog 112 #[.pointer (some ⟨r, 0, none⟩)] w fun e W' => e = .returned (.agg #[.string ⟨s.toArray⟩, .int .i64 row, .int .i64 col, .bool xa, .bool xb]) ∧ Rq w0 r D nd W' ∧ Qx r w W' := by
  have HQ := hid hq
  have HRL : r < w.heap.size := h.lt
  have HR := hid h
  clear h hq
  go_enter Tryz.func112, Tryz.ntmps112
  go_upto_region 2 with fail
  obtain ⟨q2, e2⟩ : ∃ q2, q2 = w.heap.size := ⟨_, rfl⟩
  obtain ⟨q, e1⟩ : ∃ q, q = w.heap.size + 1 := ⟨_, rfl⟩
  have S0 : Hid (Sr w w0 r q q2 96 z96 96 _ nd z96 ((w.alloc (.cells z96 96)).alloc (.cells z96 96))) := hid (Sr.start HR.out e2 e1)
  have hq1 : q ≠ r := by omega
  have hq2 : q2 ≠ r := by omega
  have hqq : q2 ≠ q := by omega
  have hw1 : w.heap.size ≤ q := by omega
  have hw2 : w.heap.size ≤ q2 := by omega
  unfold z96 at S0
  rw [← e1, ← e2]
  have HW := hid (And.intro hw1 hw2)
  clear e1 e2 HR hw1 hw2 HRL
  generalize (w.alloc (.cells _ 96)).alloc _ = w1 at S0 ⊢
  have HT := hid (rtextq w0 r s (vn row ++ (vn col ++ (vn (heldN xa xb) ++ D))) nd w1 (S0.out.x.qq HQ.out hr0) hr0 hs S0.out.R)
  go_upto_region 3 with (go_at_call 62; refine HT.out.mono ?_; rintro e9 w2 ⟨rfl, hw9, hq9⟩; have S1 := hid (S0.out.call hq1 hq2 hw9 hq9); clear hw9 hq9; have f0 := S1.out.c.f 0; have c0 := S1.out.c.c 0 _ rfl)
  have S2 := hid (S1.out.put HW.out.1 hq1 hqq 0 (.string ⟨s.toArray⟩))
  clear HT S0 S1 f0 c0
  generalize w2.setCell ⟨q, 0, none⟩ _ = w3 at S2 ⊢
  have HT := hid (rlineq w0 r row (vn col ++ (vn (heldN xa xb) ++ D)) nd w3 (S2.out.x.qq HQ.out hr0) h1 S2.out.R)
  go_upto_region 4 with (go_at_call 79; refine HT.out.mono ?_; rintro e9 w4 ⟨rfl, hw9, hq9⟩; have S3 := hid (S2.out.call hq1 hq2 hw9 hq9); clear hw9 hq9; have f0 := S3.out.c.f 1; have c0 := S3.out.c.c 1 _ rfl)
  have S4 := hid (S3.out.put HW.out.1 hq1 hqq 1 (.int .i64 row))
  clear HT S2 S3 f0 c0
  generalize w4.setCell ⟨q, 1, none⟩ _ = w5 at S4 ⊢
  have HT := hid (rlineq w0 r col (vn (heldN xa xb) ++ D) nd w5 (S4.out.x.qq HQ.out hr0) h2 S4.out.R)
  go_upto_region 5 with (go_at_call 79; refine HT.out.mono ?_; rintro e9 w6 ⟨rfl, hw9, hq9⟩; have S5 := hid (S4.out.call hq1 hq2 hw9 hq9); clear hw9 hq9; have f0 := S5.out.c.f 2; have c0 := S5.out.c.c 2 _ rfl)
  have S6 := hid (S5.out.put HW.out.1 hq1 hqq 2 (.int .i64 col))
  clear HT S4 S5 f0 c0
  generalize w6.setCell ⟨q, 2, none⟩ _ = w7 at S6 ⊢
  have HT : Hid (Calls Tryz.prog 46 #[.pointer (some ⟨r, 0, none⟩), .int .i64 3] w7 fun e W' => e = .returned (.int .i64 (heldN xa xb)) ∧ Rq w0 r D nd W' ∧ Qx r w7 W') := hid (rcountq w0 r 3 (heldN xa xb) D nd w7 (S6.out.x.qq HQ.out hr0) (by cases xa <;> cases xb <;> decide) (by decide) S6.out.R)
  go_upto_region 6 with (go_at_call 46; refine HT.out.mono ?_; rintro e9 w8 ⟨rfl, hw9, hq9⟩; have S7 := hid (S6.out.call hq1 hq2 hw9 hq9); clear hw9 hq9)
  clear HT S6
  have f3 := S7.out.c.f 3
  have f4 := S7.out.c.f 4
  have c3 := S7.out.c.c 3 _ rfl
  have c4 := S7.out.c.c 4 _ rfl
  have S8 := hid ((S7.out.put HW.out.1 hq1 hqq 3 (.bool xa)).put HW.out.1 hq1 hqq 4 (.bool xb))
  clear S7
  have b01 : bits .and .i64 0 1 = 0 := by kernel_rfl
  have b02 : bits .and .i64 0 2 = 0 := by kernel_rfl
  have b11 : bits .and .i64 1 1 = 1 := by kernel_rfl
  have b12 : bits .and .i64 1 2 = 0 := by kernel_rfl
  have b21 : bits .and .i64 2 1 = 0 := by kernel_rfl
  have b22 : bits .and .i64 2 2 = 2 := by kernel_rfl
  have b31 : bits .and .i64 3 1 = 1 := by kernel_rfl
  have b32 : bits .and .i64 3 2 = 2 := by kernel_rfl
  have e00 : ((heldN false false : Nat) : Int) = 0 := rfl
  have e10 : ((heldN true false : Nat) : Int) = 1 := rfl
  have e01 : ((heldN false true : Nat) : Int) = 2 := rfl
  have e11 : ((heldN true true : Nat) : Int) = 3 := rfl
  cases xa <;> cases xb
  all_goals
    simp only [e00, e10, e01, e11]
    go_upto_region 8 with fail
    generalize (w8.setCell ⟨q, 3, none⟩ _).setCell ⟨q, 4, none⟩ _ = w9 at S8 ⊢
    refine rref_end S8 HW hq2 ?_
    intro C hC F
    go_wp2_with (first
      | (with_reducible refine wpList_load_row (by with_unfolding_all rfl) 96 _ (by with_unfolding_all rfl) q (by with_unfolding_all rfl) 96 C (0, 0) _ hC.out.1.h Tryz.underlying96 (by with_unfolding_all rfl) (by with_unfolding_all exact hC.out.2.2.1) ?_)
      | (with_reducible refine wpList_store_row (by with_unfolding_all rfl) 96 _ _ (by with_unfolding_all rfl) q2 C (by with_unfolding_all rfl) (by with_unfolding_all rfl) 96 z96 hC.out.2.1.h (by with_unfolding_all exact hC.out.2.2.1) (by with_unfolding_all exact hC.out.2.2.2.1) hC.out.2.2.2.2.1 ?_))
    refine bodyPost_ret (v := .agg C) (results_cell_row Tryz.results112 _ _ q2 96 C (0, 0) _ (by rfl) F.out.1.h Tryz.underlying96 rfl hC.out.2.2.1) rfl ?_
    exact ⟨by rw [hC.out.2.2.2.2.2], F.out.2⟩
end Go.Proofs.YtcgddnliiondoaaGreatDoor
