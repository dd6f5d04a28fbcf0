/- Package value and its reference: which values may be, and er. -/
import Derived.Test.YthebfhdpofhmpaaGreatDoorKc00
import Derived.Laws.AppendOwn
import Derived.Laws.AppendOwnNone
import Derived.Laws.OwnMore
import Derived.OneCell
import Derived.BigQuiet
import Derived.Deep.RegionHeld3
import Derived.Laws.StructEq
import Derived.Maps.OwnSet
import Derived.LaidEql
import Derived.Deep.AppendLies
import Derived.Shelf.Unicode.ValidAny
import Derived.Test.YthebfhdpofhmpaaGreatDoorProg
import Derived.Handy
import Derived.Lib.ItoaMem
set_option linter.unusedVariables false
set_option linter.unusedSimpArgs false
set_option maxRecDepth 100000
set_option maxHeartbeats 8000000
namespace Go.Proofs.YthebfhdpofhmpaaGreatDoor.V
open Go.RowKit
theorem vret_str {a b : List UInt8} (h : a = b) : Ending.returned (.string ⟨a.toArray⟩) = .returned (.string ⟨b.toArray⟩) := by rw [h]
theorem enL_no {e : Int} (h : e < 1 ∨ 7 < e) : [] = enL e := by
  unfold enL
  rw [if_neg (by omega), if_neg (by omega), if_neg (by omega), if_neg (by omega), if_neg (by omega), if_neg (by omega), if_neg (by omega)]
set_option maxHeartbeats 1000000 in
theorem name_any (e : Int) (w : World) (h : Nam w) : Calls Tryz.prog 69 #[.int .i64 e] w fun x w' => x = .returned (.string ⟨(enL e).toArray⟩) ∧ w' = w := by
  by_cases h0 : e < 0
  · have H := hid (enL_no (e := e) (by omega))
    go_enter Tryz.func69, Tryz.ntmps69
    go_wp2
    go_ret
    exact ⟨vret_str H.out, rfl⟩
  · by_cases h8 : 8 ≤ e
    · have H := hid (enL_no (e := e) (by omega))
      go_enter Tryz.func69, Tryz.ntmps69
      go_wp2
      go_ret
      exact ⟨vret_str H.out, rfl⟩
    · have c0 := h.2 0 (by omega)
      have c1 := h.2 1 (by omega)
      have c2 := h.2 2 (by omega)
      have c3 := h.2 3 (by omega)
      have c4 := h.2 4 (by omega)
      have c5 := h.2 5 (by omega)
      have c6 := h.2 6 (by omega)
      have c7 := h.2 7 (by omega)
      clear h
      rcases (by omega : e = 0 ∨ e = 1 ∨ e = 2 ∨ e = 3 ∨ e = 4 ∨ e = 5 ∨ e = 6 ∨ e = 7) with rfl | rfl | rfl | rfl | rfl | rfl | rfl | rfl
      all_goals
        clear h0 h8
        go_enter Tryz.func69, Tryz.ntmps69
        go_wp2
        go_ret
        exact ⟨rfl, rfl⟩
def mtB (l : List UInt8) : Bool := decide (l.length ≤ 200) && Lib.validD l
set_option maxHeartbeats 1000000 in
theorem mayText_any (s : ByteArray) (w : World) (h : Std w) (hs : (s.size : Int) ≤ 9223372036854775000) : Calls Tryz.prog 68 #[.string s] w fun x w' => x = .returned (.bool (mtB s.data.toList)) ∧ Q w w' := by
  have hl : s.data.toList.length = s.size := by simp
  by_cases h1 : (s.size : Int) ≤ 200
  · have H : Hid (Lib.validD s.data.toList = mtB s.data.toList) := by show _ = _; unfold mtB; rw [hl]; simp; omega
    have HC := hid (Tryz.utf8_ValidString s w (by omega) h.utf)
    clear hl
    go_enter Tryz.func68, Tryz.ntmps68
    go_wp2_with (go_at_call 94; refine HC.out.mono ?_; rintro e w1 ⟨rfl, q1⟩)
    go_ret
    exact ⟨vret_bool H.out, q1⟩
  · have H : Hid (false = mtB s.data.toList) := by show _ = _; unfold mtB; rw [hl]; simp; intro; omega
    clear hl
    go_enter Tryz.func68, Tryz.ntmps68
    go_wp2
    go_ret
    exact ⟨vret_bool H.out, Q.refl _⟩
end Go.Proofs.YthebfhdpofhmpaaGreatDoor.V
namespace Go.Proofs.YthebfhdpofhmpaaGreatDoor
open Go.RowKit
set_option maxHeartbeats 1000000 in
theorem owner_any (s : ByteArray) (w : World) (hw : Std w) (hs : s.size < 4294967281) :
    Calls Tryz.prog 53 #[.string s] w fun e w' => e = .returned (.int .i64 (ownK s.data.toList)) ∧ Q w w' := by
  have hl := Lib.trimPrefix_le s.data.toList [99]
  rw [len_data] at hl
  have HO : Hid (ownK s.data.toList = if Lib.hasPrefix s.data.toList [99] then ownP (Lib.cut (Lib.trimPrefix s.data.toList [99]) [110]) else -1) := rfl
  have HP : Hid (∀ W, Calls Tryz.prog 74 #[.string s, .string ⟨#[99]⟩] W fun e w' => e = .returned (.tuple #[.string ⟨(Lib.trimPrefix s.data.toList [99]).toArray⟩, .bool (Lib.hasPrefix s.data.toList [99])]) ∧ w' = W) := fun W => Tryz.strings_CutPrefix s ⟨#[99]⟩ W
  generalize Lib.trimPrefix s.data.toList [99] = t at *
  generalize Lib.hasPrefix s.data.toList [99] = ng at *
  have HC : Hid (∀ W, Q w W → Calls Tryz.prog 75 #[.string ⟨t.toArray⟩, .string ⟨#[110]⟩] W fun e w' => e = .returned (.tuple #[.string ⟨(Lib.cut t [110]).1.toArray⟩, .string ⟨(Lib.cut t [110]).2.1.toArray⟩, .bool (Lib.cut t [110]).2.2]) ∧ ∃ n, w' = W.drewN n) := by
    intro W q
    obtain ⟨m, hm⟩ := (hw.on q).len
    exact Tryz.strings_Cut ⟨t.toArray⟩ ⟨#[110]⟩ m W (by rw [size_mk]; omega) hm
  have hcl := cut_le 110 t
  generalize Lib.cut t [110] = p at *
  obtain ⟨a, b, f⟩ := p
  simp only at HC hcl
  have HA := hid (fun W => number_any ⟨a.toArray⟩ 15 15 W rfl (by omega) (by omega) (by rw [size_mk]; omega))
  have HB := hid (fun W => number_any ⟨b.toArray⟩ 999999 999999 W rfl (by omega) (by omega) (by rw [size_mk]; omega))
  simp only at HA HB
  unfold numK at HA HB
  generalize (⟨a.toArray⟩ : ByteArray) = A at *
  generalize (⟨b.toArray⟩ : ByteArray) = B at *
  generalize (⟨t.toArray⟩ : ByteArray) = T at *
  unfold ownP at HO
  simp only at HO
  generalize numF a 15 = fa at *
  generalize numF b 999999 = fb at *
  generalize ((val a : Nat) : Int) = va at *
  generalize ((val b : Nat) : Int) = vb at *
  clear hs hcl hl hw
  rcases ng with _ | _
  · go_enter Tryz.func53, Tryz.ntmps53
    go_wp2_with (first | (go_at_call 74; refine (HP.out _).mono ?_; rintro e w1 ⟨rfl, rfl⟩) | (go_at_call 75; refine (HC.out _ (Q.refl _)).mono ?_; rintro e w2 ⟨rfl, nn, rfl⟩) | (go_at_call_of 76 A; refine (HA.out _).mono ?_; rintro e w3 ⟨rfl, rfl⟩) | (go_at_call_of 76 B; refine (HB.out _).mono ?_; rintro e w4 ⟨rfl, rfl⟩))
    go_ret
    exact ⟨ret_int (by rw [HO.out]; rfl), Q.refl _⟩
  rcases f with _ | _
  · go_enter Tryz.func53, Tryz.ntmps53
    go_wp2_with (first | (go_at_call 74; refine (HP.out _).mono ?_; rintro e w1 ⟨rfl, rfl⟩) | (go_at_call 75; refine (HC.out _ (Q.refl _)).mono ?_; rintro e w2 ⟨rfl, nn, rfl⟩) | (go_at_call_of 76 A; refine (HA.out _).mono ?_; rintro e w3 ⟨rfl, rfl⟩) | (go_at_call_of 76 B; refine (HB.out _).mono ?_; rintro e w4 ⟨rfl, rfl⟩))
    go_ret
    exact ⟨ret_int (by rw [HO.out]; rfl), (Q.refl _).drewN _⟩
  rcases fa with _ | _ <;> rcases fb with _ | _
  · go_enter Tryz.func53, Tryz.ntmps53
    go_wp2_with (first | (go_at_call 74; refine (HP.out _).mono ?_; rintro e w1 ⟨rfl, rfl⟩) | (go_at_call 75; refine (HC.out _ (Q.refl _)).mono ?_; rintro e w2 ⟨rfl, nn, rfl⟩) | (go_at_call_of 76 A; refine (HA.out _).mono ?_; rintro e w3 ⟨rfl, rfl⟩) | (go_at_call_of 76 B; refine (HB.out _).mono ?_; rintro e w4 ⟨rfl, rfl⟩))
    go_ret
    exact ⟨ret_int (by rw [HO.out]; rfl), (Q.refl _).drewN _⟩
  · go_enter Tryz.func53, Tryz.ntmps53
    go_wp2_with (first | (go_at_call 74; refine (HP.out _).mono ?_; rintro e w1 ⟨rfl, rfl⟩) | (go_at_call 75; refine (HC.out _ (Q.refl _)).mono ?_; rintro e w2 ⟨rfl, nn, rfl⟩) | (go_at_call_of 76 A; refine (HA.out _).mono ?_; rintro e w3 ⟨rfl, rfl⟩) | (go_at_call_of 76 B; refine (HB.out _).mono ?_; rintro e w4 ⟨rfl, rfl⟩))
    go_ret
    exact ⟨ret_int (by rw [HO.out]; rfl), (Q.refl _).drewN _⟩
  · go_enter Tryz.func53, Tryz.ntmps53
    go_wp2_with (first | (go_at_call 74; refine (HP.out _).mono ?_; rintro e w1 ⟨rfl, rfl⟩) | (go_at_call 75; refine (HC.out _ (Q.refl _)).mono ?_; rintro e w2 ⟨rfl, nn, rfl⟩) | (go_at_call_of 76 A; refine (HA.out _).mono ?_; rintro e w3 ⟨rfl, rfl⟩) | (go_at_call_of 76 B; refine (HB.out _).mono ?_; rintro e w4 ⟨rfl, rfl⟩))
    go_ret
    exact ⟨ret_int (by rw [HO.out]; rfl), (Q.refl _).drewN _⟩
  · go_enter Tryz.func53, Tryz.ntmps53
    go_wp2_with (first | (go_at_call 74; refine (HP.out _).mono ?_; rintro e w1 ⟨rfl, rfl⟩) | (go_at_call 75; refine (HC.out _ (Q.refl _)).mono ?_; rintro e w2 ⟨rfl, nn, rfl⟩) | (go_at_call_of 76 A; refine (HA.out _).mono ?_; rintro e w3 ⟨rfl, rfl⟩) | (go_at_call_of 76 B; refine (HB.out _).mono ?_; rintro e w4 ⟨rfl, rfl⟩))
    go_ret
    exact ⟨ret_int (by rw [HO.out]; rfl), (Q.refl _).drewN _⟩
def idB (l : List UInt8) : Bool := decide (0 ≤ ownK l)
theorem id_any (s : ByteArray) (w : World) (hw : Std w) (hs : s.size < 4294967281) :
    Calls Tryz.prog 34 #[.string s] w fun e w' => e = .returned (.bool (idB s.data.toList)) ∧ Q w w' := by
  have HO := hid (owner_any s w hw hs)
  have HI : Hid (idB s.data.toList = decide (0 ≤ ownK s.data.toList)) := rfl
  generalize ownK s.data.toList = K at *
  clear hw hs
  go_enter Tryz.func34, Tryz.ntmps34
  go_wp2_with (go_at_call 53; refine HO.out.mono ?_; rintro e w1 ⟨rfl, q1⟩)
  go_ret
  exact ⟨ret_bool HI.out.symm, q1⟩
end Go.Proofs.YthebfhdpofhmpaaGreatDoor
namespace Go.Proofs.YthebfhdpofhmpaaGreatDoor
open Go.RowKit
set_option linter.unusedVariables false
set_option linter.unusedSimpArgs false
theorem Q.block {a w : World} (h : Q a w) {b : Nat} (hb : b < a.heap.size) : w.heap[b]? = a.heap[b]? := Below.block h b hb
section
variable {α : Type} (enc : α → List Value)
def flat (L : List α) : List Value := L.flatMap enc
theorem flat_nil : flat enc [] = [] := rfl
theorem flat_cons (x : α) (L : List α) : flat enc (x :: L) = enc x ++ flat enc L := by unfold flat; simp
theorem flat_append (L L' : List α) : flat enc (L ++ L') = flat enc L ++ flat enc L' := by unfold flat; simp
theorem flat_snoc (L : List α) (x : α) : flat enc (L ++ [x]) = flat enc L ++ enc x := by unfold flat; simp
theorem flat_len {k : Nat} (hk : ∀ x, (enc x).length = k) (L : List α) : (flat enc L).length = L.length * k := by
  induction L with
  | nil => simp [flat]
  | cons x L ih => rw [flat_cons, List.length_append, ih, hk, List.length_cons, Nat.succ_mul]; omega
theorem flat_at {k : Nat} (hk : ∀ x, (enc x).length = k) (L : List α) (i : Nat) (h : i < L.length) (j : Nat) (hj : j < k) : (flat enc L)[i * k + j]? = (enc L[i])[j]? := by
  induction L generalizing i with
  | nil => simp at h
  | cons x L ih =>
    rw [flat_cons]
    cases i with
    | zero =>
      rw [Nat.zero_mul, Nat.zero_add, List.getElem?_append_left (by rw [hk]; exact hj)]
      simp
    | succ i =>
      have e : (i + 1) * k + j = k + (i * k + j) := by rw [Nat.succ_mul]; omega
      rw [e, List.getElem?_append_right (by rw [hk]; omega), hk, Nat.add_sub_cancel_left, ih i (by simpa using h)]
      simp
def Ats (W : World) (b o : Nat) (x : α) : Prop := ∀ (j : Nat) (u : Value), (enc x)[j]? = some u → W.cell? ⟨b, o + j, none⟩ = some u
variable {enc}
theorem Ats.on {W W' : World} {b o : Nat} {x : α} (h : Ats enc W b o x) (q : Q W W') : Ats enc W' b o x := fun j u hu =>
  (q.cell (World.block_lt_of_cell? W ⟨b, o + j, none⟩ (h j u hu))).trans (h j u hu)
theorem Ats.blk {W W' : World} {b o : Nat} {x : α} (h : Ats enc W b o x) (q : W'.heap[b]? = W.heap[b]?) : Ats enc W' b o x := fun j u hu =>
  (World.cell?_of_block (w := W) (w' := W') (a := ⟨b, o + j, none⟩) q).trans (h j u hu)
variable (enc)
def Sl (k : Nat) (W : World) (v : Value) (L : List α) : Prop :=
  ∃ (ao : Option Addr) (cap : Nat), v = .slice ao L.length cap ∧ L.length ≤ cap ∧ cap ≤ maxLen ∧ (0 < L.length → ∃ b off, ao = some ⟨b, off, none⟩ ∧ ∀ i (h : i < L.length), Ats enc W b (off + i * k) L[i])
variable {enc}
variable {k : Nat}
theorem Sl.on {W W' : World} {v : Value} {L : List α} (h : Sl enc k W v L) (q : Q W W') : Sl enc k W' v L := by
  obtain ⟨ao, cap, hv, h1, h2, h⟩ := h
  refine ⟨ao, cap, hv, h1, h2, fun hl => ?_⟩
  obtain ⟨b, off, ha, hc⟩ := h hl
  exact ⟨b, off, ha, fun i hi => (hc i hi).on q⟩
theorem Sl.len {W : World} {v : Value} {L : List α} (h : Sl enc k W v L) : ∃ (ao : Option Addr) (cap : Nat), v = .slice ao L.length cap ∧ L.length ≤ cap ∧ cap ≤ maxLen := by
  obtain ⟨ao, cap, hv, h1, h2, _⟩ := h
  exact ⟨ao, cap, hv, h1, h2⟩
theorem Sl.at {W : World} {v : Value} {L : List α} (h : Sl enc k W v L) {i : Nat} (hi : i < L.length) : ∃ b off cap, v = .slice (some ⟨b, off, none⟩) L.length cap ∧ L.length ≤ cap ∧ cap ≤ maxLen ∧ Ats enc W b (off + i * k) L[i] := by
  obtain ⟨ao, cap, hv, h1, h2, h⟩ := h
  obtain ⟨b, off, ha, hc⟩ := h (by omega)
  subst ha
  exact ⟨b, off, cap, hv, h1, h2, hc i hi⟩
theorem sl_nil (W : World) : Sl enc k W (.slice none 0 0) [] := ⟨none, 0, rfl, Nat.le_refl _, Nat.zero_le _, fun h => absurd h (by simp)⟩
def Own (enc : α → List Value) (e : TypeId) (k B : Nat) (W : World) (v : Value) (L : List α) : Prop := W.ownsRow B e k v L.length (flat enc L)
variable {e : TypeId} {B : Nat}
theorem own_nil (W : World) : Own enc e k B W (.slice none 0 0) [] := World.ownsRow_nil _ _ _ _
theorem Own.sl {W : World} {v : Value} {L : List α} (h : Own enc e k B W v L) (hk : ∀ x, (enc x).length = k) (hp : 0 < k) : Sl enc k W v L := by
  have h0 := h
  obtain ⟨hl, h⟩ := h
  rcases h with ⟨hv, hn⟩ | ⟨g, cap, cur, hv, hb, hg, h1, h2, h3, h4⟩
  · exact ⟨none, 0, by rw [hv, hn], by omega, Nat.zero_le _, fun h => by omega⟩
  · refine ⟨some ⟨g, 0, none⟩, cap, hv, h1, h2, fun _ => ⟨g, 0, rfl, fun i hi j u hu => ?_⟩⟩
    have hj : j < k := by rw [← hk L[i]]; exact (List.getElem?_eq_some_iff.1 hu).1
    unfold Own at h0
    rw [hv] at h0
    have : i * k + j < L.length * k := Nat.lt_of_lt_of_le (Nat.add_lt_add_left hj _) (by rw [← Nat.succ_mul]; exact Nat.mul_le_mul_right _ hi)
    rw [Nat.zero_add, h0.cellAt (i * k + j) this, flat_at enc hk L i hi j hj]
    exact hu
theorem Own.alloc {W : World} {v : Value} {L : List α} (h : Own enc e k B W v L) (o : Obj) : Own enc e k B (W.alloc o) v L := World.ownsRow.alloc h o
theorem Own.on {W W' : World} {v : Value} {L : List α} (h : Own enc e k B W v L) (q : Q W W') : Own enc e k B W' v L := by
  obtain ⟨hl, h⟩ := h
  refine ⟨hl, ?_⟩
  rcases h with h | ⟨g, cap, cur, hv, hb, hg, h1, h2, h3, h4⟩
  · exact .inl h
  · have hlt : g < W.heap.size := by
      rcases Nat.lt_or_ge g W.heap.size with h' | h'
      · exact h'
      · rw [Array.getElem?_eq_none h'] at hg; cases hg
    exact .inr ⟨g, cap, cur, hv, hb, by rw [Below.block q g hlt]; exact hg, h1, h2, h3, h4⟩
theorem Own.blk {W : World} {v : Value} {L : List α} (h : Own enc e k B W v L) : ∀ j, v.ownBlock = some j → B ≤ j := by
  intro j hj
  obtain ⟨_, h⟩ := h
  rcases h with ⟨hv, _⟩ | ⟨g, cap, cur, hv, hg, _⟩
  · rw [hv] at hj; cases hj
  · rw [hv] at hj
    cases hj
    exact hg
theorem Own.lt {W : World} {v : Value} {L : List α} (h : Own enc e k B W v L) : ∀ j, v.ownBlock = some j → j < W.heap.size := by
  intro j hj
  obtain ⟨_, h⟩ := h
  rcases h with ⟨hv, _⟩ | ⟨g, cap, cur, hv, _, hg, _⟩
  · rw [hv] at hj; cases hj
  · rw [hv] at hj
    cases hj
    rcases Nat.lt_or_ge g W.heap.size with h' | h'
    · exact h'
    · rw [Array.getElem?_eq_none h'] at hg; cases hg
theorem Own.grown {W W' : World} {row : Option Nat} {v : Value} {L : List α} (h : Own enc e k B W v L) (g : W.grownBy W' row) (hr : v.ownBlock = none ∨ v.ownBlock ≠ row) : Own enc e k B W' v L := World.ownsRow.kept h g hr
theorem own_snoc {W : World} {v : Value} {L : List α} {x : α} (h : W.ownsRow B e k v (L.length + 1) (flat enc L ++ enc x)) : Own enc e k B W v (L ++ [x]) := by
  unfold Own
  rw [flat_snoc, List.length_append]
  exact h
theorem own_snoc' {W : World} {v : Value} {L : List α} {x : α} {n : Nat} (h : W.ownsRow B e k v n (flat enc L ++ enc x)) (hn : n = L.length + 1) : Own enc e k B W v (L ++ [x]) := own_snoc (hn ▸ h)
theorem news_new (W : World) (cs : List Value) (t : TypeId) : ∀ j u, cs[j]? = some u → (W.alloc (.cells cs.toArray t)).cell? ((⟨W.heap.size, 0, none⟩ : Addr).add j) = some u := by
  intro j u hu
  have hj : j < cs.length := (List.getElem?_eq_some_iff.1 hu).1
  have e : ((⟨W.heap.size, 0, none⟩ : Addr).add j) = ⟨W.heap.size, j, none⟩ := by
    unfold Addr.add
    by_cases h : j = 0
    · subst h; simp
    · simp [h]
  rw [e]
  rw [World.cell?_alloc_new]
  simpa using hu
theorem news_at (W : World) (cs : List Value) (t : TypeId) (b : Nat) (hb : b = W.heap.size) : ∀ j u, cs[j]? = some u → (W.alloc (.cells cs.toArray t)).cell? ((⟨b, 0, none⟩ : Addr).add j) = some u := by
  subst hb
  exact news_new W cs t
theorem Own.shape {W : World} {v : Value} {L : List α} (h : Own enc e k B W v L) (hl : 0 < L.length) : ∃ g cap, v = .slice (some ⟨g, 0, none⟩) L.length cap ∧ B ≤ g ∧ g < W.heap.size ∧ L.length ≤ cap ∧ cap ≤ maxLen := by
  have hlt := h.lt
  obtain ⟨_, h⟩ := h
  rcases h with ⟨hv, hn⟩ | ⟨g, cap, cur, hv, hb, hg, h1, h2, _⟩
  · omega
  · exact ⟨g, cap, hv, hb, hlt g (by rw [hv]; rfl), h1, h2⟩
theorem Own.cell {W : World} {g cap i : Nat} {L : List α} (h : Own enc e k B W (.slice (some ⟨g, 0, none⟩) L.length cap) L) (hk : ∀ x, (enc x).length = k) (hi : i < L.length) : Ats enc W g (i * k) L[i] := by
  intro j u hu
  have hj : j < k := by rw [← hk L[i]]; exact (List.getElem?_eq_some_iff.1 hu).1
  have : i * k + j < L.length * k := Nat.lt_of_lt_of_le (Nat.add_lt_add_left hj _) (by rw [← Nat.succ_mul]; exact Nat.mul_le_mul_right _ hi)
  rw [World.ownsRow.cellAt h (i * k + j) this, flat_at enc hk L i hi j hj]
  exact hu
theorem flat_set {L : List α} (hk : ∀ x, (enc x).length = k) (i : Nat) (hi : i < L.length) (j : Nat) (hj : j < k) (u : Value) (x' : α) (hx : enc x' = (enc L[i]).set j u) : (flat enc L).set (i * k + j) u = flat enc (L.set i x') := by
  induction L generalizing i with
  | nil => simp at hi
  | cons x L ih =>
    rw [flat_cons]
    cases i with
    | zero =>
      simp only [List.set_cons_zero, List.getElem_cons_zero] at *
      rw [flat_cons, hx, Nat.zero_mul, Nat.zero_add, List.set_append_left _ _ (by rw [hk]; exact hj)]
    | succ i =>
      simp only [List.set_cons_succ, List.getElem_cons_succ] at *
      have e : (i + 1) * k + j = k + (i * k + j) := by rw [Nat.succ_mul]; omega
      rw [flat_cons, e, List.set_append_right _ _ (by rw [hk]; omega), hk, Nat.add_sub_cancel_left, ih i (by simpa using hi) hx]
theorem Own.set {W : World} {g cap i : Nat} {L : List α} (h : Own enc e k B W (.slice (some ⟨g, 0, none⟩) L.length cap) L) (hk : ∀ x, (enc x).length = k) (hi : i < L.length) (j : Nat) (hj : j < k) (u : Value) (x' : α) (hx : enc x' = (enc L[i]).set j u) :
    Own enc e k B (W.setCell ⟨g, i * k + j, none⟩ u) (.slice (some ⟨g, 0, none⟩) L.length cap) (L.set i x') := by
  have h1 := (World.ownsRow.stored h (i * k + j) u).1
  rw [flat_set hk i hi j hj u x' hx] at h1
  unfold Own
  rw [List.length_set]
  exact h1
end
def Inf (e : TypeId) (z : Value) (k by' : Nat) (i : TypeInfo) : Prop := Tryz.prog.info? e = some i ∧ i.zero = some z ∧ i.size = k ∧ i.bytes = by'
theorem inf_of {e : TypeId} {z : Value} {k b : Nat} (h : (Tryz.prog.info? e).map (fun i => (i.zero, i.size, i.bytes)) = some (some z, k, b)) : ∃ i, Inf e z k b i := by
  obtain ⟨i, hi, hz⟩ := Option.map_eq_some_iff.1 h
  simp only [Prod.mk.injEq] at hz
  exact ⟨i, hi, hz.1, hz.2.1, hz.2.2⟩
end Go.Proofs.YthebfhdpofhmpaaGreatDoor
namespace Go.Proofs.YthebfhdpofhmpaaGreatDoor
open Go.RowKit
def rf (x : Rf) : List Value := [.string ⟨x.1.toArray⟩, .int .i64 x.2.1, .int .i64 x.2.2.1, .bool x.2.2.2.1, .bool x.2.2.2.2]
theorem rf_len (x : Rf) : (rf x).length = 5 := rfl
def Pl (W : World) (b : Nat) : Prop := ∃ c t, W.heap[b]? = some (.cells c t (0, 0))
theorem Pl.lt {W : World} {b : Nat} (h : Pl W b) : b < W.heap.size := by
  obtain ⟨c, t, h⟩ := h
  rcases Nat.lt_or_ge b W.heap.size with h' | h'
  · exact h'
  · rw [Array.getElem?_eq_none h'] at h; cases h
theorem Pl.on {W W' : World} {b : Nat} (h : Pl W b) (q : Q W W') : Pl W' b := by
  have hb := h.lt
  obtain ⟨c, t, h⟩ := h
  exact ⟨c, t, (Q.block q hb).trans h⟩
theorem pl_new (W : World) (c : Array Value) (t : TypeId) : Pl (W.alloc (.cells c t)) W.heap.size := ⟨c, t, by show (W.heap.push _)[W.heap.size]? = _; simp⟩
def Rd (W : World) : Ex → Value → Prop
  | .mk k n t b e rs ks, v => ∃ rv kv, v = .agg #[.int .i64 k, .int .i64 n, .string ⟨t.toArray⟩, .bool b, .int .i64 e, rv, kv] ∧ Sl rf 5 W rv rs ∧
      ∃ (ao : Option Addr) (cap : Nat), kv = .slice ao ks.length cap ∧ ks.length ≤ cap ∧ cap ≤ maxLen ∧ (ks ≠ [] → ∃ b' off, ao = some ⟨b', off, none⟩ ∧ Pl W b' ∧ RdL W ks b' off)
  where
  RdL (W : World) : List Ex → Nat → Nat → Prop
  | [], _, _ => True
  | x :: xs, b, off => (∃ c0 c1 c2 c3 c4 c5 c6, W.cell? ⟨b, off, none⟩ = some c0 ∧ W.cell? ⟨b, off + 1, none⟩ = some c1 ∧ W.cell? ⟨b, off + 2, none⟩ = some c2 ∧ W.cell? ⟨b, off + 3, none⟩ = some c3 ∧ W.cell? ⟨b, off + 4, none⟩ = some c4 ∧ W.cell? ⟨b, off + 5, none⟩ = some c5 ∧ W.cell? ⟨b, off + 6, none⟩ = some c6 ∧ Rd W x (.agg #[c0, c1, c2, c3, c4, c5, c6])) ∧ RdL W xs b (off + 7)
theorem Rd.on {W W' : World} (q : Q W W') : ∀ (x : Ex) (v : Value), Rd W x v → Rd W' x v
  | .mk k n t b e rs ks, v, h => by
    unfold Rd at h ⊢
    obtain ⟨rv, kv, hv, hr, ao, cap, hk, h1, h2, h3⟩ := h
    refine ⟨rv, kv, hv, hr.on q, ao, cap, hk, h1, h2, fun hn => ?_⟩
    obtain ⟨b', off, ha, hp, hl⟩ := h3 hn
    exact ⟨b', off, ha, hp.on q, go q ks b' off hl⟩
  where
  go {W W' : World} (q : Q W W') : ∀ (l : List Ex) (b off : Nat), Rd.RdL W l b off → Rd.RdL W' l b off
  | [], _, _, _ => by unfold Rd.RdL; trivial
  | x :: xs, b, off, h => by
    unfold Rd.RdL at h ⊢
    obtain ⟨⟨c0, c1, c2, c3, c4, c5, c6, g0, g1, g2, g3, g4, g5, g6, hx⟩, hr⟩ := h
    have ce : ∀ {o : Nat} {c : Value}, W.cell? ⟨b, o, none⟩ = some c → W'.cell? ⟨b, o, none⟩ = some c := fun h => (q.cell (World.block_lt_of_cell? W ⟨b, _, none⟩ h)).trans h
    exact ⟨⟨c0, c1, c2, c3, c4, c5, c6, ce g0, ce g1, ce g2, ce g3, ce g4, ce g5, ce g6, Rd.on q x _ hx⟩, go q xs b (off + 7) hr⟩
theorem Rd.RdL.on {W W' : World} (q : Q W W') : ∀ (l : List Ex) (b off : Nat), Rd.RdL W l b off → Rd.RdL W' l b off := Rd.on.go q
structure Kid (W : World) (x : Ex) (b off : Nat) (c0 c1 c2 c3 c4 c5 c6 : Value) : Prop where
  g0 : W.cell? ⟨b, off, none⟩ = some c0
  g1 : W.cell? ⟨b, off + 1, none⟩ = some c1
  g2 : W.cell? ⟨b, off + 2, none⟩ = some c2
  g3 : W.cell? ⟨b, off + 3, none⟩ = some c3
  g4 : W.cell? ⟨b, off + 4, none⟩ = some c4
  g5 : W.cell? ⟨b, off + 5, none⟩ = some c5
  g6 : W.cell? ⟨b, off + 6, none⟩ = some c6
  rd : Rd W x (.agg #[c0, c1, c2, c3, c4, c5, c6])
theorem Rd.RdL.kid {W : World} : ∀ {ks : List Ex} {b off : Nat}, Rd.RdL W ks b off → ∀ i (h : i < ks.length), ∃ c0 c1 c2 c3 c4 c5 c6, Kid W ks[i] b (off + i * 7) c0 c1 c2 c3 c4 c5 c6
  | [], _, _, _, i, h => absurd h (by simp)
  | x :: xs, b, off, hr, i, h => by
    unfold Rd.RdL at hr
    obtain ⟨⟨c0, c1, c2, c3, c4, c5, c6, g0, g1, g2, g3, g4, g5, g6, hx⟩, hr⟩ := hr
    cases i with
    | zero => exact ⟨c0, c1, c2, c3, c4, c5, c6, by simpa using g0, by simpa using g1, by simpa using g2, by simpa using g3, by simpa using g4, by simpa using g5, by simpa using g6, hx⟩
    | succ i =>
      obtain ⟨c0, c1, c2, c3, c4, c5, c6, hk⟩ := Rd.RdL.kid hr i (by simpa using h)
      rw [show off + 7 + i * 7 = off + (i + 1) * 7 by omega] at hk
      exact ⟨c0, c1, c2, c3, c4, c5, c6, hk⟩
structure Prt (W : World) (x : Ex) (k n : Int) (t : ByteArray) (b : Bool) (e : Int) (rs : List Rf) (ks : List Ex) (rv kv : Value) (ao : Option Addr) (cap : Nat) : Prop where
  ex : x = .mk k n t.data.toList b e rs ks
  rl : Sl rf 5 W rv rs
  kl : kv = .slice ao ks.length cap
  le : ks.length ≤ cap
  mx : cap ≤ maxLen
  kd : ks ≠ [] → ∃ b' off, ao = some ⟨b', off, none⟩ ∧ Rd.RdL W ks b' off
theorem Rd.prt {W : World} {x : Ex} {v : Value} (h : Rd W x v) : ∃ k n t b e rs ks rv kv ao cap, v = .agg #[.int .i64 k, .int .i64 n, .string t, .bool b, .int .i64 e, rv, kv] ∧ Prt W x k n t b e rs ks rv kv ao cap := by
  cases x with
  | mk k n t b e rs ks =>
    unfold Rd at h
    obtain ⟨rv, kv, hv, hr, ao, cap, hk, h1, h2, h3⟩ := h
    exact ⟨k, n, ⟨t.toArray⟩, b, e, rs, ks, rv, kv, ao, cap, hv, rfl, hr, hk, h1, h2, fun hn => by
      obtain ⟨b', off, ha, _, hl⟩ := h3 hn
      exact ⟨b', off, ha, hl⟩⟩
theorem Prt.on {W W' : World} {x : Ex} {k n : Int} {t : ByteArray} {b : Bool} {e : Int} {rs : List Rf} {ks : List Ex} {rv kv : Value} {ao : Option Addr} {cap : Nat} (h : Prt W x k n t b e rs ks rv kv ao cap) (q : Q W W') : Prt W' x k n t b e rs ks rv kv ao cap :=
  ⟨h.ex, h.rl.on q, h.kl, h.le, h.mx, fun hn => by
    obtain ⟨b', off, ha, hl⟩ := h.kd hn
    exact ⟨b', off, ha, Rd.RdL.on q _ _ _ hl⟩⟩
def Ans (p : Prop) (e : Ending) : Prop := ∃ r : Bool, e = .returned (.bool r) ∧ (r = true ↔ p)
theorem Ans.no {p : Prop} (h : ¬ p) : Ans p (.returned (.bool false)) := ⟨false, rfl, by simp [h]⟩
theorem Ans.yes {p : Prop} (h : p) : Ans p (.returned (.bool true)) := ⟨true, rfl, by simp [h]⟩
structure Rc (W : World) (b o : Nat) (sh : ByteArray) (row col : Int) (ra ca : Bool) : Prop where
  a0 : W.cell? ⟨b, o, none⟩ = some (.string sh)
  a1 : W.cell? ⟨b, o + 1, none⟩ = some (.int .i64 row)
  a2 : W.cell? ⟨b, o + 2, none⟩ = some (.int .i64 col)
  a3 : W.cell? ⟨b, o + 3, none⟩ = some (.bool ra)
  a4 : W.cell? ⟨b, o + 4, none⟩ = some (.bool ca)
theorem Sl.rc {W : World} {v : Value} {L : List Rf} (h : Sl rf 5 W v L) (hl : 0 < L.length) : ∃ b off cap, v = .slice (some ⟨b, off, none⟩) L.length cap ∧ L.length ≤ cap ∧ cap ≤ maxLen ∧ ∀ i (hi : i < L.length), Rc W b (off + i * 5) ⟨L[i].1.toArray⟩ L[i].2.1 L[i].2.2.1 L[i].2.2.2.1 L[i].2.2.2.2 := by
  obtain ⟨ao, cap, hv, h1, h2, h⟩ := h
  obtain ⟨b, off, rfl, hc⟩ := h hl
  exact ⟨b, off, cap, hv, h1, h2, fun i hi => ⟨hc i hi 0 _ rfl, hc i hi 1 _ rfl, hc i hi 2 _ rfl, hc i hi 3 _ rfl, hc i hi 4 _ rfl⟩⟩
theorem Rc.on {W W' : World} {b o : Nat} {sh : ByteArray} {row col : Int} {ra ca : Bool} (h : Rc W b o sh row col ra ca) (q : Q W W') : Rc W' b o sh row col ra ca := by
  have ce : ∀ {o : Nat} {c : Value}, W.cell? ⟨b, o, none⟩ = some c → W'.cell? ⟨b, o, none⟩ = some c := fun h => (q.cell (World.block_lt_of_cell? W ⟨b, _, none⟩ h)).trans h
  exact ⟨ce h.a0, ce h.a1, ce h.a2, ce h.a3, ce h.a4⟩
abbrev Qx (p : Nat) (w w' : World) : Prop := World.grownBy w w' (some p)
theorem Qx.refl (p : Nat) (w : World) : Qx p w w := ⟨rfl, rfl, rfl, Nat.le_refl _, fun _ _ _ => rfl⟩
theorem Qx.trans {p : Nat} {a b c : World} (h : Qx p a b) (k : Qx p b c) : Qx p a c :=
  ⟨k.os.trans h.os, k.tape.trans h.tape, k.output.trans h.output, Nat.le_trans h.size k.size, fun i hi hp => (k.block i (Nat.lt_of_lt_of_le hi h.size) hp).trans (h.block i hi hp)⟩
theorem Qx.of {p : Nat} {a b : World} (h : Q a b) : Qx p a b := ⟨h.os, h.tape, h.output, h.size, fun i hi _ => Q.block h hi⟩
theorem Qx.alloc {p : Nat} {a w : World} (h : Qx p a w) (o : Obj) : Qx p a (w.alloc o) := h.trans (Qx.of ((Q.refl _).alloc o))
theorem Qx.drew {p : Nat} {a w : World} (h : Qx p a w) : Qx p a w.drew := h.trans (Qx.of (Q.refl _).drew)
theorem Qx.cell {p : Nat} {a w : World} (h : Qx p a w) {b o : Nat} (hb : b < a.heap.size) (hp : b ≠ p) : w.cell? ⟨b, o, none⟩ = a.cell? ⟨b, o, none⟩ :=
  World.cell?_of_block (h.block b hb (fun e => hp (Option.some.inj e)))
def Slg (g : Nat → Prop) (W : World) (v : Value) (L : List Rf) : Prop :=
  ∃ (ao : Option Addr) (cap : Nat), v = .slice ao L.length cap ∧ L.length ≤ cap ∧ cap ≤ maxLen ∧ (0 < L.length → ∃ b off, ao = some ⟨b, off, none⟩ ∧ g b ∧ ∀ i (h : i < L.length), Ats rf W b (off + i * 5) L[i])
theorem Slg.sl {g : Nat → Prop} {W : World} {v : Value} {L : List Rf} (h : Slg g W v L) : Sl rf 5 W v L := by
  obtain ⟨ao, cap, hv, h1, h2, h3⟩ := h
  exact ⟨ao, cap, hv, h1, h2, fun hl => by obtain ⟨b, off, ha, _, hc⟩ := h3 hl; exact ⟨b, off, ha, hc⟩⟩
def Rdg (g : Nat → Prop) (W : World) : Ex → Value → Prop
  | .mk k n t b e rs ks, v => ∃ rv kv, v = .agg #[.int .i64 k, .int .i64 n, .string ⟨t.toArray⟩, .bool b, .int .i64 e, rv, kv] ∧ Slg g W rv rs ∧
      ∃ (ao : Option Addr) (cap : Nat), kv = .slice ao ks.length cap ∧ ks.length ≤ cap ∧ cap ≤ maxLen ∧ (ks ≠ [] → ∃ b' off, ao = some ⟨b', off, none⟩ ∧ g b' ∧ Pl W b' ∧ RdLg g W ks b' off)
  where
  RdLg (g : Nat → Prop) (W : World) : List Ex → Nat → Nat → Prop
  | [], _, _ => True
  | x :: xs, b, off => (∃ c0 c1 c2 c3 c4 c5 c6, W.cell? ⟨b, off, none⟩ = some c0 ∧ W.cell? ⟨b, off + 1, none⟩ = some c1 ∧ W.cell? ⟨b, off + 2, none⟩ = some c2 ∧ W.cell? ⟨b, off + 3, none⟩ = some c3 ∧ W.cell? ⟨b, off + 4, none⟩ = some c4 ∧ W.cell? ⟨b, off + 5, none⟩ = some c5 ∧ W.cell? ⟨b, off + 6, none⟩ = some c6 ∧ Rdg g W x (.agg #[c0, c1, c2, c3, c4, c5, c6])) ∧ RdLg g W xs b (off + 7)
theorem Rdg.rd {g : Nat → Prop} {W : World} : ∀ (x : Ex) (v : Value), Rdg g W x v → Rd W x v
  | .mk k n t b e rs ks, v, h => by
    unfold Rdg at h
    unfold Rd
    obtain ⟨rv, kv, hv, hr, ao, cap, hk, h1, h2, h3⟩ := h
    refine ⟨rv, kv, hv, hr.sl, ao, cap, hk, h1, h2, fun hn => ?_⟩
    obtain ⟨b', off, ha, hb, hpl, hl⟩ := h3 hn
    exact ⟨b', off, ha, hpl, go ks b' off hl⟩
  where
  go {g : Nat → Prop} {W : World} : ∀ (l : List Ex) (b off : Nat), Rdg.RdLg g W l b off → Rd.RdL W l b off
  | [], _, _, _ => by unfold Rd.RdL; trivial
  | x :: xs, b, off, h => by
    unfold Rdg.RdLg at h
    unfold Rd.RdL
    obtain ⟨⟨c0, c1, c2, c3, c4, c5, c6, g0, g1, g2, g3, g4, g5, g6, hx⟩, hr⟩ := h
    exact ⟨⟨c0, c1, c2, c3, c4, c5, c6, g0, g1, g2, g3, g4, g5, g6, Rdg.rd x _ hx⟩, go xs b (off + 7) hr⟩
def zeroV : Value := .agg #[.int .i64 0, .int .i64 0, .string ⟨#[]⟩, .bool false, .int .i64 0, .slice none 0 0, .slice none 0 0]
theorem rdg_zero (g : Nat → Prop) (W : World) : Rdg g W zeroE zeroV := by
  unfold zeroE Rdg
  exact ⟨_, _, rfl, ⟨none, 0, rfl, Nat.le_refl _, Nat.zero_le _, fun h => absurd h (by simp)⟩, none, 0, rfl, Nat.le_refl _, Nat.zero_le _, fun h => absurd rfl h⟩
theorem Qx.frozen {p : Nat} {a w : World} (h : Qx p a w) {b o : Nat} (hb : b < a.heap.size) (hp : b ≠ p) : w.frozen? ⟨b, o, none⟩ = a.frozen? ⟨b, o, none⟩ :=
  World.frozen?_of_block (h.block b hb (fun e => hp (Option.some.inj e)))
theorem Rdg.shape {g : Nat → Prop} {W : World} {x : Ex} {v : Value} (h : Rdg g W x v) : ∃ k n t b e a1 l1 c1 a2 l2 c2, v = .agg #[.int .i64 k, .int .i64 n, .string t, .bool b, .int .i64 e, .slice a1 l1 c1, .slice a2 l2 c2] := by
  cases x with
  | mk k n t b e rs ks =>
    unfold Rdg at h
    obtain ⟨rv, kv, hv, hr, ao, cap, hk, _⟩ := h
    obtain ⟨a1, c1, hr, _⟩ := hr
    subst hr hk
    exact ⟨_, _, _, _, _, _, _, _, _, _, _, hv⟩
set_option maxHeartbeats 8000000 in
theorem om2 (k : Int) (sh : ByteArray) (x2 x3 x4 x5 x6 x7 x8 x9 x10 x11 x12 x13 x14 x15 x16 x17 x18 x19 x20 x21 x22 : Value) (w : World) (p1 : Bool) (ib eb : Bool) (k0 : (k == 1) = false) (k1 : (k == 2) = true) (H0 : Hid ((#[.int .i64 k, .string sh, x2, x3, x4, x5, x6, x7, x8, x9, x10, x11, x12, x13, x14, x15, x16, x17, x18, x19, x20, x21, x22] : Array Value).all (·.oneCell') = true)) (H1 : Hid (∀ V, Q w V → Calls Tryz.prog 30 #[.agg #[x17, x18, x19]] V fun e V' => e = .returned (.bool p1) ∧ Q V V')) (HI : Hid (∀ V, Q w V → Calls Tryz.prog 34 #[.string sh] V fun e V' => e = .returned (.bool ib) ∧ Q V V')) (HE : Hid (∀ V, Q w V → Calls Tryz.prog 35 #[.agg #[.int .i64 k, .string sh, x2, x3, x4, x5, x6, x7, x8, x9, x10, x11, x12, x13, x14, x15, x16, .int .i64 0, .int .i64 0, .int .i64 0, x20, x21, x22], .agg #[.int .i64 k, .string sh, .int .i64 0, .int .i64 0, .bool false, .int .i64 0, .int .i64 0, .string ⟨#[]⟩, .bool false, .int .i64 0, .int .i64 0, .int .i64 0, .string ⟨#[]⟩, .bool false, .int .i64 0, .slice none 0 0, .slice none 0 0, .int .i64 0, .int .i64 0, .int .i64 0, .slice none 0 0, .int .i64 0, .string ⟨#[]⟩]] V fun e V' => e = .returned (.bool eb) ∧ Q V V')) : Calls Tryz.prog 22 #[.agg #[.int .i64 k, .string sh, x2, x3, x4, x5, x6, x7, x8, x9, x10, x11, x12, x13, x14, x15, x16, x17, x18, x19, x20, x21, x22]] w fun e V' => e = .returned (.bool (p1 && (ib && eb))) ∧ Q w V' := by
  go_enter Tryz.func22, Tryz.ntmps22
  go_upto_region 1 with fail
  have Z1 := hid (cq_new w [.int .i64 k, .string sh, x2, x3, x4, x5, x6, x7, x8, x9, x10, x11, x12, x13, x14, x15, x16, x17, x18, x19, x20, x21, x22])
  rw [show ([.int .i64 k, .string sh, x2, x3, x4, x5, x6, x7, x8, x9, x10, x11, x12, x13, x14, x15, x16, x17, x18, x19, x20, x21, x22] : List Value).toArray = #[.int .i64 k, .string sh, x2, x3, x4, x5, x6, x7, x8, x9, x10, x11, x12, x13, x14, x15, x16, x17, x18, x19, x20, x21, x22] from rfl] at Z1
  have QA : Hid (Q w (w.alloc (.cells #[.int .i64 k, .string sh, x2, x3, x4, x5, x6, x7, x8, x9, x10, x11, x12, x13, x14, x15, x16, x17, x18, x19, x20, x21, x22] 40))) := hid ((Q.refl w).alloc _)
  generalize w.alloc (.cells #[.int .i64 k, .string sh, x2, x3, x4, x5, x6, x7, x8, x9, x10, x11, x12, x13, x14, x15, x16, x17, x18, x19, x20, x21, x22] 40) = w1 at Z1 QA ⊢
  generalize w.heap.size = b0 at Z1 ⊢
  refine two (F := ?F) (fun HF => ?both) ?rest
  case both =>
    refine wp_region_any (by kernel_rfl) ?_
    change wpAny _ _ _ _ _ _ _ (World.drew _)
    refine wpAny_ready (rs := [0, 1]) (by kernel_rfl) (by simp) ?_
    refine AllReady.cons rfl (fun K hK => ?_) (AllReady.cons rfl (fun K hK => ?_) AllReady.nil)
    · refine step_load_row (by rfl) _ (by rfl) b0 (by rfl) [.int .i64 k, .string sh, x2, x3, x4, x5, x6, x7, x8, x9, x10, x11, x12, x13, x14, x15, x16, x17, x18, x19, x20, x21, x22] (Z1.out.on (Q.refl _).drew) (by rfl) (hK _ _ ?_)
      clear hK K
      refine wpAny_ready (rs := [1]) (by kernel_rfl) (by simp) ?_
      refine AllReady.cons rfl (fun K hK => ?_) AllReady.nil
      go_simp
      refine hK _ _ ?_
      clear hK K
      refine wpAny_ready (rs := [2]) (by kernel_rfl) (by simp) ?_
      refine AllReady.cons rfl (fun K hK => ?_) AllReady.nil
      go_simp
      refine hK _ _ ?_
      clear hK K
      refine wpAny_ready (rs := [3]) (by kernel_rfl) (by simp) ?_
      refine AllReady.cons rfl (fun K hK => ?_) AllReady.nil
      refine step_store_row (by rfl) 40 _ _ (by rfl) w1.heap.size #[.int .i64 k, .string sh, x2, x3, x4, x5, x6, x7, x8, x9, x10, x11, x12, x13, x14, x15, x16, x17, x18, x19, x20, x21, x22] (by rfl) (by rfl) 40 #[.int .i64 0, .string ⟨#[]⟩, .int .i64 0, .int .i64 0, .bool false, .int .i64 0, .int .i64 0, .string ⟨#[]⟩, .bool false, .int .i64 0, .int .i64 0, .int .i64 0, .string ⟨#[]⟩, .bool false, .int .i64 0, .slice none 0 0, .slice none 0 0, .int .i64 0, .int .i64 0, .int .i64 0, .slice none 0 0, .int .i64 0, .string ⟨#[]⟩] (heap_alloc_last w1 _) info35 (by rfl) H0.out (hK _ _ ?_)
      clear hK K
      refine wpAny_done (by kernel_rfl) ?_ _
      rw [set_new]
      exact HF
    · go_simp
      refine hK _ _ ?_
      clear hK K
      refine wpAny_ready (rs := [0, 2]) (by kernel_rfl) (by simp) ?_
      refine AllReady.cons rfl (fun K hK => ?_) (AllReady.cons rfl (fun K hK => ?_) AllReady.nil)
      · refine step_load_row (by rfl) _ (by rfl) b0 (by rfl) [.int .i64 k, .string sh, x2, x3, x4, x5, x6, x7, x8, x9, x10, x11, x12, x13, x14, x15, x16, x17, x18, x19, x20, x21, x22] (Z1.out.on (((Q.refl _).alloc _).drew)) (by rfl) (hK _ _ ?_)
        clear hK K
        refine wpAny_ready (rs := [2]) (by kernel_rfl) (by simp) ?_
        refine AllReady.cons rfl (fun K hK => ?_) AllReady.nil
        go_simp
        refine hK _ _ ?_
        clear hK K
        refine wpAny_ready (rs := [3]) (by kernel_rfl) (by simp) ?_
        refine AllReady.cons rfl (fun K hK => ?_) AllReady.nil
        refine step_store_row (by rfl) 40 _ _ (by rfl) w1.heap.size #[.int .i64 k, .string sh, x2, x3, x4, x5, x6, x7, x8, x9, x10, x11, x12, x13, x14, x15, x16, x17, x18, x19, x20, x21, x22] (by rfl) (by rfl) 40 #[.int .i64 0, .string ⟨#[]⟩, .int .i64 0, .int .i64 0, .bool false, .int .i64 0, .int .i64 0, .string ⟨#[]⟩, .bool false, .int .i64 0, .int .i64 0, .int .i64 0, .string ⟨#[]⟩, .bool false, .int .i64 0, .slice none 0 0, .slice none 0 0, .int .i64 0, .int .i64 0, .int .i64 0, .slice none 0 0, .int .i64 0, .string ⟨#[]⟩] (heap_alloc_last w1 _) info35 (by rfl) H0.out (hK _ _ ?_)
        clear hK K
        refine wpAny_done (by kernel_rfl) ?_ _
        rw [set_new]
        exact HF
      · go_simp
        refine hK _ _ ?_
        clear hK K
        refine wpAny_ready (rs := [0]) (by kernel_rfl) (by simp) ?_
        refine AllReady.cons rfl (fun K hK => ?_) AllReady.nil
        refine step_load_row (by rfl) _ (by rfl) b0 (by rfl) [.int .i64 k, .string sh, x2, x3, x4, x5, x6, x7, x8, x9, x10, x11, x12, x13, x14, x15, x16, x17, x18, x19, x20, x21, x22] (Z1.out.on (((Q.refl _).alloc _).drew)) (by rfl) (hK _ _ ?_)
        clear hK K
        refine wpAny_ready (rs := [3]) (by kernel_rfl) (by simp) ?_
        refine AllReady.cons rfl (fun K hK => ?_) AllReady.nil
        refine step_store_row (by rfl) 40 _ _ (by rfl) w1.heap.size #[.int .i64 k, .string sh, x2, x3, x4, x5, x6, x7, x8, x9, x10, x11, x12, x13, x14, x15, x16, x17, x18, x19, x20, x21, x22] (by rfl) (by rfl) 40 #[.int .i64 0, .string ⟨#[]⟩, .int .i64 0, .int .i64 0, .bool false, .int .i64 0, .int .i64 0, .string ⟨#[]⟩, .bool false, .int .i64 0, .int .i64 0, .int .i64 0, .string ⟨#[]⟩, .bool false, .int .i64 0, .slice none 0 0, .slice none 0 0, .int .i64 0, .int .i64 0, .int .i64 0, .slice none 0 0, .int .i64 0, .string ⟨#[]⟩] (heap_alloc_last w1 _) info35 (by rfl) H0.out (hK _ _ ?_)
        clear hK K
        refine wpAny_done (by kernel_rfl) ?_ _
        rw [set_new]
        exact HF
  have Z2 := hid ((cq_new w1 [.int .i64 k, .string sh, x2, x3, x4, x5, x6, x7, x8, x9, x10, x11, x12, x13, x14, x15, x16, x17, x18, x19, x20, x21, x22]).on (Q.refl _).drew)
  rw [show ([.int .i64 k, .string sh, x2, x3, x4, x5, x6, x7, x8, x9, x10, x11, x12, x13, x14, x15, x16, x17, x18, x19, x20, x21, x22] : List Value).toArray = #[.int .i64 k, .string sh, x2, x3, x4, x5, x6, x7, x8, x9, x10, x11, x12, x13, x14, x15, x16, x17, x18, x19, x20, x21, x22] from rfl] at Z2
  have Z0 := hid (Z1.out.on (((Q.refl w1).alloc (.cells #[.int .i64 k, .string sh, x2, x3, x4, x5, x6, x7, x8, x9, x10, x11, x12, x13, x14, x15, x16, x17, x18, x19, x20, x21, x22] 40)).drew))
  have QB : Hid (Q w ((w1.alloc (.cells #[.int .i64 k, .string sh, x2, x3, x4, x5, x6, x7, x8, x9, x10, x11, x12, x13, x14, x15, x16, x17, x18, x19, x20, x21, x22] 40)).drew)) := hid ((QA.out.alloc _).drew)
  have hb1 : w.heap.size ≤ w1.heap.size := QA.out.size
  have hne : b0 ≠ w1.heap.size := Nat.ne_of_lt Z1.out.l
  generalize (w1.alloc (.cells #[.int .i64 k, .string sh, x2, x3, x4, x5, x6, x7, x8, x9, x10, x11, x12, x13, x14, x15, x16, x17, x18, x19, x20, x21, x22] 40)).drew = w2 at Z0 Z2 QB ⊢
  generalize w1.heap.size = b1x at Z2 hb1 hne ⊢
  clear Z1 QA
  have d0 := Z0.out.c 0 _ rfl
  have d17 := Z0.out.c 17 _ rfl
  have d18 := Z0.out.c 18 _ rfl
  have d19 := Z0.out.c 19 _ rfl
  have u17 := Z2.out.c 17 _ rfl; have uf17 := Z2.out.f 17
  have u18 := Z2.out.c 18 _ rfl; have uf18 := Z2.out.f 18
  have u19 := Z2.out.c 19 _ rfl; have uf19 := Z2.out.f 19
  cases p1 with
  | false =>
    go_wp2_with (first | (go_at_call 30; refine (H1.out _ QB.out).mono ?_; rintro e9 v0 ⟨rfl, q9⟩; have QC0 : Hid (Q w v0) := hid (QB.out.trans q9); have Z10 := hid (Z0.out.on q9); have Z20 := hid (Z2.out.on q9); clear q9; have d0_0 := Z10.out.c 0 _ rfl; have d0_17 := Z10.out.c 17 _ rfl; have d0_18 := Z10.out.c 18 _ rfl; have d0_19 := Z10.out.c 19 _ rfl; have u0_17 := Z20.out.c 17 _ rfl; have uf0_17 := Z20.out.f 17; have u0_18 := Z20.out.c 18 _ rfl; have uf0_18 := Z20.out.f 18; have u0_19 := Z20.out.c 19 _ rfl; have uf0_19 := Z20.out.f 19))
    go_ret
    exact ⟨rfl, by repeat (first | exact QC0.out | refine Q.setCell ?_ hb1 _)⟩
  | true =>
    go_upto_region 17 with (first | (go_at_call 30; refine (H1.out _ QB.out).mono ?_; rintro e9 v0 ⟨rfl, q9⟩; have QC0 : Hid (Q w v0) := hid (QB.out.trans q9); have Z10 := hid (Z0.out.on q9); have Z20 := hid (Z2.out.on q9); clear q9; have d0_0 := Z10.out.c 0 _ rfl; have d0_17 := Z10.out.c 17 _ rfl; have d0_18 := Z10.out.c 18 _ rfl; have d0_19 := Z10.out.c 19 _ rfl; have u0_17 := Z20.out.c 17 _ rfl; have uf0_17 := Z20.out.f 17; have u0_18 := Z20.out.c 18 _ rfl; have uf0_18 := Z20.out.f 18; have u0_19 := Z20.out.c 19 _ rfl; have uf0_19 := Z20.out.f 19))
    have QV : Hid (Q w (((v0.setCell ⟨b1x, 17, none⟩ (.int .i64 0)).setCell ⟨b1x, 18, none⟩ (.int .i64 0)).setCell ⟨b1x, 19, none⟩ (.int .i64 0))) := hid (by repeat (first | exact QC0.out | refine Q.setCell ?_ hb1 _))
    have Z1V : Hid (Cq (((v0.setCell ⟨b1x, 17, none⟩ (.int .i64 0)).setCell ⟨b1x, 18, none⟩ (.int .i64 0)).setCell ⟨b1x, 19, none⟩ (.int .i64 0)) b0 [.int .i64 k, .string sh, x2, x3, x4, x5, x6, x7, x8, x9, x10, x11, x12, x13, x14, x15, x16, x17, x18, x19, x20, x21, x22]) := hid ((((Z10.out.oth hne 17 (.int .i64 0)).oth hne 18 (.int .i64 0)).oth hne 19 (.int .i64 0)))
    have Z2V : Hid (Cq (((v0.setCell ⟨b1x, 17, none⟩ (.int .i64 0)).setCell ⟨b1x, 18, none⟩ (.int .i64 0)).setCell ⟨b1x, 19, none⟩ (.int .i64 0)) b1x [.int .i64 k, .string sh, x2, x3, x4, x5, x6, x7, x8, x9, x10, x11, x12, x13, x14, x15, x16, .int .i64 0, .int .i64 0, .int .i64 0, x20, x21, x22]) := hid ((((Z20.out.put 17 (.int .i64 0)).put 18 (.int .i64 0)).put 19 (.int .i64 0)))
    generalize (((v0.setCell ⟨b1x, 17, none⟩ (.int .i64 0)).setCell ⟨b1x, 18, none⟩ (.int .i64 0)).setCell ⟨b1x, 19, none⟩ (.int .i64 0)) = V at QV Z1V Z2V ⊢
    clear d0 d17 d18 d19 u17 uf17 u18 uf18 u19 uf19 d0_0 d0_17 d0_18 d0_19 u0_17 uf0_17 u0_18 uf0_18 u0_19 uf0_19
    have g0 := Z1V.out.c 0 _ rfl
    have g1 := Z1V.out.c 1 _ rfl
    cases ib with
    | false =>
      go_wp2_with (go_at_call 34; refine (HI.out _ QV.out).mono ?_; rintro e9 y1 ⟨rfl, q9⟩; have QY : Hid (Q w y1) := hid (QV.out.trans q9); clear q9)
      go_ret
      exact ⟨rfl, QY.out⟩
    | true =>
      go_wp2_with (first | (go_at_call 34; refine (HI.out _ QV.out).mono ?_; rintro e9 y1 ⟨rfl, q9⟩; have QY : Hid (Q w y1) := hid (QV.out.trans q9); have Z1Y := hid (Z1V.out.on q9); have Z2Y := hid (Z2V.out.on q9); clear q9; have g0' := Z1Y.out.c 0 _ rfl; have g1' := Z1Y.out.c 1 _ rfl) | (refine wpl_loadg _ (by rfl) (by rfl) b1x (by rfl) [.int .i64 k, .string sh, x2, x3, x4, x5, x6, x7, x8, x9, x10, x11, x12, x13, x14, x15, x16, .int .i64 0, .int .i64 0, .int .i64 0, x20, x21, x22] Z2Y.out (by rfl) ?_) | (refine wpl_buildg _ (by rfl) (by rfl) #[.int .i64 k, .string sh, .int .i64 0, .int .i64 0, .bool false, .int .i64 0, .int .i64 0, .string ⟨#[]⟩, .bool false, .int .i64 0, .int .i64 0, .int .i64 0, .string ⟨#[]⟩, .bool false, .int .i64 0, .slice none 0 0, .slice none 0 0, .int .i64 0, .int .i64 0, .int .i64 0, .slice none 0 0, .int .i64 0, .string ⟨#[]⟩] (by kernel_rfl) ?_) | (go_at_call 35; refine (HE.out _ QY.out).mono ?_; rintro e9 y2 ⟨rfl, q9⟩; have QY2 : Hid (Q w y2) := hid (QY.out.trans q9); clear q9))
      go_ret
      exact ⟨rfl, QY2.out⟩
set_option maxHeartbeats 8000000 in
theorem om3 (k : Int) (sh : ByteArray) (x2 x3 x4 x5 x6 x7 x8 x9 x10 x11 x12 x13 x14 x15 x16 x17 x18 x19 x20 x21 x22 : Value) (w : World) (p1 : Bool) (ib eb : Bool) (k0 : (k == 1) = false) (k1 : (k == 2) = false) (k2 : (k == 3) = true) (H0 : Hid ((#[.int .i64 k, .string sh, x2, x3, x4, x5, x6, x7, x8, x9, x10, x11, x12, x13, x14, x15, x16, x17, x18, x19, x20, x21, x22] : Array Value).all (·.oneCell') = true)) (H1 : Hid (∀ V, Q w V → Calls Tryz.prog 30 #[.agg #[x17, x18, x19]] V fun e V' => e = .returned (.bool p1) ∧ Q V V')) (HI : Hid (∀ V, Q w V → Calls Tryz.prog 34 #[.string sh] V fun e V' => e = .returned (.bool ib) ∧ Q V V')) (HE : Hid (∀ V, Q w V → Calls Tryz.prog 35 #[.agg #[.int .i64 k, .string sh, x2, x3, x4, x5, x6, x7, x8, x9, x10, x11, x12, x13, x14, x15, x16, .int .i64 0, .int .i64 0, .int .i64 0, x20, x21, x22], .agg #[.int .i64 k, .string sh, .int .i64 0, .int .i64 0, .bool false, .int .i64 0, .int .i64 0, .string ⟨#[]⟩, .bool false, .int .i64 0, .int .i64 0, .int .i64 0, .string ⟨#[]⟩, .bool false, .int .i64 0, .slice none 0 0, .slice none 0 0, .int .i64 0, .int .i64 0, .int .i64 0, .slice none 0 0, .int .i64 0, .string ⟨#[]⟩]] V fun e V' => e = .returned (.bool eb) ∧ Q V V')) : Calls Tryz.prog 22 #[.agg #[.int .i64 k, .string sh, x2, x3, x4, x5, x6, x7, x8, x9, x10, x11, x12, x13, x14, x15, x16, x17, x18, x19, x20, x21, x22]] w fun e V' => e = .returned (.bool (p1 && (ib && eb))) ∧ Q w V' := by
  go_enter Tryz.func22, Tryz.ntmps22
  go_upto_region 1 with fail
  have Z1 := hid (cq_new w [.int .i64 k, .string sh, x2, x3, x4, x5, x6, x7, x8, x9, x10, x11, x12, x13, x14, x15, x16, x17, x18, x19, x20, x21, x22])
  rw [show ([.int .i64 k, .string sh, x2, x3, x4, x5, x6, x7, x8, x9, x10, x11, x12, x13, x14, x15, x16, x17, x18, x19, x20, x21, x22] : List Value).toArray = #[.int .i64 k, .string sh, x2, x3, x4, x5, x6, x7, x8, x9, x10, x11, x12, x13, x14, x15, x16, x17, x18, x19, x20, x21, x22] from rfl] at Z1
  have QA : Hid (Q w (w.alloc (.cells #[.int .i64 k, .string sh, x2, x3, x4, x5, x6, x7, x8, x9, x10, x11, x12, x13, x14, x15, x16, x17, x18, x19, x20, x21, x22] 40))) := hid ((Q.refl w).alloc _)
  generalize w.alloc (.cells #[.int .i64 k, .string sh, x2, x3, x4, x5, x6, x7, x8, x9, x10, x11, x12, x13, x14, x15, x16, x17, x18, x19, x20, x21, x22] 40) = w1 at Z1 QA ⊢
  generalize w.heap.size = b0 at Z1 ⊢
  refine two (F := ?F) (fun HF => ?both) ?rest
  case both =>
    refine wp_region_any (by kernel_rfl) ?_
    change wpAny _ _ _ _ _ _ _ (World.drew _)
    refine wpAny_ready (rs := [0, 1]) (by kernel_rfl) (by simp) ?_
    refine AllReady.cons rfl (fun K hK => ?_) (AllReady.cons rfl (fun K hK => ?_) AllReady.nil)
    · refine step_load_row (by rfl) _ (by rfl) b0 (by rfl) [.int .i64 k, .string sh, x2, x3, x4, x5, x6, x7, x8, x9, x10, x11, x12, x13, x14, x15, x16, x17, x18, x19, x20, x21, x22] (Z1.out.on (Q.refl _).drew) (by rfl) (hK _ _ ?_)
      clear hK K
      refine wpAny_ready (rs := [1]) (by kernel_rfl) (by simp) ?_
      refine AllReady.cons rfl (fun K hK => ?_) AllReady.nil
      go_simp
      refine hK _ _ ?_
      clear hK K
      refine wpAny_ready (rs := [2]) (by kernel_rfl) (by simp) ?_
      refine AllReady.cons rfl (fun K hK => ?_) AllReady.nil
      go_simp
      refine hK _ _ ?_
      clear hK K
      refine wpAny_ready (rs := [3]) (by kernel_rfl) (by simp) ?_
      refine AllReady.cons rfl (fun K hK => ?_) AllReady.nil
      refine step_store_row (by rfl) 40 _ _ (by rfl) w1.heap.size #[.int .i64 k, .string sh, x2, x3, x4, x5, x6, x7, x8, x9, x10, x11, x12, x13, x14, x15, x16, x17, x18, x19, x20, x21, x22] (by rfl) (by rfl) 40 #[.int .i64 0, .string ⟨#[]⟩, .int .i64 0, .int .i64 0, .bool false, .int .i64 0, .int .i64 0, .string ⟨#[]⟩, .bool false, .int .i64 0, .int .i64 0, .int .i64 0, .string ⟨#[]⟩, .bool false, .int .i64 0, .slice none 0 0, .slice none 0 0, .int .i64 0, .int .i64 0, .int .i64 0, .slice none 0 0, .int .i64 0, .string ⟨#[]⟩] (heap_alloc_last w1 _) info35 (by rfl) H0.out (hK _ _ ?_)
      clear hK K
      refine wpAny_done (by kernel_rfl) ?_ _
      rw [set_new]
      exact HF
    · go_simp
      refine hK _ _ ?_
      clear hK K
      refine wpAny_ready (rs := [0, 2]) (by kernel_rfl) (by simp) ?_
      refine AllReady.cons rfl (fun K hK => ?_) (AllReady.cons rfl (fun K hK => ?_) AllReady.nil)
      · refine step_load_row (by rfl) _ (by rfl) b0 (by rfl) [.int .i64 k, .string sh, x2, x3, x4, x5, x6, x7, x8, x9, x10, x11, x12, x13, x14, x15, x16, x17, x18, x19, x20, x21, x22] (Z1.out.on (((Q.refl _).alloc _).drew)) (by rfl) (hK _ _ ?_)
        clear hK K
        refine wpAny_ready (rs := [2]) (by kernel_rfl) (by simp) ?_
        refine AllReady.cons rfl (fun K hK => ?_) AllReady.nil
        go_simp
        refine hK _ _ ?_
        clear hK K
        refine wpAny_ready (rs := [3]) (by kernel_rfl) (by simp) ?_
        refine AllReady.cons rfl (fun K hK => ?_) AllReady.nil
        refine step_store_row (by rfl) 40 _ _ (by rfl) w1.heap.size #[.int .i64 k, .string sh, x2, x3, x4, x5, x6, x7, x8, x9, x10, x11, x12, x13, x14, x15, x16, x17, x18, x19, x20, x21, x22] (by rfl) (by rfl) 40 #[.int .i64 0, .string ⟨#[]⟩, .int .i64 0, .int .i64 0, .bool false, .int .i64 0, .int .i64 0, .string ⟨#[]⟩, .bool false, .int .i64 0, .int .i64 0, .int .i64 0, .string ⟨#[]⟩, .bool false, .int .i64 0, .slice none 0 0, .slice none 0 0, .int .i64 0, .int .i64 0, .int .i64 0, .slice none 0 0, .int .i64 0, .string ⟨#[]⟩] (heap_alloc_last w1 _) info35 (by rfl) H0.out (hK _ _ ?_)
        clear hK K
        refine wpAny_done (by kernel_rfl) ?_ _
        rw [set_new]
        exact HF
      · go_simp
        refine hK _ _ ?_
        clear hK K
        refine wpAny_ready (rs := [0]) (by kernel_rfl) (by simp) ?_
        refine AllReady.cons rfl (fun K hK => ?_) AllReady.nil
        refine step_load_row (by rfl) _ (by rfl) b0 (by rfl) [.int .i64 k, .string sh, x2, x3, x4, x5, x6, x7, x8, x9, x10, x11, x12, x13, x14, x15, x16, x17, x18, x19, x20, x21, x22] (Z1.out.on (((Q.refl _).alloc _).drew)) (by rfl) (hK _ _ ?_)
        clear hK K
        refine wpAny_ready (rs := [3]) (by kernel_rfl) (by simp) ?_
        refine AllReady.cons rfl (fun K hK => ?_) AllReady.nil
        refine step_store_row (by rfl) 40 _ _ (by rfl) w1.heap.size #[.int .i64 k, .string sh, x2, x3, x4, x5, x6, x7, x8, x9, x10, x11, x12, x13, x14, x15, x16, x17, x18, x19, x20, x21, x22] (by rfl) (by rfl) 40 #[.int .i64 0, .string ⟨#[]⟩, .int .i64 0, .int .i64 0, .bool false, .int .i64 0, .int .i64 0, .string ⟨#[]⟩, .bool false, .int .i64 0, .int .i64 0, .int .i64 0, .string ⟨#[]⟩, .bool false, .int .i64 0, .slice none 0 0, .slice none 0 0, .int .i64 0, .int .i64 0, .int .i64 0, .slice none 0 0, .int .i64 0, .string ⟨#[]⟩] (heap_alloc_last w1 _) info35 (by rfl) H0.out (hK _ _ ?_)
        clear hK K
        refine wpAny_done (by kernel_rfl) ?_ _
        rw [set_new]
        exact HF
  have Z2 := hid ((cq_new w1 [.int .i64 k, .string sh, x2, x3, x4, x5, x6, x7, x8, x9, x10, x11, x12, x13, x14, x15, x16, x17, x18, x19, x20, x21, x22]).on (Q.refl _).drew)
  rw [show ([.int .i64 k, .string sh, x2, x3, x4, x5, x6, x7, x8, x9, x10, x11, x12, x13, x14, x15, x16, x17, x18, x19, x20, x21, x22] : List Value).toArray = #[.int .i64 k, .string sh, x2, x3, x4, x5, x6, x7, x8, x9, x10, x11, x12, x13, x14, x15, x16, x17, x18, x19, x20, x21, x22] from rfl] at Z2
  have Z0 := hid (Z1.out.on (((Q.refl w1).alloc (.cells #[.int .i64 k, .string sh, x2, x3, x4, x5, x6, x7, x8, x9, x10, x11, x12, x13, x14, x15, x16, x17, x18, x19, x20, x21, x22] 40)).drew))
  have QB : Hid (Q w ((w1.alloc (.cells #[.int .i64 k, .string sh, x2, x3, x4, x5, x6, x7, x8, x9, x10, x11, x12, x13, x14, x15, x16, x17, x18, x19, x20, x21, x22] 40)).drew)) := hid ((QA.out.alloc _).drew)
  have hb1 : w.heap.size ≤ w1.heap.size := QA.out.size
  have hne : b0 ≠ w1.heap.size := Nat.ne_of_lt Z1.out.l
  generalize (w1.alloc (.cells #[.int .i64 k, .string sh, x2, x3, x4, x5, x6, x7, x8, x9, x10, x11, x12, x13, x14, x15, x16, x17, x18, x19, x20, x21, x22] 40)).drew = w2 at Z0 Z2 QB ⊢
  generalize w1.heap.size = b1x at Z2 hb1 hne ⊢
  clear Z1 QA
  have d0 := Z0.out.c 0 _ rfl
  have d17 := Z0.out.c 17 _ rfl
  have d18 := Z0.out.c 18 _ rfl
  have d19 := Z0.out.c 19 _ rfl
  have u17 := Z2.out.c 17 _ rfl; have uf17 := Z2.out.f 17
  have u18 := Z2.out.c 18 _ rfl; have uf18 := Z2.out.f 18
  have u19 := Z2.out.c 19 _ rfl; have uf19 := Z2.out.f 19
  cases p1 with
  | false =>
    go_wp2_with (first | (go_at_call 30; refine (H1.out _ QB.out).mono ?_; rintro e9 v0 ⟨rfl, q9⟩; have QC0 : Hid (Q w v0) := hid (QB.out.trans q9); have Z10 := hid (Z0.out.on q9); have Z20 := hid (Z2.out.on q9); clear q9; have d0_0 := Z10.out.c 0 _ rfl; have d0_17 := Z10.out.c 17 _ rfl; have d0_18 := Z10.out.c 18 _ rfl; have d0_19 := Z10.out.c 19 _ rfl; have u0_17 := Z20.out.c 17 _ rfl; have uf0_17 := Z20.out.f 17; have u0_18 := Z20.out.c 18 _ rfl; have uf0_18 := Z20.out.f 18; have u0_19 := Z20.out.c 19 _ rfl; have uf0_19 := Z20.out.f 19))
    go_ret
    exact ⟨rfl, by repeat (first | exact QC0.out | refine Q.setCell ?_ hb1 _)⟩
  | true =>
    go_upto_region 17 with (first | (go_at_call 30; refine (H1.out _ QB.out).mono ?_; rintro e9 v0 ⟨rfl, q9⟩; have QC0 : Hid (Q w v0) := hid (QB.out.trans q9); have Z10 := hid (Z0.out.on q9); have Z20 := hid (Z2.out.on q9); clear q9; have d0_0 := Z10.out.c 0 _ rfl; have d0_17 := Z10.out.c 17 _ rfl; have d0_18 := Z10.out.c 18 _ rfl; have d0_19 := Z10.out.c 19 _ rfl; have u0_17 := Z20.out.c 17 _ rfl; have uf0_17 := Z20.out.f 17; have u0_18 := Z20.out.c 18 _ rfl; have uf0_18 := Z20.out.f 18; have u0_19 := Z20.out.c 19 _ rfl; have uf0_19 := Z20.out.f 19))
    have QV : Hid (Q w (((v0.setCell ⟨b1x, 17, none⟩ (.int .i64 0)).setCell ⟨b1x, 18, none⟩ (.int .i64 0)).setCell ⟨b1x, 19, none⟩ (.int .i64 0))) := hid (by repeat (first | exact QC0.out | refine Q.setCell ?_ hb1 _))
    have Z1V : Hid (Cq (((v0.setCell ⟨b1x, 17, none⟩ (.int .i64 0)).setCell ⟨b1x, 18, none⟩ (.int .i64 0)).setCell ⟨b1x, 19, none⟩ (.int .i64 0)) b0 [.int .i64 k, .string sh, x2, x3, x4, x5, x6, x7, x8, x9, x10, x11, x12, x13, x14, x15, x16, x17, x18, x19, x20, x21, x22]) := hid ((((Z10.out.oth hne 17 (.int .i64 0)).oth hne 18 (.int .i64 0)).oth hne 19 (.int .i64 0)))
    have Z2V : Hid (Cq (((v0.setCell ⟨b1x, 17, none⟩ (.int .i64 0)).setCell ⟨b1x, 18, none⟩ (.int .i64 0)).setCell ⟨b1x, 19, none⟩ (.int .i64 0)) b1x [.int .i64 k, .string sh, x2, x3, x4, x5, x6, x7, x8, x9, x10, x11, x12, x13, x14, x15, x16, .int .i64 0, .int .i64 0, .int .i64 0, x20, x21, x22]) := hid ((((Z20.out.put 17 (.int .i64 0)).put 18 (.int .i64 0)).put 19 (.int .i64 0)))
    generalize (((v0.setCell ⟨b1x, 17, none⟩ (.int .i64 0)).setCell ⟨b1x, 18, none⟩ (.int .i64 0)).setCell ⟨b1x, 19, none⟩ (.int .i64 0)) = V at QV Z1V Z2V ⊢
    clear d0 d17 d18 d19 u17 uf17 u18 uf18 u19 uf19 d0_0 d0_17 d0_18 d0_19 u0_17 uf0_17 u0_18 uf0_18 u0_19 uf0_19
    have g0 := Z1V.out.c 0 _ rfl
    have g1 := Z1V.out.c 1 _ rfl
    cases ib with
    | false =>
      go_wp2_with (go_at_call 34; refine (HI.out _ QV.out).mono ?_; rintro e9 y1 ⟨rfl, q9⟩; have QY : Hid (Q w y1) := hid (QV.out.trans q9); clear q9)
      go_ret
      exact ⟨rfl, QY.out⟩
    | true =>
      go_wp2_with (first | (go_at_call 34; refine (HI.out _ QV.out).mono ?_; rintro e9 y1 ⟨rfl, q9⟩; have QY : Hid (Q w y1) := hid (QV.out.trans q9); have Z1Y := hid (Z1V.out.on q9); have Z2Y := hid (Z2V.out.on q9); clear q9; have g0' := Z1Y.out.c 0 _ rfl; have g1' := Z1Y.out.c 1 _ rfl) | (refine wpl_loadg _ (by rfl) (by rfl) b1x (by rfl) [.int .i64 k, .string sh, x2, x3, x4, x5, x6, x7, x8, x9, x10, x11, x12, x13, x14, x15, x16, .int .i64 0, .int .i64 0, .int .i64 0, x20, x21, x22] Z2Y.out (by rfl) ?_) | (refine wpl_buildg _ (by rfl) (by rfl) #[.int .i64 k, .string sh, .int .i64 0, .int .i64 0, .bool false, .int .i64 0, .int .i64 0, .string ⟨#[]⟩, .bool false, .int .i64 0, .int .i64 0, .int .i64 0, .string ⟨#[]⟩, .bool false, .int .i64 0, .slice none 0 0, .slice none 0 0, .int .i64 0, .int .i64 0, .int .i64 0, .slice none 0 0, .int .i64 0, .string ⟨#[]⟩] (by kernel_rfl) ?_) | (go_at_call 35; refine (HE.out _ QY.out).mono ?_; rintro e9 y2 ⟨rfl, q9⟩; have QY2 : Hid (Q w y2) := hid (QY.out.trans q9); clear q9))
      go_ret
      exact ⟨rfl, QY2.out⟩
set_option maxHeartbeats 8000000 in
theorem om7 (k : Int) (sh : ByteArray) (x2 x3 x4 x5 x6 x7 x8 x9 x10 x11 x12 x13 x14 x15 x16 x17 x18 x19 x20 x21 x22 : Value) (w : World) (ib eb : Bool) (k0 : (k == 1) = false) (k1 : (k == 2) = false) (k2 : (k == 3) = false) (k3 : (k == 4) = false) (k4 : (k == 5) = false) (k5 : (k == 6) = false) (k6 : (k == 7) = true) (H0 : Hid ((#[.int .i64 k, .string sh, x2, x3, x4, x5, x6, x7, x8, x9, x10, x11, x12, x13, x14, x15, x16, x17, x18, x19, x20, x21, x22] : Array Value).all (·.oneCell') = true)) (HI : Hid (∀ V, Q w V → Calls Tryz.prog 34 #[.string sh] V fun e V' => e = .returned (.bool ib) ∧ Q V V')) (HE : Hid (∀ V, Q w V → Calls Tryz.prog 35 #[.agg #[.int .i64 k, .string sh, x2, x3, x4, x5, x6, x7, x8, x9, x10, x11, x12, x13, x14, x15, x16, x17, x18, x19, x20, x21, x22], .agg #[.int .i64 k, .string sh, .int .i64 0, .int .i64 0, .bool false, .int .i64 0, .int .i64 0, .string ⟨#[]⟩, .bool false, .int .i64 0, .int .i64 0, .int .i64 0, .string ⟨#[]⟩, .bool false, .int .i64 0, .slice none 0 0, .slice none 0 0, .int .i64 0, .int .i64 0, .int .i64 0, .slice none 0 0, .int .i64 0, .string ⟨#[]⟩]] V fun e V' => e = .returned (.bool eb) ∧ Q V V')) : Calls Tryz.prog 22 #[.agg #[.int .i64 k, .string sh, x2, x3, x4, x5, x6, x7, x8, x9, x10, x11, x12, x13, x14, x15, x16, x17, x18, x19, x20, x21, x22]] w fun e V' => e = .returned (.bool (true && (ib && eb))) ∧ Q w V' := by
  go_enter Tryz.func22, Tryz.ntmps22
  go_upto_region 1 with fail
  have Z1 := hid (cq_new w [.int .i64 k, .string sh, x2, x3, x4, x5, x6, x7, x8, x9, x10, x11, x12, x13, x14, x15, x16, x17, x18, x19, x20, x21, x22])
  rw [show ([.int .i64 k, .string sh, x2, x3, x4, x5, x6, x7, x8, x9, x10, x11, x12, x13, x14, x15, x16, x17, x18, x19, x20, x21, x22] : List Value).toArray = #[.int .i64 k, .string sh, x2, x3, x4, x5, x6, x7, x8, x9, x10, x11, x12, x13, x14, x15, x16, x17, x18, x19, x20, x21, x22] from rfl] at Z1
  have QA : Hid (Q w (w.alloc (.cells #[.int .i64 k, .string sh, x2, x3, x4, x5, x6, x7, x8, x9, x10, x11, x12, x13, x14, x15, x16, x17, x18, x19, x20, x21, x22] 40))) := hid ((Q.refl w).alloc _)
  generalize w.alloc (.cells #[.int .i64 k, .string sh, x2, x3, x4, x5, x6, x7, x8, x9, x10, x11, x12, x13, x14, x15, x16, x17, x18, x19, x20, x21, x22] 40) = w1 at Z1 QA ⊢
  generalize w.heap.size = b0 at Z1 ⊢
  refine two (F := ?F) (fun HF => ?both) ?rest
  case both =>
    refine wp_region_any (by kernel_rfl) ?_
    change wpAny _ _ _ _ _ _ _ (World.drew _)
    refine wpAny_ready (rs := [0, 1]) (by kernel_rfl) (by simp) ?_
    refine AllReady.cons rfl (fun K hK => ?_) (AllReady.cons rfl (fun K hK => ?_) AllReady.nil)
    · refine step_load_row (by rfl) _ (by rfl) b0 (by rfl) [.int .i64 k, .string sh, x2, x3, x4, x5, x6, x7, x8, x9, x10, x11, x12, x13, x14, x15, x16, x17, x18, x19, x20, x21, x22] (Z1.out.on (Q.refl _).drew) (by rfl) (hK _ _ ?_)
      clear hK K
      refine wpAny_ready (rs := [1]) (by kernel_rfl) (by simp) ?_
      refine AllReady.cons rfl (fun K hK => ?_) AllReady.nil
      go_simp
      refine hK _ _ ?_
      clear hK K
      refine wpAny_ready (rs := [2]) (by kernel_rfl) (by simp) ?_
      refine AllReady.cons rfl (fun K hK => ?_) AllReady.nil
      go_simp
      refine hK _ _ ?_
      clear hK K
      refine wpAny_ready (rs := [3]) (by kernel_rfl) (by simp) ?_
      refine AllReady.cons rfl (fun K hK => ?_) AllReady.nil
      refine step_store_row (by rfl) 40 _ _ (by rfl) w1.heap.size #[.int .i64 k, .string sh, x2, x3, x4, x5, x6, x7, x8, x9, x10, x11, x12, x13, x14, x15, x16, x17, x18, x19, x20, x21, x22] (by rfl) (by rfl) 40 #[.int .i64 0, .string ⟨#[]⟩, .int .i64 0, .int .i64 0, .bool false, .int .i64 0, .int .i64 0, .string ⟨#[]⟩, .bool false, .int .i64 0, .int .i64 0, .int .i64 0, .string ⟨#[]⟩, .bool false, .int .i64 0, .slice none 0 0, .slice none 0 0, .int .i64 0, .int .i64 0, .int .i64 0, .slice none 0 0, .int .i64 0, .string ⟨#[]⟩] (heap_alloc_last w1 _) info35 (by rfl) H0.out (hK _ _ ?_)
      clear hK K
      refine wpAny_done (by kernel_rfl) ?_ _
      rw [set_new]
      exact HF
    · go_simp
      refine hK _ _ ?_
      clear hK K
      refine wpAny_ready (rs := [0, 2]) (by kernel_rfl) (by simp) ?_
      refine AllReady.cons rfl (fun K hK => ?_) (AllReady.cons rfl (fun K hK => ?_) AllReady.nil)
      · refine step_load_row (by rfl) _ (by rfl) b0 (by rfl) [.int .i64 k, .string sh, x2, x3, x4, x5, x6, x7, x8, x9, x10, x11, x12, x13, x14, x15, x16, x17, x18, x19, x20, x21, x22] (Z1.out.on (((Q.refl _).alloc _).drew)) (by rfl) (hK _ _ ?_)
        clear hK K
        refine wpAny_ready (rs := [2]) (by kernel_rfl) (by simp) ?_
        refine AllReady.cons rfl (fun K hK => ?_) AllReady.nil
        go_simp
        refine hK _ _ ?_
        clear hK K
        refine wpAny_ready (rs := [3]) (by kernel_rfl) (by simp) ?_
        refine AllReady.cons rfl (fun K hK => ?_) AllReady.nil
        refine step_store_row (by rfl) 40 _ _ (by rfl) w1.heap.size #[.int .i64 k, .string sh, x2, x3, x4, x5, x6, x7, x8, x9, x10, x11, x12, x13, x14, x15, x16, x17, x18, x19, x20, x21, x22] (by rfl) (by rfl) 40 #[.int .i64 0, .string ⟨#[]⟩, .int .i64 0, .int .i64 0, .bool false, .int .i64 0, .int .i64 0, .string ⟨#[]⟩, .bool false, .int .i64 0, .int .i64 0, .int .i64 0, .string ⟨#[]⟩, .bool false, .int .i64 0, .slice none 0 0, .slice none 0 0, .int .i64 0, .int .i64 0, .int .i64 0, .slice none 0 0, .int .i64 0, .string ⟨#[]⟩] (heap_alloc_last w1 _) info35 (by rfl) H0.out (hK _ _ ?_)
        clear hK K
        refine wpAny_done (by kernel_rfl) ?_ _
        rw [set_new]
        exact HF
      · go_simp
        refine hK _ _ ?_
        clear hK K
        refine wpAny_ready (rs := [0]) (by kernel_rfl) (by simp) ?_
        refine AllReady.cons rfl (fun K hK => ?_) AllReady.nil
        refine step_load_row (by rfl) _ (by rfl) b0 (by rfl) [.int .i64 k, .string sh, x2, x3, x4, x5, x6, x7, x8, x9, x10, x11, x12, x13, x14, x15, x16, x17, x18, x19, x20, x21, x22] (Z1.out.on (((Q.refl _).alloc _).drew)) (by rfl) (hK _ _ ?_)
        clear hK K
        refine wpAny_ready (rs := [3]) (by kernel_rfl) (by simp) ?_
        refine AllReady.cons rfl (fun K hK => ?_) AllReady.nil
        refine step_store_row (by rfl) 40 _ _ (by rfl) w1.heap.size #[.int .i64 k, .string sh, x2, x3, x4, x5, x6, x7, x8, x9, x10, x11, x12, x13, x14, x15, x16, x17, x18, x19, x20, x21, x22] (by rfl) (by rfl) 40 #[.int .i64 0, .string ⟨#[]⟩, .int .i64 0, .int .i64 0, .bool false, .int .i64 0, .int .i64 0, .string ⟨#[]⟩, .bool false, .int .i64 0, .int .i64 0, .int .i64 0, .string ⟨#[]⟩, .bool false, .int .i64 0, .slice none 0 0, .slice none 0 0, .int .i64 0, .int .i64 0, .int .i64 0, .slice none 0 0, .int .i64 0, .string ⟨#[]⟩] (heap_alloc_last w1 _) info35 (by rfl) H0.out (hK _ _ ?_)
        clear hK K
        refine wpAny_done (by kernel_rfl) ?_ _
        rw [set_new]
        exact HF
  have Z2 := hid ((cq_new w1 [.int .i64 k, .string sh, x2, x3, x4, x5, x6, x7, x8, x9, x10, x11, x12, x13, x14, x15, x16, x17, x18, x19, x20, x21, x22]).on (Q.refl _).drew)
  rw [show ([.int .i64 k, .string sh, x2, x3, x4, x5, x6, x7, x8, x9, x10, x11, x12, x13, x14, x15, x16, x17, x18, x19, x20, x21, x22] : List Value).toArray = #[.int .i64 k, .string sh, x2, x3, x4, x5, x6, x7, x8, x9, x10, x11, x12, x13, x14, x15, x16, x17, x18, x19, x20, x21, x22] from rfl] at Z2
  have Z0 := hid (Z1.out.on (((Q.refl w1).alloc (.cells #[.int .i64 k, .string sh, x2, x3, x4, x5, x6, x7, x8, x9, x10, x11, x12, x13, x14, x15, x16, x17, x18, x19, x20, x21, x22] 40)).drew))
  have QB : Hid (Q w ((w1.alloc (.cells #[.int .i64 k, .string sh, x2, x3, x4, x5, x6, x7, x8, x9, x10, x11, x12, x13, x14, x15, x16, x17, x18, x19, x20, x21, x22] 40)).drew)) := hid ((QA.out.alloc _).drew)
  have hb1 : w.heap.size ≤ w1.heap.size := QA.out.size
  have hne : b0 ≠ w1.heap.size := Nat.ne_of_lt Z1.out.l
  generalize (w1.alloc (.cells #[.int .i64 k, .string sh, x2, x3, x4, x5, x6, x7, x8, x9, x10, x11, x12, x13, x14, x15, x16, x17, x18, x19, x20, x21, x22] 40)).drew = w2 at Z0 Z2 QB ⊢
  generalize w1.heap.size = b1x at Z2 hb1 hne ⊢
  clear Z1 QA
  have d0 := Z0.out.c 0 _ rfl
  go_upto_region 17 with fail
  have QV := QB
  have Z1V := Z0
  have Z2V := Z2
  clear d0
  have g0 := Z1V.out.c 0 _ rfl
  have g1 := Z1V.out.c 1 _ rfl
  cases ib with
  | false =>
    go_wp2_with (go_at_call 34; refine (HI.out _ QV.out).mono ?_; rintro e9 y1 ⟨rfl, q9⟩; have QY : Hid (Q w y1) := hid (QV.out.trans q9); clear q9)
    go_ret
    exact ⟨rfl, QY.out⟩
  | true =>
    go_wp2_with (first | (go_at_call 34; refine (HI.out _ QV.out).mono ?_; rintro e9 y1 ⟨rfl, q9⟩; have QY : Hid (Q w y1) := hid (QV.out.trans q9); have Z1Y := hid (Z1V.out.on q9); have Z2Y := hid (Z2V.out.on q9); clear q9; have g0' := Z1Y.out.c 0 _ rfl; have g1' := Z1Y.out.c 1 _ rfl) | (refine wpl_loadg _ (by rfl) (by rfl) b1x (by rfl) [.int .i64 k, .string sh, x2, x3, x4, x5, x6, x7, x8, x9, x10, x11, x12, x13, x14, x15, x16, x17, x18, x19, x20, x21, x22] Z2Y.out (by rfl) ?_) | (refine wpl_buildg _ (by rfl) (by rfl) #[.int .i64 k, .string sh, .int .i64 0, .int .i64 0, .bool false, .int .i64 0, .int .i64 0, .string ⟨#[]⟩, .bool false, .int .i64 0, .int .i64 0, .int .i64 0, .string ⟨#[]⟩, .bool false, .int .i64 0, .slice none 0 0, .slice none 0 0, .int .i64 0, .int .i64 0, .int .i64 0, .slice none 0 0, .int .i64 0, .string ⟨#[]⟩] (by kernel_rfl) ?_) | (go_at_call 35; refine (HE.out _ QY.out).mono ?_; rintro e9 y2 ⟨rfl, q9⟩; have QY2 : Hid (Q w y2) := hid (QY.out.trans q9); clear q9))
    go_ret
    exact ⟨rfl, QY2.out⟩
abbrev rv (sh : ByteArray) (row col : Int) (ra ca : Bool) : Value := .agg #[.string sh, .int .i64 row, .int .i64 col, .bool ra, .bool ca]
theorem Rd.shape {W : World} {x : Ex} {v : Value} (h : Rd W x v) : ∃ k n t b e a1 l1 c1 a2 l2 c2, v = .agg #[.int .i64 k, .int .i64 n, .string t, .bool b, .int .i64 e, .slice a1 l1 c1, .slice a2 l2 c2] := by
  obtain ⟨k, n, t, b, e, rs, ks, rv, kv, ao, cap, rfl, hp⟩ := h.prt
  obtain ⟨ar, cr, hr, _⟩ := hp.rl
  obtain rfl := hp.kl
  subst hr
  exact ⟨_, _, _, _, _, _, _, _, _, _, _, rfl⟩
theorem toL' (s : ByteArray) : s.toList = s.data.toList := Lib.toList_data s
def eqRf : List Rf → List Rf → Bool
  | [], [] => true
  | x :: l, y :: l' => decide (x = y) && eqRf l l'
  | [], _ :: _ => false
  | _ :: _, [] => false
theorem eqRf_iff : ∀ {l l' : List Rf}, eqRf l l' = true ↔ l = l'
  | [], [] => by simp [eqRf]
  | [], _ :: _ => by simp [eqRf]
  | _ :: _, [] => by simp [eqRf]
  | x :: l, y :: l' => by
    simp only [eqRf, Bool.and_eq_true, decide_eq_true_eq, eqRf_iff, List.cons.injEq]
theorem eqRf_len {l l' : List Rf} (h : l.length ≠ l'.length) : eqRf l l' = false := by
  cases e : eqRf l l' with
  | false => rfl
  | true => exact absurd (congrArg List.length (eqRf_iff.1 e)) h
theorem eqRf_dec (l l' : List Rf) : eqRf l l' = decide (l = l') := by
  cases e : eqRf l l' with
  | false => exact (decide_eq_false (fun h => by rw [eqRf_iff.2 h] at e; cases e)).symm
  | true => exact (decide_eq_true (eqRf_iff.1 e)).symm
theorem neq59 (xs : List UInt8) (xr xc : Int) (xa xb : Bool) (ys : List UInt8) (yr yc : Int) (ya yb : Bool) (w : World) : Sem.run Tryz.prog (binOp .neq 46 (.agg #[.string ⟨xs.toArray⟩, .int .i64 xr, .int .i64 xc, .bool xa, .bool xb]) (.agg #[.string ⟨ys.toArray⟩, .int .i64 yr, .int .i64 yc, .bool ya, .bool yb])) w = .ok (.bool (!(decide (((xs, xr, xc, xa, xb) : Rf) = (ys, yr, yc, ya, yb))))) w := by
  have u2 := Tryz.underlying2
  have u4 := Tryz.underlying4
  have u9 := Tryz.underlying9
  have hS : Tryz.prog.underlying 46 = some (.struct (Tryz.prog.fieldsOf 46)) := by kernel_rfl
  have hp : Tryz.prog.stoodInHeld 46 = false := by kernel_rfl
  have hf : (Tryz.prog.fieldsOf 46).toList.map (fun f => (f.name == "_", f.type, f.offset)) = [(false, 9, 0), (false, 2, 1), (false, 2, 2), (false, 4, 3), (false, 4, 4)] := by kernel_rfl
  have q1 : ∀ a b c d e : Value, (part 9 #[a, b, c, d, e] 0).run Tryz.prog w = .ok a w := fun _ _ _ _ _ => by kernel_rfl
  have q2 : ∀ a b c d e : Value, (part 2 #[a, b, c, d, e] 1).run Tryz.prog w = .ok b w := fun _ _ _ _ _ => by kernel_rfl
  have q3 : ∀ a b c d e : Value, (part 2 #[a, b, c, d, e] 2).run Tryz.prog w = .ok c w := fun _ _ _ _ _ => by kernel_rfl
  have q4 : ∀ a b c d e : Value, (part 4 #[a, b, c, d, e] 3).run Tryz.prog w = .ok d w := fun _ _ _ _ _ => by kernel_rfl
  have q5 : ∀ a b c d e : Value, (part 4 #[a, b, c, d, e] 4).run Tryz.prog w = .ok e w := fun _ _ _ _ _ => by kernel_rfl
  have e1 : (Op.equalIn 9999 9 (.string ⟨xs.toArray⟩) (.string ⟨ys.toArray⟩)).run Tryz.prog w = .ok (xs == ys) w := by
    have := run_equalIn_string (P := Tryz.prog) w 9998 9 ⟨xs.toArray⟩ ⟨ys.toArray⟩ u9
    rw [toL', toL'] at this
    exact this
  have e2 : (Op.equalIn 9999 2 (.int .i64 xr) (.int .i64 yr)).run Tryz.prog w = .ok (xr == yr) w := run_equalIn_int (P := Tryz.prog) w 9998 2 .i64 .i64 xr yr u2
  have e3 : (Op.equalIn 9999 2 (.int .i64 xc) (.int .i64 yc)).run Tryz.prog w = .ok (xc == yc) w := run_equalIn_int (P := Tryz.prog) w 9998 2 .i64 .i64 xc yc u2
  have e4 : (Op.equalIn 9999 4 (.bool xa) (.bool ya)).run Tryz.prog w = .ok (xa == ya) w := run_equalIn_bool' (P := Tryz.prog) w 9998 4 xa ya u4
  have e5 : (Op.equalIn 9999 4 (.bool xb) (.bool yb)).run Tryz.prog w = .ok (xb == yb) w := run_equalIn_bool' (P := Tryz.prog) w 9998 4 xb yb u4
  rw [run_neq_struct, show (10000 : Nat) = 9999 + 1 from rfl, run_equalIn_struct w 9999 46 _ _ hS hp]
  generalize (Tryz.prog.fieldsOf 46).toList = fs at hf ⊢
  obtain ⟨f1, r1, rfl, h1, hf⟩ := List.map_eq_cons_iff.1 hf
  obtain ⟨f2, r2, rfl, h2, hf⟩ := List.map_eq_cons_iff.1 hf
  obtain ⟨f3, r3, rfl, h3, hf⟩ := List.map_eq_cons_iff.1 hf
  obtain ⟨f4, r4, rfl, h4, hf⟩ := List.map_eq_cons_iff.1 hf
  obtain ⟨f5, r5, rfl, h5, hf⟩ := List.map_eq_cons_iff.1 hf
  obtain rfl := List.map_eq_nil_iff.1 hf
  simp only [Prod.mk.injEq, beq_eq_false_iff_ne, ne_eq] at h1 h2 h3 h4 h5
  obtain ⟨n1, t1, p1⟩ := h1
  obtain ⟨n2, t2, p2⟩ := h2
  obtain ⟨n3, t3, p3⟩ := h3
  obtain ⟨n4, t4, p4⟩ := h4
  obtain ⟨n5, t5, p5⟩ := h5
  simp only [Op.eqFields, ne_eq, n1, n2, n3, n4, n5, not_false_eq_true, if_true, t1, t2, t3, t4, t5, p1, p2, p3, p4, p5, Sem.run_bind, Sem.run_ite, Sem.run_pure, q1, q2, q3, q4, q5, e1, e2, e3, e4, e5, Result.andThen_ok]
  by_cases h1 : xs = ys
  · by_cases h2 : xr = yr
    · by_cases h3 : xc = yc
      · by_cases h4 : xa = ya
        · by_cases h5 : xb = yb <;> simp [h1, h2, h3, h4, h5]
        · simp [h1, h2, h3, h4]
      · simp [h1, h2, h3]
    · simp [h1, h2]
  · simp [h1]
theorem guard59 (op : BinOp) (a b : Operand) (X Y : Array Value) (w : World) : Sem.run Tryz.prog (eqGuard op 46 a b (.agg X) (.agg Y)) w = .ok () w := run_eqGuard_agg w op 46 a b X Y (by kernel_rfl)
set_option maxHeartbeats 4000000 in
theorem eqrf_any_q (va vb : Value) (A B : List Rf) (w : World) (ha : Sl rf 5 w va A) (hb : Sl rf 5 w vb B) : Calls Tryz.prog 95 #[va, vb] w fun e w' => e = .returned (.bool (eqRf A B)) ∧ ∃ m, w' = w.drewN m := by
  have HA := hid ha
  have HB := hid hb
  obtain ⟨ao, cap, rfl, la, ma⟩ := ha.len
  obtain ⟨ao2, cap2, rfl, lb, mb⟩ := hb.len
  have hA : A.length ≤ 9223372036854775807 := by unfold maxLen at ma; omega
  clear ha hb la ma lb mb
  generalize hT : eqRf A B = T
  have HT := hid hT
  clear hT
  by_cases hl : A.length = B.length
  · have hl' : ((A.length : Int) != (B.length : Int)) = false := by simp [hl]
    go_enter Tryz.func95, Tryz.ntmps95
    go_wp2
    go_loopw [4, 13] (fun _ s W => ∃ (n : Nat), n ≤ A.length ∧ s = .int .i64 n ∧ Hid (∃ q, W = w.drewN q) ∧ Hid (eqRf (A.drop n) (B.drop n) = T)) (fun _ s _ => A.length - (intOf s).toNat)
    case atStart => exact ⟨0, Nat.zero_le _, rfl, ⟨0, rfl⟩, by rw [List.drop_zero, List.drop_zero]; exact HT.out⟩
    case round =>
      obtain ⟨n, hn, rfl, hq, HZ⟩ := hrel
      obtain ⟨q, hwq⟩ := hq.out
      have HW := hid hwq
      have HQ : Hid (Q w wr) := by rw [hwq]; exact (Q.refl _).drewN _
      clear hq hwq
      by_cases hlt : n < A.length
      · have hlt' : (n : Int) < (A.length : Int) := by omega
        have hlt2 : (n : Int) < (B.length : Int) := by omega
        obtain ⟨g, off, cap', e, _, _, hc⟩ := (HA.out.on HQ.out).at hlt
        cases e
        obtain ⟨g2, off2, cap3, e, _, _, hc2⟩ := (HB.out.on HQ.out).at (i := n) (by omega)
        cases e
        rw [List.drop_eq_getElem_cons hlt, List.drop_eq_getElem_cons (show n < B.length by omega), eqRf] at HZ
        generalize A[n] = x at *
        generalize B[n]'(by omega) = y at *
        obtain ⟨xs, xr, xc, xa, xb⟩ := x
        obtain ⟨ys, yr, yc, ya, yb⟩ := y
        have c0 : wr.cell? ⟨g, off + n * 5, none⟩ = some (.string ⟨xs.toArray⟩) := hc 0 _ rfl
        have c1 : wr.cell? ⟨g, off + n * 5 + 1, none⟩ = some (.int .i64 xr) := hc 1 _ rfl
        have c2 : wr.cell? ⟨g, off + n * 5 + 2, none⟩ = some (.int .i64 xc) := hc 2 _ rfl
        have c3 : wr.cell? ⟨g, off + n * 5 + 3, none⟩ = some (.bool xa) := hc 3 _ rfl
        have c4 : wr.cell? ⟨g, off + n * 5 + 4, none⟩ = some (.bool xb) := hc 4 _ rfl
        have d0 : wr.cell? ⟨g2, off2 + n * 5, none⟩ = some (.string ⟨ys.toArray⟩) := hc2 0 _ rfl
        have d1 : wr.cell? ⟨g2, off2 + n * 5 + 1, none⟩ = some (.int .i64 yr) := hc2 1 _ rfl
        have d2 : wr.cell? ⟨g2, off2 + n * 5 + 2, none⟩ = some (.int .i64 yc) := hc2 2 _ rfl
        have d3 : wr.cell? ⟨g2, off2 + n * 5 + 3, none⟩ = some (.bool ya) := hc2 3 _ rfl
        have d4 : wr.cell? ⟨g2, off2 + n * 5 + 4, none⟩ = some (.bool yb) := hc2 4 _ rfl
        clear hc hc2
        have hgd' : ∀ (op : BinOp) (a b : Operand) (w : World), Sem.run Tryz.prog (eqGuard op 46 a b (.agg #[.string ⟨xs.toArray⟩, .int .i64 xr, .int .i64 xc, .bool xa, .bool xb]) (.agg #[.string ⟨ys.toArray⟩, .int .i64 yr, .int .i64 yc, .bool ya, .bool yb])) w = .ok () w := fun op a b w => guard59 op a b _ _ w
        cases hd : decide (((xs, xr, xc, xa, xb) : Rf) = (ys, yr, yc, ya, yb))
        · have HR : Hid (false = T) := by
            have := HZ.out
            simp only [hd, Bool.false_and] at this
            exact this
          clear HZ
          have hne' : ∀ w, Sem.run Tryz.prog (binOp .neq 46 (.agg #[.string ⟨xs.toArray⟩, .int .i64 xr, .int .i64 xc, .bool xa, .bool xb]) (.agg #[.string ⟨ys.toArray⟩, .int .i64 yr, .int .i64 yc, .bool ya, .bool yb])) w = .ok (.bool true) w := fun w => by
            have := neq59 xs xr xc xa xb ys yr yc ya yb w
            rw [hd] at this
            exact this
          clear hd
          go_wp2_with fail
          go_quiet (fail)
          go_wp2_with fail
          go_ret
          exact ⟨ret_bool HR.out, _, by rw [HW.out, World.drewN_drewN]⟩
        · have HZ2 : Hid (eqRf (A.drop (n + 1)) (B.drop (n + 1)) = T) := by
            have := HZ.out
            simp only [hd, Bool.true_and] at this
            exact this
          clear HZ
          have hne' : ∀ w, Sem.run Tryz.prog (binOp .neq 46 (.agg #[.string ⟨xs.toArray⟩, .int .i64 xr, .int .i64 xc, .bool xa, .bool xb]) (.agg #[.string ⟨ys.toArray⟩, .int .i64 yr, .int .i64 yc, .bool ya, .bool yb])) w = .ok (.bool false) w := fun w => by
            have := neq59 xs xr xc xa xb ys yr yc ya yb w
            rw [hd] at this
            exact this
          clear hd
          go_wp2_with fail
          go_quiet (fail)
          go_wp2_with fail
          go_roundw
          case rel => exact ⟨n + 1, by omega, by go_num, ⟨_, by rw [HW.out, World.drewN_drewN]⟩, HZ2⟩
          case measure => simp [intOf]; omega
      · have hlt' : ¬ (n : Int) < (A.length : Int) := by omega
        have HR : Hid (true = T) := by
          have := HZ.out
          rw [List.drop_eq_nil_of_le (by omega), List.drop_eq_nil_of_le (by omega)] at this
          exact this
        clear HZ
        go_wp2_with fail
        go_ret
        exact ⟨ret_bool HR.out, q, HW.out⟩
  · have hl' : ((A.length : Int) != (B.length : Int)) = true := by simp; omega
    have HR : Hid (false = T) := by show _ = _; rw [← HT.out, eqRf_len hl]
    go_enter Tryz.func95, Tryz.ntmps95
    go_wp2
    go_ret
    exact ⟨ret_bool HR.out, 0, rfl⟩
abbrev Ky := Nat × Nat × Nat × Nat × Nat
def kyV (k : Ky) : Value := .agg #[.pointer (some ⟨k.1, k.2.1, none⟩), .pointer (some ⟨k.2.2.1, k.2.2.2.1, none⟩), .int .i64 (k.2.2.2.2 : Int)]
def KyP (W : World) (k : Ky) : Prop := Pl W k.1 ∧ Pl W k.2.2.1
theorem info28' : ∃ j, Tryz.prog.info? 35 = some j ∧ j.size ≠ 0 := by
  cases h : Tryz.prog.info? 35 with
  | none =>
    have : (Tryz.prog.info? 35).isSome = true := by kernel_rfl
    rw [h] at this
    cases this
  | some j =>
    refine ⟨j, rfl, ?_⟩
    have : ((Tryz.prog.info? 35).map (fun i => i.size)) = some 7 := by kernel_rfl
    rw [h] at this
    simp at this
    omega
theorem run_ptr (W : World) (d : Nat) (a b : Addr) (ha : Pl W a.block) (hb : Pl W b.block) : (Op.equalIn (d + 1) 84 (.pointer (some a)) (.pointer (some b))).run Tryz.prog W = .ok (decide (a = b)) W := by
  obtain ⟨j, hj, hs⟩ := info28'
  obtain ⟨ca, ta, ha⟩ := ha
  obtain ⟨cb, tb, hb⟩ := hb
  have hu : Tryz.prog.underlying 84 = some (.pointer 35) := Tryz.underlying84
  by_cases h : a = b
  · subst h
    simp [Op.equalIn, run_underlying hu, sizeOf, typeInfo, hj, hs, run_sameAddr_same]
  · simp [Op.equalIn, run_underlying hu, sizeOf, typeInfo, hj, hs, run_sameAddr_other W h ha hb, h]
theorem key_eq (W : World) (k k' : Ky) (h : KyP W k) (h' : KyP W k') : (Op.equal 125 (kyV k) (kyV k')).run Tryz.prog W = .ok (decide (k = k')) W := by
  obtain ⟨b1, o1, b2, o2, n⟩ := k
  obtain ⟨c1, p1, c2, p2, m⟩ := k'
  have e1 : (Op.equalIn 9999 84 (.pointer (some ⟨b1, o1, none⟩)) (.pointer (some ⟨c1, p1, none⟩))).run Tryz.prog W = .ok (decide (b1 = c1 ∧ o1 = p1)) W := by
    have := run_ptr W 9998 ⟨b1, o1, none⟩ ⟨c1, p1, none⟩ h.1 h'.1
    simpa using this
  have e2 : (Op.equalIn 9999 84 (.pointer (some ⟨b2, o2, none⟩)) (.pointer (some ⟨c2, p2, none⟩))).run Tryz.prog W = .ok (decide (b2 = c2 ∧ o2 = p2)) W := by
    have := run_ptr W 9998 ⟨b2, o2, none⟩ ⟨c2, p2, none⟩ h.2 h'.2
    simpa using this
  have e3 : (Op.equalIn 9999 3 (.int .i64 (n : Int)) (.int .i64 (m : Int))).run Tryz.prog W = .ok ((n : Int) == (m : Int)) W := run_equalIn_int (P := Tryz.prog) W 9998 3 .i64 .i64 (n : Int) (m : Int) Tryz.underlying3
  have hf : (Tryz.prog.fieldsOf 125).toList.map (fun f => (f.name == "_", f.type, f.offset)) = [(false, 84, 0), (false, 84, 1), (false, 3, 2)] := by kernel_rfl
  have hu : Tryz.prog.underlying 125 = some (.struct (Tryz.prog.fieldsOf 125)) := by kernel_rfl
  have hp : Tryz.prog.stoodInHeld 125 = false := by kernel_rfl
  unfold Op.equal Op.maxDepth kyV
  rw [run_equalIn_struct W 9999 125 _ _ hu hp]
  have q1 : ∀ x y z : Value, (part 84 #[x, y, z] 0).run Tryz.prog W = .ok x W := fun _ _ _ => by kernel_rfl
  have q2 : ∀ x y z : Value, (part 84 #[x, y, z] 1).run Tryz.prog W = .ok y W := fun _ _ _ => by kernel_rfl
  have q3 : ∀ x y z : Value, (part 3 #[x, y, z] 2).run Tryz.prog W = .ok z W := fun _ _ _ => by kernel_rfl
  generalize (Tryz.prog.fieldsOf 125).toList = fs at hf ⊢
  obtain ⟨f1, r1, rfl, h1, hf⟩ := List.map_eq_cons_iff.1 hf
  obtain ⟨f2, r2, rfl, h2, hf⟩ := List.map_eq_cons_iff.1 hf
  obtain ⟨f3, r3, rfl, h3, hf⟩ := List.map_eq_cons_iff.1 hf
  obtain rfl := List.map_eq_nil_iff.1 hf
  simp only [Prod.mk.injEq, beq_eq_false_iff_ne, ne_eq] at h1 h2 h3
  obtain ⟨n1, t1, o1'⟩ := h1
  obtain ⟨n2, t2, o2'⟩ := h2
  obtain ⟨n3, t3, o3'⟩ := h3
  simp only [Op.eqFields, ne_eq, n1, n2, n3, not_false_eq_true, if_true, t1, t2, t3, o1', o2', o3', Sem.run_bind, Sem.run_ite, Sem.run_pure, q1, q2, q3, e1, e2, e3, Result.andThen_ok]
  by_cases g1 : b1 = c1 ∧ o1 = p1
  · by_cases g2 : b2 = c2 ∧ o2 = p2
    · by_cases g3 : n = m
      · simp [g1, g2, g3]
      · have : ((n : Int) == (m : Int)) = false := by rw [beq_eq_false_iff_ne]; omega
        simp [g1, g2, g3, this]
    · have : ¬ (b2 = c2 ∧ o2 = p2 ∧ n = m) := fun h => g2 ⟨h.1, h.2.1⟩
      simp [g1, g2, this]
  · have : ¬ (b1 = c1 ∧ o1 = p1 ∧ b2 = c2 ∧ o2 = p2 ∧ n = m) := fun h => g1 ⟨h.1, h.2.1⟩
    simp [g1, this]
def MapK (W : World) (b : Nat) (ks : List Ky) : Prop := ∃ es clock, W.heap[b]? = some (.map es clock) ∧ es.toList.map (fun e => (e.key, e.val)) = ks.map (fun k => (kyV k, Value.agg #[]))
theorem find_keys (W : World) (k : Ky) (hk : KyP W k) : ∀ (ks : List Ky) (es : List MapEntry) (i : Nat), es.map (fun e => (e.key, e.val)) = ks.map (fun k => (kyV k, Value.agg #[])) → (∀ x ∈ ks, KyP W x) →
    ∃ r, (Instr.findAsking 125 (kyV k) es i).run Tryz.prog W = .ok r W ∧ (k ∈ ks → ∃ j, r = some (j, .agg #[])) ∧ (k ∉ ks → r = none)
  | [], es, i, he, _ => by
    have : es = [] := by simpa using he
    subst this
    exact ⟨none, by simp [Instr.findAsking], fun h => absurd h (by simp), fun _ => rfl⟩
  | x :: xs, es, i, he, hp => by
    cases es with
    | nil => simp at he
    | cons e es =>
      simp only [List.map_cons, List.cons.injEq, Prod.mk.injEq] at he
      obtain ⟨⟨h1, h2⟩, h3⟩ := he
      have hx := key_eq W k x hk (hp x (by simp))
      by_cases h : k = x
      · refine ⟨some (i, e.val), ?_, fun _ => ⟨i, by rw [h2]⟩, fun hn => absurd (by simp [h]) hn⟩
        simp only [Instr.findAsking, Sem.run_bind, h1, hx, Result.andThen_ok]
        simp [h]
      · obtain ⟨r, hr, hy, hn⟩ := find_keys W k hk xs es (i + 1) h3 (fun y hy => hp y (by simp [hy]))
        refine ⟨r, ?_, fun hm => hy (by simpa [h] using hm), fun hm => hn (fun h' => hm (by simp [h']))⟩
        simp only [Instr.findAsking, Sem.run_bind, h1, hx, Result.andThen_ok]
        simp [h, hr]
theorem find_key (W : World) (k : Ky) (hk : KyP W k) (ks : List Ky) (es : List MapEntry) (he : es.map (fun e => (e.key, e.val)) = ks.map (fun k => (kyV k, Value.agg #[]))) (hp : ∀ x ∈ ks, KyP W x) :
    ∃ r, (Instr.findKey 125 (kyV k) es).run Tryz.prog W = .ok r W ∧ (k ∈ ks → ∃ j, r = some (j, .agg #[])) ∧ (k ∉ ks → r = none) := by
  have hu : Tryz.prog.underlying 125 = some (.struct (Tryz.prog.fieldsOf 125)) := by kernel_rfl
  cases ks with
  | nil =>
    have : es = [] := by simpa using he
    subst this
    refine ⟨none, ?_, fun h => absurd h (by simp), fun _ => rfl⟩
    simp [Instr.findKey, run_underlying hu, Instr.findNow]
  | cons x xs =>
    obtain ⟨r, hr, hy, hn⟩ := find_keys W k hk (x :: xs) es 0 he hp
    refine ⟨r, ?_, hy, hn⟩
    cases es with
    | nil => simp at he
    | cons e es =>
      have hnow : Instr.findNow (.struct (Tryz.prog.fieldsOf 125)) (kyV k) (e :: es) 0 = none := by
        unfold Instr.findNow kyV
        simp [Instr.sameNow]
      simp only [Instr.findKey, Sem.run_bind, run_underlying hu, Result.andThen_ok, hnow]
      exact hr
theorem check_key (W : World) (k : Ky) (b : Bool) : (Instr.checkKey b 10000 125 (kyV k)).run Tryz.prog W = .ok () W := by
  unfold kyV
  cases b <;> kernel_rfl
theorem MapK.lookup {W : World} {b : Nat} {ks : List Ky} (h : MapK W b ks) (k : Ky) (hk : KyP W k) (hp : ∀ x ∈ ks, KyP W x) :
    (Instr.lookup 120 (.map (some b)) (kyV k) true).run Tryz.prog W = .ok (.tuple #[.agg #[], .bool (decide (k ∈ ks))]) W := by
  obtain ⟨es, clock, hb, he⟩ := h
  obtain ⟨r, hr, hy, hn⟩ := find_key W k hk ks es.toList he hp
  have hu : Tryz.prog.underlying 120 = some (.map 125 122) := Tryz.underlying120
  have hz : (zeroValue 122).run Tryz.prog W = .ok (.agg #[]) W := by kernel_rfl
  have hc := check_key W k es.isEmpty
  by_cases hm : k ∈ ks
  · obtain ⟨j, rfl⟩ := hy hm
    simp [Instr.lookup, run_underlying hu, MapKept.run_getObj_map hb, hc, hr, hm]
  · rw [hn hm] at hr
    simp [Instr.lookup, run_underlying hu, MapKept.run_getObj_map hb, hc, hr, hm, hz]
theorem MapK.update {W : World} {b : Nat} {ks : List Ky} (h : MapK W b ks) (k : Ky) (hk : KyP W k) (hp : ∀ x ∈ ks, KyP W x) (hn : k ∉ ks) :
    ∃ W', (Instr.mapUpdate 120 (.map (some b)) (kyV k) (.agg #[])).run Tryz.prog W = .ok () W' ∧ MapK W' b (ks ++ [k]) ∧ W.grownBy W' (some b) := by
  obtain ⟨es, clock, hb, he⟩ := h
  obtain ⟨r, hr, _, hnn⟩ := find_key W k hk ks es.toList he hp
  have hu : Tryz.prog.underlying 120 = some (.map 125 122) := Tryz.underlying120
  have hc := check_key W k false
  rw [hnn hn] at hr
  refine ⟨ChangeMaps.setBlock W b (.map (es.push { key := kyV k, val := .agg #[], born := clock }) (clock + 1)), ?_, ⟨_, _, ChangeMaps.heap_setBlock_same hb _, by simp [he]⟩, ⟨rfl, rfl, rfl, by simp [ChangeMaps.setBlock], fun i _ hi => ChangeMaps.heap_setBlock_other hb _ (fun e => hi (by rw [e]))⟩⟩
  simp [Instr.mapUpdate, run_underlying hu, MapKept.run_getObj_map hb, hc, hr, MapKept.run_setObj_map _ hb, ChangeMaps.setBlock]
set_option maxHeartbeats 4000000 in
theorem key_any (b1 o1 b2 o2 n c1 c2 : Nat) (hn : 0 < n) (W : World) : Calls Tryz.prog 71 #[.agg #[.slice (some ⟨b1, o1, none⟩) n c1, .slice (some ⟨b2, o2, none⟩) n c2]] W fun e W' => e = .returned (kyV (b1, o1, b2, o2, n)) ∧ Q W W' := by
  have hn' : (0 : Int) < (n : Int) := by omega
  go_enter Tryz.func71, Tryz.ntmps71
  go_wp2_with fail
  go_region
  go_wp2_with fail
  refine bodyPost_ret (v := kyV (b1, o1, b2, o2, n)) (by simp [results, Tryz.results71, go_sem, kyV]) rfl ⟨rfl, ?_⟩
  repeat (first | with_reducible exact Q.refl _ | with_reducible refine Q.drewN ?_ _ | with_reducible refine Q.drew ?_ | with_reducible refine Q.alloc ?_ _ | with_reducible refine Q.setCell ?_ (by simp) _)
theorem setRow_self (w : World) (g : Nat) (cur : Array Value) (t : TypeId) (fr : Nat × Nat) (hg : w.heap[g]? = some (.cells cur t fr)) : w.setRow g cur = w := by
  have hlt : g < w.heap.size := (Array.getElem?_eq_some_iff.1 hg).1
  have hv : w.heap[g] = .cells cur t fr := (Array.getElem?_eq_some_iff.1 hg).2
  unfold World.setRow
  have k : ∀ h : Array Obj, h = w.heap → ({ w with heap := h } : World) = w := by rintro _ rfl; rfl
  apply k
  apply Array.ext
  · simp
  · intro i h1 h2
    rw [Array.getElem_modify]
    split
    · rename_i h
      subst h
      simp [hv]
    · rfl
theorem splice_self (l news : List Value) (p : Nat) (h : ∀ j, j < news.length → l[p + j]? = news[j]?) (hp : p + news.length ≤ l.length) : l.take p ++ news ++ l.drop (p + news.length) = l := by
  apply List.ext_getElem?
  intro j
  by_cases h1 : j < p
  · rw [List.getElem?_append_left (by simp; omega), List.getElem?_append_left (by simp; omega), List.getElem?_take_of_lt h1]
  · by_cases h2 : j < p + news.length
    · rw [List.getElem?_append_left (by simp; omega), List.getElem?_append_right (by simp; omega)]
      rw [List.length_take, Nat.min_eq_left (by omega), ← h (j - p) (by omega), show p + (j - p) = j by omega]
    · rw [List.getElem?_append_right (by simp; omega), List.getElem?_drop]
      congr 1
      simp
      omega
theorem run_append_same {P : Program} (w : World) (t ty e : TypeId) (i : TypeInfo) (ht : P.underlying t = some (.slice e)) (hi : P.info? e = some i) (size : Nat) (hsize : i.size = size)
    (g s cap : Nat) (cur : Array Value) (hg : w.heap[g]? = some (.cells cur e (0, 0)))
    (ad : Addr) (m c : Nat) (news : List Value) (hl : news.length = m * size) (hnews : ∀ j u, news[j]? = some u → w.cell? (ad.add j) = some u) (h1 : ∀ u ∈ news, u.oneCell' = true)
    (hroom : s + m ≤ cap) (hfit : s * size + news.length ≤ cur.size) (hsame : ∀ j, j < news.length → cur.toList[s * size + j]? = news[j]?) :
    (Builtin.append_ #[t, t] ty #[.slice (some ⟨g, 0, none⟩) s cap, .slice (some ad) m c]).run P w = .ok (.slice (some ⟨g, 0, none⟩) (s + m) cap) w := by
  subst hsize
  rw [run_append_room w t ty e i ht hi g s cap cur hg ad m c news hl hnews h1 hroom hfit, splice_self _ _ _ hsame (by simpa using hfit), Array.toArray_toList, setRow_self w g cur e (0, 0) hg]
theorem wpl_append_same {P : Program} (w : World) {ops : Array Oper} {rest : List Oper} {o : Oper} {a : Act} {Q : Exit → Act → World → Prop} (hgd : o.guard = none) (x y : Operand) (t : TypeId)
    (ho : o.op = .call { callee := .builtin .append, args := #[x, y], argTypes := #[t, t] })
    (e : TypeId) (i : TypeInfo) (size : Nat) (ht : P.underlying t = some (.slice e)) (hi : P.info? e = some i) (hsize : i.size = size)
    (g s cap : Nat) (cur : Array Value) (hx : a.eval x = .slice (some ⟨g, 0, none⟩) s cap) (hg : w.heap[g]? = some (.cells cur e (0, 0)))
    (ad : Addr) (m c : Nat) (news : List Value) (hy : a.eval y = .slice (some ad) m c) (hl : news.length = m * size) (hnews : ∀ j u, news[j]? = some u → w.cell? (ad.add j) = some u) (h1 : ∀ u ∈ news, u.oneCell' = true)
    (hroom : s + m ≤ cap) (hfit : s * size + news.length ≤ cur.size) (hsame : ∀ j, j < news.length → cur.toList[s * size + j]? = news[j]?)
    (h : wpList P ops Q rest (a.put o.dst (.slice (some ⟨g, 0, none⟩) (s + m) cap)) w) : wpList P ops Q (o :: rest) a w :=
  wpList_plain hgd fun _ hK => by
    unfold Oper.wp execOp
    simp only [ho, resolve, invoke, builtin, Sem.run_bind, Sem.run_pure, Result.andThen_ok, List.map_toArray, List.map_cons, List.map_nil, hx, hy, run_append_same w t o.type e i ht hi size hsize g s cap cur hg ad m c news hl hnews h1 hroom hfit hsame]
    exact hK _ _ h
theorem own_block {α : Type} {enc : α → List Value} {e : TypeId} {k B : Nat} {W : World} {g n cap : Nat} {L : List α} (h : Own enc e k B W (.slice (some ⟨g, 0, none⟩) n cap) L) :
    n = L.length ∧ ∃ cur, W.heap[g]? = some (.cells cur e (0, 0)) ∧ L.length ≤ cap ∧ cap ≤ maxLen ∧ cur.size = cap * k ∧ cur.toList.take (L.length * k) = flat enc L := by
  unfold Own at h
  obtain ⟨h1, h2⟩ := h
  rcases h2 with ⟨h3, _⟩ | ⟨g', cap', cur, hv, hb, hg, hn, hc, hs, ht⟩
  · cases h3
  · cases hv
    exact ⟨rfl, cur, hg, hn, hc, hs, by first | exact ht | exact ht.1⟩
theorem own_same {α : Type} {enc : α → List Value} {e : TypeId} {k B : Nat} (hk : ∀ x, (enc x).length = k) {W : World} {g n cap : Nat} {L : List α} (h : Own enc e k B W (.slice (some ⟨g, 0, none⟩) n cap) L) :
    ∃ cur, W.heap[g]? = some (.cells cur e (0, 0)) ∧ cur.size = cap * k ∧ L.length ≤ cap ∧ ∀ s m, s + m ≤ L.length → s * k + (flat enc ((L.drop s).take m)).length ≤ cur.size ∧ ∀ j, j < (flat enc ((L.drop s).take m)).length → cur.toList[s * k + j]? = (flat enc ((L.drop s).take m))[j]? := by
  obtain ⟨hn, cur, hg, h1, h2, h3, h4⟩ := own_block h
  refine ⟨cur, hg, h3, h1, fun s m hsm => ?_⟩
  have hl : (flat enc ((L.drop s).take m)).length = m * k := by
    rw [flat_len enc hk, List.length_take, List.length_drop, Nat.min_eq_left (by omega)]
  have hle : s * k + m * k ≤ L.length * k := by rw [← Nat.add_mul]; exact Nat.mul_le_mul_right k hsm
  have hle2 : L.length * k ≤ cap * k := Nat.mul_le_mul_right k h1
  refine ⟨by omega, fun j hj => ?_⟩
  rw [hl] at hj
  have e1 : cur.toList[s * k + j]? = (cur.toList.take (L.length * k))[s * k + j]? := by rw [List.getElem?_take_of_lt (by omega)]
  rw [e1, h4]
  have hL : flat enc L = flat enc (L.take s) ++ (flat enc ((L.drop s).take m) ++ flat enc (L.drop (s + m))) := by
    rw [← flat_append, ← flat_append, ← List.drop_drop, List.take_append_drop, List.take_append_drop]
  have hls : (flat enc (L.take s)).length = s * k := by rw [flat_len enc hk, List.length_take, Nat.min_eq_left (by omega)]
  rw [hL, List.getElem?_append_right (by omega), hls, Nat.add_sub_cancel_left, List.getElem?_append_left (by omega)]
theorem allL_no (s : ByteArray) (k : Nat) (h : k < s.size) (hd : let1 s[k] = false) : allL s.data.toList = false := by
  unfold allL
  rw [List.all_eq_false]
  exact ⟨s[k], get_mem s k h, by simp [hd]⟩
end Go.Proofs.YthebfhdpofhmpaaGreatDoor
namespace Go.Proofs.YthebfhdpofhmpaaGreatDoor.V
open Go.RowKit
theorem take_snoc (s : ByteArray) (k : Nat) (h : k < s.size) : s.data.toList.take (k + 1) = s.data.toList.take k ++ [s[k]] := by
  rw [List.take_succ_eq_append_getElem (by simpa using h)]; rfl
theorem take_all (s : ByteArray) (k : Nat) (h : s.size ≤ k) : s.data.toList.take k = s.data.toList :=
  List.take_of_length_le (by simpa using h)
theorem size_mk (l : List UInt8) : (⟨l.toArray⟩ : ByteArray).size = l.length := by simp [ByteArray.size]
end Go.Proofs.YthebfhdpofhmpaaGreatDoor.V
namespace Go.Proofs.YthebfhdpofhmpaaGreatDoor
open Go.RowKit
structure Bx (w W : World) (c0 c1 c2 c3 c4 c5 c6 : Value) : Prop where
  q : Q w W
  lt : w.heap.size < W.heap.size
  g0 : W.cell? ⟨w.heap.size, 0, none⟩ = some c0
  g1 : W.cell? ⟨w.heap.size, 1, none⟩ = some c1
  g2 : W.cell? ⟨w.heap.size, 2, none⟩ = some c2
  g3 : W.cell? ⟨w.heap.size, 3, none⟩ = some c3
  g4 : W.cell? ⟨w.heap.size, 4, none⟩ = some c4
  g5 : W.cell? ⟨w.heap.size, 5, none⟩ = some c5
  g6 : W.cell? ⟨w.heap.size, 6, none⟩ = some c6
theorem Bx.start (w : World) (c0 c1 c2 c3 c4 c5 c6 : Value) (t : TypeId) : Bx w (w.alloc (.cells #[c0, c1, c2, c3, c4, c5, c6] t)) c0 c1 c2 c3 c4 c5 c6 := by
  refine ⟨(Q.refl _).alloc _, by simp, ?_, ?_, ?_, ?_, ?_, ?_, ?_⟩
  all_goals simp [World.cell?_alloc_new]
theorem Bx.on {w W W' : World} {c0 c1 c2 c3 c4 c5 c6 : Value} (h : Bx w W c0 c1 c2 c3 c4 c5 c6) (q : Q W W') : Bx w W' c0 c1 c2 c3 c4 c5 c6 :=
  ⟨h.q.trans q, q.lt h.lt, (q.cell h.lt).trans h.g0, (q.cell h.lt).trans h.g1, (q.cell h.lt).trans h.g2, (q.cell h.lt).trans h.g3, (q.cell h.lt).trans h.g4, (q.cell h.lt).trans h.g5, (q.cell h.lt).trans h.g6⟩
theorem kid_size {k n : Int} {t : List UInt8} {b : Bool} {e : Int} {rs : List Rf} {ks : List Ex} (i : Nat) (h : i < ks.length) : SizeOf.sizeOf ks[i] < SizeOf.sizeOf (Ex.mk k n t b e rs ks) := by
  have := List.sizeOf_lt_of_mem (List.getElem_mem h)
  simp
  omega
theorem Qx.own {p : Nat} {a w : World} (h : Qx p a w) (k : Nat) (v : Value) : Qx p a (w.setCell ⟨p, k, none⟩ v) :=
  h.trans ⟨rfl, rfl, rfl, by simp [World.setCell], fun i hi hp => Below.heap_setCell _ _ _ _ (fun e => hp (by simp [e]))⟩
theorem toL (s : ByteArray) : s.toList = s.data.toList := Lib.toList_data s
def mayR (sh : List UInt8) (row col : Int) : Bool := (sh.isEmpty || idB sh) && (decide (0 ≤ row ∧ row < 2199023255552) && decide (0 ≤ col ∧ col < 2199023255552))
end Go.Proofs.YthebfhdpofhmpaaGreatDoor
namespace Go.Proofs.YthebfhdpofhmpaaGreatDoor
open Go.RowKit Go.Sort
theorem dec_small {m : Nat} (h : m < 10) : Lib.decDigits m = [UInt8.ofNat (48 + m % 10)] := by
  rw [Lib.decDigits_one h, Nat.mod_eq_of_lt h]
theorem nDigits_le (N : Nat) (h : N < 18446744073709551616) : Lib.nDigits N ≤ 20 := by
  rcases Nat.eq_zero_or_pos N with h0 | h0
  · subst h0
    have h1 := congrArg List.length (dec_small (m := 0) (by omega))
    rw [Lib.decDigits_length] at h1
    have h2 : ([UInt8.ofNat (48 + 0 % 10)] : List UInt8).length = 1 := rfl
    omega
  · have := Lib.numDigits_eq N h0 h
    split at this <;> omega
theorem Q.grow (w : World) (k : Nat) (os : Array Obj) : Q w (grow (w.drewN k) os) := by
  refine Q.trans ((Q.refl w).drewN k) ?_
  refine ⟨rfl, rfl, rfl, by simp [Go.Sort.grow], fun i hi => ?_⟩
  show ((w.drewN k).heap ++ os)[i]? = (w.drewN k).heap[i]?
  rw [Array.getElem?_append_left hi]
def shX (sh : List UInt8) : List UInt8 := if sh.isEmpty then [] else sh ++ [33]
def prL (sh : List UInt8) (row col : Int) (ra ca : Bool) : List UInt8 := (((shX sh ++ sgS ca) ++ cnL col) ++ sgS ra) ++ Lib.decDigits (row + 1).toNat
def prR (sh : List UInt8) (row col : Int) (ra ca : Bool) : List UInt8 := if mayR sh row col then prL sh row col ra ca else []
theorem sg_len (b : Bool) : (sgS b).length ≤ 1 := by cases b <;> decide
theorem cn_len (n : Int) : (cnL n).length ≤ 9 := by
  unfold cnL
  split
  · exact nm_nine _ (by omega)
  · simp
theorem shX_len (l : List UInt8) : (shX l).length ≤ l.length + 1 := by
  unfold shX
  split
  · simp
  · simp
theorem dec_len (u : Nat) (h : u ≤ 2199023255552) : (Lib.decDigits u).length ≤ 20 := by
  rw [Lib.decDigits_length]
  exact nDigits_le u (by omega)
structure Cat (SH SA NM SB DC X1 X2 X3 X4 : ByteArray) : Prop where
  e1 : SH ++ SA = X1
  e2 : X1 ++ NM = X2
  e3 : X2 ++ SB = X3
  e4 : X3 ++ DC = X4
  z0 : SH.size ≤ 100000
  z1 : X1.size ≤ 100000
  z2 : X2.size ≤ 100000
  z3 : X3.size ≤ 100000
  z4 : X4.size ≤ 100000
  y1 : SA.size ≤ 100000
  y2 : NM.size ≤ 100000
  y3 : SB.size ≤ 100000
  y4 : DC.size ≤ 100000
theorem cat_of (sh : List UInt8) (row col : Int) (ra ca : Bool) (hs : sh.length ≤ 1000) (r0 : 0 ≤ row) (r1 : row < 2199023255552) :
    ∃ X1 X2 X3, Cat ⟨(shX sh).toArray⟩ ⟨(sgS ca).toArray⟩ ⟨(cnL col).toArray⟩ ⟨(sgS ra).toArray⟩ ⟨(Lib.decDigits (row + 1).toNat).toArray⟩ X1 X2 X3 ⟨(prL sh row col ra ca).toArray⟩ := by
  have h1 := shX_len sh
  have h2 := sg_len ca
  have h3 := sg_len ra
  have h4 := cn_len col
  have h5 := dec_len (row + 1).toNat (by omega)
  refine ⟨⟨(shX sh ++ sgS ca).toArray⟩, ⟨((shX sh ++ sgS ca) ++ cnL col).toArray⟩, ⟨(((shX sh ++ sgS ca) ++ cnL col) ++ sgS ra).toArray⟩, bytes_cat _ _, bytes_cat _ _, bytes_cat _ _, bytes_cat _ _, ?_, ?_, ?_, ?_, ?_, ?_, ?_, ?_, ?_⟩
  all_goals
    rw [size_mk]
    try unfold prL
    try simp only [List.length_append]
    omega
theorem fmt_any (n : Int) (w : World) (hw : Lib.TabIs Tryz.prog w "internal/strconv.uint64pow10" .u64 Lib.pow10Tab) (n0 : 0 ≤ n) (n1 : n ≤ 2199023255552) :
    Calls Tryz.prog 153 #[.int .i64 n, .int .i64 10] w fun e w' => e = .returned (.string ⟨(Lib.decDigits n.toNat).toArray⟩) ∧ Q w w' := by
  refine (Tryz.strconv_FormatInt_10 n (by omega) (by omega) w hw).mono ?_
  rintro e w' ⟨rfl, k, os, rfl⟩
  refine ⟨ret_str ?_, Q.grow w k os⟩
  obtain ⟨m, rfl⟩ := Int.eq_ofNat_of_zero_le n0
  rfl
structure PB (w W : World) (sh : ByteArray) (row col : Int) (ra ca : Bool) : Prop where
  q : Q w W
  c0 : W.cell? ⟨w.heap.size, 0, none⟩ = some (.string sh)
  c1 : W.cell? ⟨w.heap.size, 1, none⟩ = some (.int .i64 row)
  c2 : W.cell? ⟨w.heap.size, 2, none⟩ = some (.int .i64 col)
  c3 : W.cell? ⟨w.heap.size, 3, none⟩ = some (.bool ra)
  c4 : W.cell? ⟨w.heap.size, 4, none⟩ = some (.bool ca)
theorem PB.start (w : World) (sh : ByteArray) (row col : Int) (ra ca : Bool) : PB w (w.alloc (.cells #[.string sh, .int .i64 row, .int .i64 col, .bool ra, .bool ca] 46)) sh row col ra ca := by
  refine ⟨(Q.refl _).alloc _, ?_, ?_, ?_, ?_, ?_⟩ <;> (rw [World.cell?_alloc_new]; rfl)
theorem PB.on {w W W' : World} {sh : ByteArray} {row col : Int} {ra ca : Bool} (h : PB w W sh row col ra ca) (q : Q W W') : PB w W' sh row col ra ca := by
  have hb : w.heap.size < W.heap.size := World.block_lt_of_cell? W ⟨w.heap.size, 0, none⟩ h.c0
  exact ⟨h.q.trans q, by rw [q.cell hb]; exact h.c0, by rw [q.cell hb]; exact h.c1, by rw [q.cell hb]; exact h.c2, by rw [q.cell hb]; exact h.c3, by rw [q.cell hb]; exact h.c4⟩
end Go.Proofs.YthebfhdpofhmpaaGreatDoor
namespace Go.Proofs.YthebfhdpofhmpaaGreatDoor
open Go.RowKit
structure Tb (W : World) (q : Nat) (c0 c1 c2 c3 c4 c5 c6 : Value) : Prop where
  g0 : W.cell? ⟨q, 0, none⟩ = some c0
  g1 : W.cell? ⟨q, 1, none⟩ = some c1
  g2 : W.cell? ⟨q, 2, none⟩ = some c2
  g3 : W.cell? ⟨q, 3, none⟩ = some c3
  g4 : W.cell? ⟨q, 4, none⟩ = some c4
  g5 : W.cell? ⟨q, 5, none⟩ = some c5
  g6 : W.cell? ⟨q, 6, none⟩ = some c6
  f : ∀ j, W.frozen? ⟨q, j, none⟩ = false
theorem Tb.on {p : Nat} {W W' : World} {q : Nat} {c0 c1 c2 c3 c4 c5 c6 : Value} (h : Tb W q c0 c1 c2 c3 c4 c5 c6) (x : Qx p W W') (hq : q ≠ p) : Tb W' q c0 c1 c2 c3 c4 c5 c6 := by
  have hl : q < W.heap.size := World.block_lt_of_cell? W ⟨q, 0, none⟩ h.g0
  exact ⟨(x.cell hl hq).trans h.g0, (x.cell hl hq).trans h.g1, (x.cell hl hq).trans h.g2, (x.cell hl hq).trans h.g3, (x.cell hl hq).trans h.g4, (x.cell hl hq).trans h.g5, (x.cell hl hq).trans h.g6, fun j => (x.frozen hl hq).trans (h.f j)⟩
theorem tb_new (W : World) (c0 c1 c2 c3 c4 c5 c6 : Value) (t : TypeId) : Tb (W.alloc (.cells #[c0, c1, c2, c3, c4, c5, c6] t)) W.heap.size c0 c1 c2 c3 c4 c5 c6 := by
  refine ⟨?_, ?_, ?_, ?_, ?_, ?_, ?_, fun j => ?_⟩
  all_goals simp [World.cell?_alloc_new, World.frozen?_alloc_new]
end Go.Proofs.YthebfhdpofhmpaaGreatDoor
