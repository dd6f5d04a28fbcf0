/- a1.Owner, Id: what each returns; counterpaneref5.Col: what i. -/
import Derived.Test.YtcgddnliiondoaaGreatDoorKq00
import Derived.Laws.AppendOwn
import Derived.Laws.AppendOwnNone
import Derived.Laws.OwnMore
import Derived.OneCell
import Derived.BigQuiet
import Derived.Laws.StructEq
import Derived.Maps.OwnSet
import Derived.LaidEql
import Derived.Deep.RegionHeld3
import Derived.Test.YtcgddnliiondoaaGreatDoorKq04
set_option linter.unusedVariables false
set_option linter.unusedSimpArgs false
set_option maxRecDepth 100000
set_option maxHeartbeats 8000000
namespace Go.Proofs.YtcgddnliiondoaaGreatDoor
open Go.RowKit
set_option maxHeartbeats 1000000 in
theorem owner_any (s : ByteArray) (w : World) (hw : Std w) (hs : s.size < 4294967281) :
    Calls Tryz.prog 100 #[.string s] w fun e w' => e = .returned (.int .i64 (ownK s.data.toList)) ∧ Q w w' := by
  have hl := Lib.trimPrefix_le s.data.toList [99]
  rw [len_data] at hl
  have HO : Hid (ownK s.data.toList = if Lib.hasPrefix s.data.toList [99] then ownP (Lib.cut (Lib.trimPrefix s.data.toList [99]) [110]) else -1) := rfl
  have HP : Hid (∀ W, Calls Tryz.prog 115 #[.string s, .string ⟨#[99]⟩] W fun e w' => e = .returned (.tuple #[.string ⟨(Lib.trimPrefix s.data.toList [99]).toArray⟩, .bool (Lib.hasPrefix s.data.toList [99])]) ∧ w' = W) := fun W => Tryz.strings_CutPrefix s ⟨#[99]⟩ W
  generalize Lib.trimPrefix s.data.toList [99] = t at *
  generalize Lib.hasPrefix s.data.toList [99] = ng at *
  have HC : Hid (∀ W, Q w W → Calls Tryz.prog 116 #[.string ⟨t.toArray⟩, .string ⟨#[110]⟩] W fun e w' => e = .returned (.tuple #[.string ⟨(Lib.cut t [110]).1.toArray⟩, .string ⟨(Lib.cut t [110]).2.1.toArray⟩, .bool (Lib.cut t [110]).2.2]) ∧ ∃ n, w' = W.drewN n) := by
    intro W q
    obtain ⟨m, hm⟩ := (hw.on q).len
    exact Tryz.strings_Cut ⟨t.toArray⟩ ⟨#[110]⟩ m W (by rw [size_mk]; omega) hm
  have hcl := cut_le 110 t
  generalize Lib.cut t [110] = p at *
  obtain ⟨a, b, f⟩ := p
  simp only at HC hcl
  have HA := hid (fun W => number_any ⟨a.toArray⟩ 15 15 W rfl (by omega) (by omega) (by rw [size_mk]; omega))
  have HB := hid (fun W => number_any ⟨b.toArray⟩ 999999 999999 W rfl (by omega) (by omega) (by rw [size_mk]; omega))
  simp only at HA HB
  unfold numK at HA HB
  generalize (⟨a.toArray⟩ : ByteArray) = A at *
  generalize (⟨b.toArray⟩ : ByteArray) = B at *
  generalize (⟨t.toArray⟩ : ByteArray) = T at *
  unfold ownP at HO
  simp only at HO
  generalize numF a 15 = fa at *
  generalize numF b 999999 = fb at *
  generalize ((val a : Nat) : Int) = va at *
  generalize ((val b : Nat) : Int) = vb at *
  clear hs hcl hl hw
  rcases ng with _ | _
  · go_enter Tryz.func100, Tryz.ntmps100
    go_wp2_with (first | (go_at_call 115; refine (HP.out _).mono ?_; rintro e w1 ⟨rfl, rfl⟩) | (go_at_call 116; refine (HC.out _ (Q.refl _)).mono ?_; rintro e w2 ⟨rfl, nn, rfl⟩) | (go_at_call_of 117 A; refine (HA.out _).mono ?_; rintro e w3 ⟨rfl, rfl⟩) | (go_at_call_of 117 B; refine (HB.out _).mono ?_; rintro e w4 ⟨rfl, rfl⟩))
    go_ret
    exact ⟨ret_int (by rw [HO.out]; rfl), Q.refl _⟩
  rcases f with _ | _
  · go_enter Tryz.func100, Tryz.ntmps100
    go_wp2_with (first | (go_at_call 115; refine (HP.out _).mono ?_; rintro e w1 ⟨rfl, rfl⟩) | (go_at_call 116; refine (HC.out _ (Q.refl _)).mono ?_; rintro e w2 ⟨rfl, nn, rfl⟩) | (go_at_call_of 117 A; refine (HA.out _).mono ?_; rintro e w3 ⟨rfl, rfl⟩) | (go_at_call_of 117 B; refine (HB.out _).mono ?_; rintro e w4 ⟨rfl, rfl⟩))
    go_ret
    exact ⟨ret_int (by rw [HO.out]; rfl), (Q.refl _).drewN _⟩
  rcases fa with _ | _ <;> rcases fb with _ | _
  · go_enter Tryz.func100, Tryz.ntmps100
    go_wp2_with (first | (go_at_call 115; refine (HP.out _).mono ?_; rintro e w1 ⟨rfl, rfl⟩) | (go_at_call 116; refine (HC.out _ (Q.refl _)).mono ?_; rintro e w2 ⟨rfl, nn, rfl⟩) | (go_at_call_of 117 A; refine (HA.out _).mono ?_; rintro e w3 ⟨rfl, rfl⟩) | (go_at_call_of 117 B; refine (HB.out _).mono ?_; rintro e w4 ⟨rfl, rfl⟩))
    go_ret
    exact ⟨ret_int (by rw [HO.out]; rfl), (Q.refl _).drewN _⟩
  · go_enter Tryz.func100, Tryz.ntmps100
    go_wp2_with (first | (go_at_call 115; refine (HP.out _).mono ?_; rintro e w1 ⟨rfl, rfl⟩) | (go_at_call 116; refine (HC.out _ (Q.refl _)).mono ?_; rintro e w2 ⟨rfl, nn, rfl⟩) | (go_at_call_of 117 A; refine (HA.out _).mono ?_; rintro e w3 ⟨rfl, rfl⟩) | (go_at_call_of 117 B; refine (HB.out _).mono ?_; rintro e w4 ⟨rfl, rfl⟩))
    go_ret
    exact ⟨ret_int (by rw [HO.out]; rfl), (Q.refl _).drewN _⟩
  · go_enter Tryz.func100, Tryz.ntmps100
    go_wp2_with (first | (go_at_call 115; refine (HP.out _).mono ?_; rintro e w1 ⟨rfl, rfl⟩) | (go_at_call 116; refine (HC.out _ (Q.refl _)).mono ?_; rintro e w2 ⟨rfl, nn, rfl⟩) | (go_at_call_of 117 A; refine (HA.out _).mono ?_; rintro e w3 ⟨rfl, rfl⟩) | (go_at_call_of 117 B; refine (HB.out _).mono ?_; rintro e w4 ⟨rfl, rfl⟩))
    go_ret
    exact ⟨ret_int (by rw [HO.out]; rfl), (Q.refl _).drewN _⟩
  · go_enter Tryz.func100, Tryz.ntmps100
    go_wp2_with (first | (go_at_call 115; refine (HP.out _).mono ?_; rintro e w1 ⟨rfl, rfl⟩) | (go_at_call 116; refine (HC.out _ (Q.refl _)).mono ?_; rintro e w2 ⟨rfl, nn, rfl⟩) | (go_at_call_of 117 A; refine (HA.out _).mono ?_; rintro e w3 ⟨rfl, rfl⟩) | (go_at_call_of 117 B; refine (HB.out _).mono ?_; rintro e w4 ⟨rfl, rfl⟩))
    go_ret
    exact ⟨ret_int (by rw [HO.out]; rfl), (Q.refl _).drewN _⟩
def idB (l : List UInt8) : Bool := decide (0 ≤ ownK l)
theorem id_any (s : ByteArray) (w : World) (hw : Std w) (hs : s.size < 4294967281) :
    Calls Tryz.prog 69 #[.string s] w fun e w' => e = .returned (.bool (idB s.data.toList)) ∧ Q w w' := by
  have HO := hid (owner_any s w hw hs)
  have HI : Hid (idB s.data.toList = decide (0 ≤ ownK s.data.toList)) := rfl
  generalize ownK s.data.toList = K at *
  clear hw hs
  go_enter Tryz.func69, Tryz.ntmps69
  go_wp2_with (go_at_call 100; refine HO.out.mono ?_; rintro e w1 ⟨rfl, q1⟩)
  go_ret
  exact ⟨ret_bool HI.out.symm, q1⟩
theorem allL_no (s : ByteArray) (k : Nat) (h : k < s.size) (hd : let1 s[k] = false) : allL s.data.toList = false := by
  unfold allL
  rw [List.all_eq_false]
  exact ⟨s[k], get_mem s k h, by simp [hd]⟩
end Go.Proofs.YtcgddnliiondoaaGreatDoor
namespace Go.Proofs.YtcgddnliiondoaaGreatDoor
open Go.RowKit
set_option linter.unusedVariables false
set_option linter.unusedSimpArgs false
theorem Q.block {a w : World} (h : Q a w) {b : Nat} (hb : b < a.heap.size) : w.heap[b]? = a.heap[b]? := Below.block h b hb
section
variable {α : Type} (enc : α → List Value)
def flat (L : List α) : List Value := L.flatMap enc
theorem flat_nil : flat enc [] = [] := rfl
theorem flat_cons (x : α) (L : List α) : flat enc (x :: L) = enc x ++ flat enc L := by unfold flat; simp
theorem flat_append (L L' : List α) : flat enc (L ++ L') = flat enc L ++ flat enc L' := by unfold flat; simp
theorem flat_snoc (L : List α) (x : α) : flat enc (L ++ [x]) = flat enc L ++ enc x := by unfold flat; simp
theorem flat_len {k : Nat} (hk : ∀ x, (enc x).length = k) (L : List α) : (flat enc L).length = L.length * k := by
  induction L with
  | nil => simp [flat]
  | cons x L ih => rw [flat_cons, List.length_append, ih, hk, List.length_cons, Nat.succ_mul]; omega
theorem flat_at {k : Nat} (hk : ∀ x, (enc x).length = k) (L : List α) (i : Nat) (h : i < L.length) (j : Nat) (hj : j < k) : (flat enc L)[i * k + j]? = (enc L[i])[j]? := by
  induction L generalizing i with
  | nil => simp at h
  | cons x L ih =>
    rw [flat_cons]
    cases i with
    | zero =>
      rw [Nat.zero_mul, Nat.zero_add, List.getElem?_append_left (by rw [hk]; exact hj)]
      simp
    | succ i =>
      have e : (i + 1) * k + j = k + (i * k + j) := by rw [Nat.succ_mul]; omega
      rw [e, List.getElem?_append_right (by rw [hk]; omega), hk, Nat.add_sub_cancel_left, ih i (by simpa using h)]
      simp
def Ats (W : World) (b o : Nat) (x : α) : Prop := ∀ (j : Nat) (u : Value), (enc x)[j]? = some u → W.cell? ⟨b, o + j, none⟩ = some u
variable {enc}
theorem Ats.on {W W' : World} {b o : Nat} {x : α} (h : Ats enc W b o x) (q : Q W W') : Ats enc W' b o x := fun j u hu =>
  (q.cell (World.block_lt_of_cell? W ⟨b, o + j, none⟩ (h j u hu))).trans (h j u hu)
variable (enc)
def Sl (k : Nat) (W : World) (v : Value) (L : List α) : Prop :=
  ∃ (ao : Option Addr) (cap : Nat), v = .slice ao L.length cap ∧ L.length ≤ cap ∧ cap ≤ maxLen ∧ (0 < L.length → ∃ b off, ao = some ⟨b, off, none⟩ ∧ ∀ i (h : i < L.length), Ats enc W b (off + i * k) L[i])
variable {enc}
variable {k : Nat}
theorem Sl.on {W W' : World} {v : Value} {L : List α} (h : Sl enc k W v L) (q : Q W W') : Sl enc k W' v L := by
  obtain ⟨ao, cap, hv, h1, h2, h⟩ := h
  refine ⟨ao, cap, hv, h1, h2, fun hl => ?_⟩
  obtain ⟨b, off, ha, hc⟩ := h hl
  exact ⟨b, off, ha, fun i hi => (hc i hi).on q⟩
theorem Sl.len {W : World} {v : Value} {L : List α} (h : Sl enc k W v L) : ∃ (ao : Option Addr) (cap : Nat), v = .slice ao L.length cap ∧ L.length ≤ cap ∧ cap ≤ maxLen := by
  obtain ⟨ao, cap, hv, h1, h2, _⟩ := h
  exact ⟨ao, cap, hv, h1, h2⟩
theorem Sl.at {W : World} {v : Value} {L : List α} (h : Sl enc k W v L) {i : Nat} (hi : i < L.length) : ∃ b off cap, v = .slice (some ⟨b, off, none⟩) L.length cap ∧ L.length ≤ cap ∧ cap ≤ maxLen ∧ Ats enc W b (off + i * k) L[i] := by
  obtain ⟨ao, cap, hv, h1, h2, h⟩ := h
  obtain ⟨b, off, ha, hc⟩ := h (by omega)
  subst ha
  exact ⟨b, off, cap, hv, h1, h2, hc i hi⟩
theorem sl_nil (W : World) : Sl enc k W (.slice none 0 0) [] := ⟨none, 0, rfl, Nat.le_refl _, Nat.zero_le _, fun h => absurd h (by simp)⟩
def Own (enc : α → List Value) (e : TypeId) (k B : Nat) (W : World) (v : Value) (L : List α) : Prop := W.ownsRow B e k v L.length (flat enc L)
variable {e : TypeId} {B : Nat}
theorem own_nil (W : World) : Own enc e k B W (.slice none 0 0) [] := World.ownsRow_nil _ _ _ _
theorem Own.sl {W : World} {v : Value} {L : List α} (h : Own enc e k B W v L) (hk : ∀ x, (enc x).length = k) (hp : 0 < k) : Sl enc k W v L := by
  have h0 := h
  obtain ⟨hl, h⟩ := h
  rcases h with ⟨hv, hn⟩ | ⟨g, cap, cur, hv, hb, hg, h1, h2, h3, h4⟩
  · exact ⟨none, 0, by rw [hv, hn], by omega, Nat.zero_le _, fun h => by omega⟩
  · refine ⟨some ⟨g, 0, none⟩, cap, hv, h1, h2, fun _ => ⟨g, 0, rfl, fun i hi j u hu => ?_⟩⟩
    have hj : j < k := by rw [← hk L[i]]; exact (List.getElem?_eq_some_iff.1 hu).1
    unfold Own at h0
    rw [hv] at h0
    have : i * k + j < L.length * k := Nat.lt_of_lt_of_le (Nat.add_lt_add_left hj _) (by rw [← Nat.succ_mul]; exact Nat.mul_le_mul_right _ hi)
    rw [Nat.zero_add, h0.cellAt (i * k + j) this, flat_at enc hk L i hi j hj]
    exact hu
theorem Own.alloc {W : World} {v : Value} {L : List α} (h : Own enc e k B W v L) (o : Obj) : Own enc e k B (W.alloc o) v L := World.ownsRow.alloc h o
theorem Own.on {W W' : World} {v : Value} {L : List α} (h : Own enc e k B W v L) (q : Q W W') : Own enc e k B W' v L := by
  obtain ⟨hl, h⟩ := h
  refine ⟨hl, ?_⟩
  rcases h with h | ⟨g, cap, cur, hv, hb, hg, h1, h2, h3, h4⟩
  · exact .inl h
  · have hlt : g < W.heap.size := by
      rcases Nat.lt_or_ge g W.heap.size with h' | h'
      · exact h'
      · rw [Array.getElem?_eq_none h'] at hg; cases hg
    exact .inr ⟨g, cap, cur, hv, hb, by rw [Below.block q g hlt]; exact hg, h1, h2, h3, h4⟩
theorem Own.blk {W : World} {v : Value} {L : List α} (h : Own enc e k B W v L) : ∀ j, v.ownBlock = some j → B ≤ j := by
  intro j hj
  obtain ⟨_, h⟩ := h
  rcases h with ⟨hv, _⟩ | ⟨g, cap, cur, hv, hg, _⟩
  · rw [hv] at hj; cases hj
  · rw [hv] at hj
    cases hj
    exact hg
theorem Own.lt {W : World} {v : Value} {L : List α} (h : Own enc e k B W v L) : ∀ j, v.ownBlock = some j → j < W.heap.size := by
  intro j hj
  obtain ⟨_, h⟩ := h
  rcases h with ⟨hv, _⟩ | ⟨g, cap, cur, hv, _, hg, _⟩
  · rw [hv] at hj; cases hj
  · rw [hv] at hj
    cases hj
    rcases Nat.lt_or_ge g W.heap.size with h' | h'
    · exact h'
    · rw [Array.getElem?_eq_none h'] at hg; cases hg
theorem Own.grown {W W' : World} {row : Option Nat} {v : Value} {L : List α} (h : Own enc e k B W v L) (g : W.grownBy W' row) (hr : v.ownBlock = none ∨ v.ownBlock ≠ row) : Own enc e k B W' v L := World.ownsRow.kept h g hr
theorem own_snoc {W : World} {v : Value} {L : List α} {x : α} (h : W.ownsRow B e k v (L.length + 1) (flat enc L ++ enc x)) : Own enc e k B W v (L ++ [x]) := by
  unfold Own
  rw [flat_snoc, List.length_append]
  exact h
theorem own_snoc' {W : World} {v : Value} {L : List α} {x : α} {n : Nat} (h : W.ownsRow B e k v n (flat enc L ++ enc x)) (hn : n = L.length + 1) : Own enc e k B W v (L ++ [x]) := own_snoc (hn ▸ h)
theorem news_new (W : World) (cs : List Value) (t : TypeId) : ∀ j u, cs[j]? = some u → (W.alloc (.cells cs.toArray t)).cell? ((⟨W.heap.size, 0, none⟩ : Addr).add j) = some u := by
  intro j u hu
  have hj : j < cs.length := (List.getElem?_eq_some_iff.1 hu).1
  have e : ((⟨W.heap.size, 0, none⟩ : Addr).add j) = ⟨W.heap.size, j, none⟩ := by
    unfold Addr.add
    by_cases h : j = 0
    · subst h; simp
    · simp [h]
  rw [e]
  rw [World.cell?_alloc_new]
  simpa using hu
theorem news_at (W : World) (cs : List Value) (t : TypeId) (b : Nat) (hb : b = W.heap.size) : ∀ j u, cs[j]? = some u → (W.alloc (.cells cs.toArray t)).cell? ((⟨b, 0, none⟩ : Addr).add j) = some u := by
  subst hb
  exact news_new W cs t
theorem Own.shape {W : World} {v : Value} {L : List α} (h : Own enc e k B W v L) (hl : 0 < L.length) : ∃ g cap, v = .slice (some ⟨g, 0, none⟩) L.length cap ∧ B ≤ g ∧ g < W.heap.size ∧ L.length ≤ cap ∧ cap ≤ maxLen := by
  have hlt := h.lt
  obtain ⟨_, h⟩ := h
  rcases h with ⟨hv, hn⟩ | ⟨g, cap, cur, hv, hb, hg, h1, h2, _⟩
  · omega
  · exact ⟨g, cap, hv, hb, hlt g (by rw [hv]; rfl), h1, h2⟩
theorem Own.cell {W : World} {g cap i : Nat} {L : List α} (h : Own enc e k B W (.slice (some ⟨g, 0, none⟩) L.length cap) L) (hk : ∀ x, (enc x).length = k) (hi : i < L.length) : Ats enc W g (i * k) L[i] := by
  intro j u hu
  have hj : j < k := by rw [← hk L[i]]; exact (List.getElem?_eq_some_iff.1 hu).1
  have : i * k + j < L.length * k := Nat.lt_of_lt_of_le (Nat.add_lt_add_left hj _) (by rw [← Nat.succ_mul]; exact Nat.mul_le_mul_right _ hi)
  rw [World.ownsRow.cellAt h (i * k + j) this, flat_at enc hk L i hi j hj]
  exact hu
end
def Inf (e : TypeId) (z : Value) (k by' : Nat) (i : TypeInfo) : Prop := Tryz.prog.info? e = some i ∧ i.zero = some z ∧ i.size = k ∧ i.bytes = by'
theorem inf_of {e : TypeId} {z : Value} {k b : Nat} (h : (Tryz.prog.info? e).map (fun i => (i.zero, i.size, i.bytes)) = some (some z, k, b)) : ∃ i, Inf e z k b i := by
  obtain ⟨i, hi, hz⟩ := Option.map_eq_some_iff.1 h
  simp only [Prod.mk.injEq] at hz
  exact ⟨i, hi, hz.1, hz.2.1, hz.2.2⟩
end Go.Proofs.YtcgddnliiondoaaGreatDoor
namespace Go.Proofs.YtcgddnliiondoaaGreatDoor
open Go.RowKit
def rf (x : Rf) : List Value := [.string ⟨x.1.toArray⟩, .int .i64 x.2.1, .int .i64 x.2.2.1, .bool x.2.2.2.1, .bool x.2.2.2.2]
theorem rf_len (x : Rf) : (rf x).length = 5 := rfl
def Pl (W : World) (b : Nat) : Prop := ∃ c t, W.heap[b]? = some (.cells c t (0, 0))
theorem Pl.lt {W : World} {b : Nat} (h : Pl W b) : b < W.heap.size := by
  obtain ⟨c, t, h⟩ := h
  rcases Nat.lt_or_ge b W.heap.size with h' | h'
  · exact h'
  · rw [Array.getElem?_eq_none h'] at h; cases h
theorem Pl.on {W W' : World} {b : Nat} (h : Pl W b) (q : Q W W') : Pl W' b := by
  have hb := h.lt
  obtain ⟨c, t, h⟩ := h
  exact ⟨c, t, (Q.block q hb).trans h⟩
theorem pl_new (W : World) (c : Array Value) (t : TypeId) : Pl (W.alloc (.cells c t)) W.heap.size := ⟨c, t, by show (W.heap.push _)[W.heap.size]? = _; simp⟩
def Rd (W : World) : Ex → Value → Prop
  | .mk k n t b e rs ks, v => ∃ rv kv, v = .agg #[.int .i64 k, .int .i64 n, .string ⟨t.toArray⟩, .bool b, .int .i64 e, rv, kv] ∧ Sl rf 5 W rv rs ∧
      ∃ (ao : Option Addr) (cap : Nat), kv = .slice ao ks.length cap ∧ ks.length ≤ cap ∧ cap ≤ maxLen ∧ (ks ≠ [] → ∃ b' off, ao = some ⟨b', off, none⟩ ∧ Pl W b' ∧ RdL W ks b' off)
  where
  RdL (W : World) : List Ex → Nat → Nat → Prop
  | [], _, _ => True
  | x :: xs, b, off => (∃ c0 c1 c2 c3 c4 c5 c6, W.cell? ⟨b, off, none⟩ = some c0 ∧ W.cell? ⟨b, off + 1, none⟩ = some c1 ∧ W.cell? ⟨b, off + 2, none⟩ = some c2 ∧ W.cell? ⟨b, off + 3, none⟩ = some c3 ∧ W.cell? ⟨b, off + 4, none⟩ = some c4 ∧ W.cell? ⟨b, off + 5, none⟩ = some c5 ∧ W.cell? ⟨b, off + 6, none⟩ = some c6 ∧ Rd W x (.agg #[c0, c1, c2, c3, c4, c5, c6])) ∧ RdL W xs b (off + 7)
theorem Rd.on {W W' : World} (q : Q W W') : ∀ (x : Ex) (v : Value), Rd W x v → Rd W' x v
  | .mk k n t b e rs ks, v, h => by
    unfold Rd at h ⊢
    obtain ⟨rv, kv, hv, hr, ao, cap, hk, h1, h2, h3⟩ := h
    refine ⟨rv, kv, hv, hr.on q, ao, cap, hk, h1, h2, fun hn => ?_⟩
    obtain ⟨b', off, ha, hp, hl⟩ := h3 hn
    exact ⟨b', off, ha, hp.on q, go q ks b' off hl⟩
  where
  go {W W' : World} (q : Q W W') : ∀ (l : List Ex) (b off : Nat), Rd.RdL W l b off → Rd.RdL W' l b off
  | [], _, _, _ => by unfold Rd.RdL; trivial
  | x :: xs, b, off, h => by
    unfold Rd.RdL at h ⊢
    obtain ⟨⟨c0, c1, c2, c3, c4, c5, c6, g0, g1, g2, g3, g4, g5, g6, hx⟩, hr⟩ := h
    have ce : ∀ {o : Nat} {c : Value}, W.cell? ⟨b, o, none⟩ = some c → W'.cell? ⟨b, o, none⟩ = some c := fun h => (q.cell (World.block_lt_of_cell? W ⟨b, _, none⟩ h)).trans h
    exact ⟨⟨c0, c1, c2, c3, c4, c5, c6, ce g0, ce g1, ce g2, ce g3, ce g4, ce g5, ce g6, Rd.on q x _ hx⟩, go q xs b (off + 7) hr⟩
theorem Rd.RdL.on {W W' : World} (q : Q W W') : ∀ (l : List Ex) (b off : Nat), Rd.RdL W l b off → Rd.RdL W' l b off := Rd.on.go q
structure Kid (W : World) (x : Ex) (b off : Nat) (c0 c1 c2 c3 c4 c5 c6 : Value) : Prop where
  g0 : W.cell? ⟨b, off, none⟩ = some c0
  g1 : W.cell? ⟨b, off + 1, none⟩ = some c1
  g2 : W.cell? ⟨b, off + 2, none⟩ = some c2
  g3 : W.cell? ⟨b, off + 3, none⟩ = some c3
  g4 : W.cell? ⟨b, off + 4, none⟩ = some c4
  g5 : W.cell? ⟨b, off + 5, none⟩ = some c5
  g6 : W.cell? ⟨b, off + 6, none⟩ = some c6
  rd : Rd W x (.agg #[c0, c1, c2, c3, c4, c5, c6])
theorem Rd.RdL.kid {W : World} : ∀ {ks : List Ex} {b off : Nat}, Rd.RdL W ks b off → ∀ i (h : i < ks.length), ∃ c0 c1 c2 c3 c4 c5 c6, Kid W ks[i] b (off + i * 7) c0 c1 c2 c3 c4 c5 c6
  | [], _, _, _, i, h => absurd h (by simp)
  | x :: xs, b, off, hr, i, h => by
    unfold Rd.RdL at hr
    obtain ⟨⟨c0, c1, c2, c3, c4, c5, c6, g0, g1, g2, g3, g4, g5, g6, hx⟩, hr⟩ := hr
    cases i with
    | zero => exact ⟨c0, c1, c2, c3, c4, c5, c6, by simpa using g0, by simpa using g1, by simpa using g2, by simpa using g3, by simpa using g4, by simpa using g5, by simpa using g6, hx⟩
    | succ i =>
      obtain ⟨c0, c1, c2, c3, c4, c5, c6, hk⟩ := Rd.RdL.kid hr i (by simpa using h)
      rw [show off + 7 + i * 7 = off + (i + 1) * 7 by omega] at hk
      exact ⟨c0, c1, c2, c3, c4, c5, c6, hk⟩
structure Prt (W : World) (x : Ex) (k n : Int) (t : ByteArray) (b : Bool) (e : Int) (rs : List Rf) (ks : List Ex) (rv kv : Value) (ao : Option Addr) (cap : Nat) : Prop where
  ex : x = .mk k n t.data.toList b e rs ks
  rl : Sl rf 5 W rv rs
  kl : kv = .slice ao ks.length cap
  le : ks.length ≤ cap
  mx : cap ≤ maxLen
  kd : ks ≠ [] → ∃ b' off, ao = some ⟨b', off, none⟩ ∧ Rd.RdL W ks b' off
theorem Rd.prt {W : World} {x : Ex} {v : Value} (h : Rd W x v) : ∃ k n t b e rs ks rv kv ao cap, v = .agg #[.int .i64 k, .int .i64 n, .string t, .bool b, .int .i64 e, rv, kv] ∧ Prt W x k n t b e rs ks rv kv ao cap := by
  cases x with
  | mk k n t b e rs ks =>
    unfold Rd at h
    obtain ⟨rv, kv, hv, hr, ao, cap, hk, h1, h2, h3⟩ := h
    exact ⟨k, n, ⟨t.toArray⟩, b, e, rs, ks, rv, kv, ao, cap, hv, rfl, hr, hk, h1, h2, fun hn => by
      obtain ⟨b', off, ha, _, hl⟩ := h3 hn
      exact ⟨b', off, ha, hl⟩⟩
theorem Prt.on {W W' : World} {x : Ex} {k n : Int} {t : ByteArray} {b : Bool} {e : Int} {rs : List Rf} {ks : List Ex} {rv kv : Value} {ao : Option Addr} {cap : Nat} (h : Prt W x k n t b e rs ks rv kv ao cap) (q : Q W W') : Prt W' x k n t b e rs ks rv kv ao cap :=
  ⟨h.ex, h.rl.on q, h.kl, h.le, h.mx, fun hn => by
    obtain ⟨b', off, ha, hl⟩ := h.kd hn
    exact ⟨b', off, ha, Rd.RdL.on q _ _ _ hl⟩⟩
structure Bx (w W : World) (c0 c1 c2 c3 c4 c5 c6 : Value) : Prop where
  q : Q w W
  lt : w.heap.size < W.heap.size
  g0 : W.cell? ⟨w.heap.size, 0, none⟩ = some c0
  g1 : W.cell? ⟨w.heap.size, 1, none⟩ = some c1
  g2 : W.cell? ⟨w.heap.size, 2, none⟩ = some c2
  g3 : W.cell? ⟨w.heap.size, 3, none⟩ = some c3
  g4 : W.cell? ⟨w.heap.size, 4, none⟩ = some c4
  g5 : W.cell? ⟨w.heap.size, 5, none⟩ = some c5
  g6 : W.cell? ⟨w.heap.size, 6, none⟩ = some c6
theorem Bx.start (w : World) (c0 c1 c2 c3 c4 c5 c6 : Value) (t : TypeId) : Bx w (w.alloc (.cells #[c0, c1, c2, c3, c4, c5, c6] t)) c0 c1 c2 c3 c4 c5 c6 := by
  refine ⟨(Q.refl _).alloc _, by simp, ?_, ?_, ?_, ?_, ?_, ?_, ?_⟩
  all_goals simp [World.cell?_alloc_new]
theorem Bx.on {w W W' : World} {c0 c1 c2 c3 c4 c5 c6 : Value} (h : Bx w W c0 c1 c2 c3 c4 c5 c6) (q : Q W W') : Bx w W' c0 c1 c2 c3 c4 c5 c6 :=
  ⟨h.q.trans q, q.lt h.lt, (q.cell h.lt).trans h.g0, (q.cell h.lt).trans h.g1, (q.cell h.lt).trans h.g2, (q.cell h.lt).trans h.g3, (q.cell h.lt).trans h.g4, (q.cell h.lt).trans h.g5, (q.cell h.lt).trans h.g6⟩
def cnt : Ex → Nat → Nat
  | .mk _ _ _ _ _ _ ks, n => cntL ks (n + 1)
  where
  cntL : List Ex → Nat → Nat
  | [], n => n
  | x :: xs, n => if n ≤ 200 then cntL xs (cnt x n) else n
theorem cnt_le : ∀ (x : Ex) (n : Nat), n ≤ 200 → cnt x n ≤ 201
  | .mk _ _ _ _ _ _ ks, n, h => by
    rw [cnt]
    exact go ks (n + 1) (by omega)
  where
  go : ∀ (ks : List Ex) (n : Nat), n ≤ 201 → cnt.cntL ks n ≤ 201
  | [], n, h => by rw [cnt.cntL]; exact h
  | x :: xs, n, h => by
    rw [cnt.cntL]
    split
    · rename_i h'
      exact go xs _ (cnt_le x n h')
    · exact h
theorem kid_size {k n : Int} {t : List UInt8} {b : Bool} {e : Int} {rs : List Rf} {ks : List Ex} (i : Nat) (h : i < ks.length) : SizeOf.sizeOf ks[i] < SizeOf.sizeOf (Ex.mk k n t b e rs ks) := by
  have := List.sizeOf_lt_of_mem (List.getElem_mem h)
  simp
  omega
abbrev rv (sh : ByteArray) (row col : Int) (ra ca : Bool) : Value := .agg #[.string sh, .int .i64 row, .int .i64 col, .bool ra, .bool ca]
def mayR (sh : List UInt8) (row col : Int) : Bool := (sh.isEmpty || idB sh) && (decide (0 ≤ row ∧ row < 2199023255552) && decide (0 ≤ col ∧ col < 2199023255552))
end Go.Proofs.YtcgddnliiondoaaGreatDoor
namespace Go.Proofs.YtcgddnliiondoaaGreatDoor
open Go.RowKit Go.Sort
theorem dec_small {m : Nat} (h : m < 10) : Lib.decDigits m = [UInt8.ofNat (48 + m % 10)] := by
  rw [Lib.decDigits_one h, Nat.mod_eq_of_lt h]
theorem nDigits_le (N : Nat) (h : N < 18446744073709551616) : Lib.nDigits N ≤ 20 := by
  rcases Nat.eq_zero_or_pos N with h0 | h0
  · subst h0
    have h1 := congrArg List.length (dec_small (m := 0) (by omega))
    rw [Lib.decDigits_length] at h1
    have h2 : ([UInt8.ofNat (48 + 0 % 10)] : List UInt8).length = 1 := rfl
    omega
  · have := Lib.numDigits_eq N h0 h
    split at this <;> omega
theorem Q.grow (w : World) (k : Nat) (os : Array Obj) : Q w (grow (w.drewN k) os) := by
  refine Q.trans ((Q.refl w).drewN k) ?_
  refine ⟨rfl, rfl, rfl, by simp [Go.Sort.grow], fun i hi => ?_⟩
  show ((w.drewN k).heap ++ os)[i]? = (w.drewN k).heap[i]?
  rw [Array.getElem?_append_left hi]
def shX (sh : List UInt8) : List UInt8 := if sh.isEmpty then [] else sh ++ [33]
def prL (sh : List UInt8) (row col : Int) (ra ca : Bool) : List UInt8 := (((shX sh ++ sgS ca) ++ cnL col) ++ sgS ra) ++ Lib.decDigits (row + 1).toNat
def prR (sh : List UInt8) (row col : Int) (ra ca : Bool) : List UInt8 := if mayR sh row col then prL sh row col ra ca else []
theorem sg_len (b : Bool) : (sgS b).length ≤ 1 := by cases b <;> decide
theorem cn_len (n : Int) : (cnL n).length ≤ 9 := by
  unfold cnL
  split
  · exact nm_nine _ (by omega)
  · simp
theorem shX_len (l : List UInt8) : (shX l).length ≤ l.length + 1 := by
  unfold shX
  split
  · simp
  · simp
theorem dec_len (u : Nat) (h : u ≤ 2199023255552) : (Lib.decDigits u).length ≤ 20 := by
  rw [Lib.decDigits_length]
  exact nDigits_le u (by omega)
structure Cat (SH SA NM SB DC X1 X2 X3 X4 : ByteArray) : Prop where
  e1 : SH ++ SA = X1
  e2 : X1 ++ NM = X2
  e3 : X2 ++ SB = X3
  e4 : X3 ++ DC = X4
  z0 : SH.size ≤ 100000
  z1 : X1.size ≤ 100000
  z2 : X2.size ≤ 100000
  z3 : X3.size ≤ 100000
  z4 : X4.size ≤ 100000
  y1 : SA.size ≤ 100000
  y2 : NM.size ≤ 100000
  y3 : SB.size ≤ 100000
  y4 : DC.size ≤ 100000
theorem cat_of (sh : List UInt8) (row col : Int) (ra ca : Bool) (hs : sh.length ≤ 1000) (r0 : 0 ≤ row) (r1 : row < 2199023255552) :
    ∃ X1 X2 X3, Cat ⟨(shX sh).toArray⟩ ⟨(sgS ca).toArray⟩ ⟨(cnL col).toArray⟩ ⟨(sgS ra).toArray⟩ ⟨(Lib.decDigits (row + 1).toNat).toArray⟩ X1 X2 X3 ⟨(prL sh row col ra ca).toArray⟩ := by
  have h1 := shX_len sh
  have h2 := sg_len ca
  have h3 := sg_len ra
  have h4 := cn_len col
  have h5 := dec_len (row + 1).toNat (by omega)
  refine ⟨⟨(shX sh ++ sgS ca).toArray⟩, ⟨((shX sh ++ sgS ca) ++ cnL col).toArray⟩, ⟨(((shX sh ++ sgS ca) ++ cnL col) ++ sgS ra).toArray⟩, bytes_cat _ _, bytes_cat _ _, bytes_cat _ _, bytes_cat _ _, ?_, ?_, ?_, ?_, ?_, ?_, ?_, ?_, ?_⟩
  all_goals
    rw [size_mk]
    try unfold prL
    try simp only [List.length_append]
    omega
theorem fmt_any (n : Int) (w : World) (hw : Lib.TabIs Tryz.prog w "internal/strconv.uint64pow10" .u64 Lib.pow10Tab) (n0 : 0 ≤ n) (n1 : n ≤ 2199023255552) :
    Calls Tryz.prog 146 #[.int .i64 n, .int .i64 10] w fun e w' => e = .returned (.string ⟨(Lib.decDigits n.toNat).toArray⟩) ∧ Q w w' := by
  refine (Tryz.strconv_FormatInt_10 n (by omega) (by omega) w hw).mono ?_
  rintro e w' ⟨rfl, k, os, rfl⟩
  refine ⟨ret_str ?_, Q.grow w k os⟩
  obtain ⟨m, rfl⟩ := Int.eq_ofNat_of_zero_le n0
  rfl
structure PB (w W : World) (sh : ByteArray) (row col : Int) (ra ca : Bool) : Prop where
  q : Q w W
  c0 : W.cell? ⟨w.heap.size, 0, none⟩ = some (.string sh)
  c1 : W.cell? ⟨w.heap.size, 1, none⟩ = some (.int .i64 row)
  c2 : W.cell? ⟨w.heap.size, 2, none⟩ = some (.int .i64 col)
  c3 : W.cell? ⟨w.heap.size, 3, none⟩ = some (.bool ra)
  c4 : W.cell? ⟨w.heap.size, 4, none⟩ = some (.bool ca)
theorem PB.start (w : World) (sh : ByteArray) (row col : Int) (ra ca : Bool) : PB w (w.alloc (.cells #[.string sh, .int .i64 row, .int .i64 col, .bool ra, .bool ca] 96)) sh row col ra ca := by
  refine ⟨(Q.refl _).alloc _, ?_, ?_, ?_, ?_, ?_⟩ <;> (rw [World.cell?_alloc_new]; rfl)
theorem PB.on {w W W' : World} {sh : ByteArray} {row col : Int} {ra ca : Bool} (h : PB w W sh row col ra ca) (q : Q W W') : PB w W' sh row col ra ca := by
  have hb : w.heap.size < W.heap.size := World.block_lt_of_cell? W ⟨w.heap.size, 0, none⟩ h.c0
  exact ⟨h.q.trans q, by rw [q.cell hb]; exact h.c0, by rw [q.cell hb]; exact h.c1, by rw [q.cell hb]; exact h.c2, by rw [q.cell hb]; exact h.c3, by rw [q.cell hb]; exact h.c4⟩
end Go.Proofs.YtcgddnliiondoaaGreatDoor
namespace Go.Proofs.YtcgddnliiondoaaGreatDoor
open Go.RowKit
theorem Rd.shape {W : World} {x : Ex} {v : Value} (h : Rd W x v) : ∃ k n t b e a1 l1 c1 a2 l2 c2, v = .agg #[.int .i64 k, .int .i64 n, .string t, .bool b, .int .i64 e, .slice a1 l1 c1, .slice a2 l2 c2] := by
  obtain ⟨k, n, t, b, e, rs, ks, rv, kv, ao, cap, rfl, hp⟩ := h.prt
  obtain ⟨ar, cr, hr, _⟩ := hp.rl
  obtain rfl := hp.kl
  subst hr
  exact ⟨_, _, _, _, _, _, _, _, _, _, _, rfl⟩
theorem nodesL_take (ks : List Ex) (i : Nat) (h : i < ks.length) : nodes.nodesL (ks.take (i + 1)) = nodes.nodesL (ks.take i) + nodes ks[i] := by
  rw [List.take_succ_eq_append_getElem h, nodesL_snoc]
theorem nodesL_take_le (ks : List Ex) (i : Nat) : nodes.nodesL (ks.take i) ≤ nodes.nodesL ks := by
  induction ks generalizing i with
  | nil => simp
  | cons x xs ih =>
    cases i with
    | zero => simp [nodes.nodesL]
    | succ i => rw [List.take_succ_cons, nodes.nodesL, nodes.nodesL]; have := ih i; omega
def shl : Nat → Ex → Bool
  | 0, _ => false
  | m + 1, .mk _ _ _ _ _ _ ks => ks.all (shl m)
set_option maxHeartbeats 4000000 in
theorem pcount_any : ∀ (s : Nat) (x : Ex) (v : Value) (W : World) (M : Int) (m : Nat), SizeOf.sizeOf x ≤ s → M = (m : Int) → 1 ≤ m → m ≤ 201 → Rd W x v → Calls Tryz.prog 118 #[v, .int .i64 M] W fun e W' => e = .returned (.int .i64 (min (nodes x) m : Nat)) ∧ Q W W' := by
  intro s
  induction s with
  | zero =>
    intro x v W M m hs
    cases x with
    | mk k n t b e rs ks => simp at hs
  | succ s ih =>
    intro x v W M m hs hM h1 h201 hr
    obtain ⟨k, n, t, b, e, rs, ks, rv, kv, ao, cap, rfl, hp⟩ := hr.prt
    obtain ⟨ar, cr, hrv, _⟩ := hp.rl
    have HD : Hid (nodes x = 1 + nodes.nodesL ks) := hid (by rw [hp.ex, nodes])
    have IH := hid (fun (i : Nat) (h : i < ks.length) v W M m => ih ks[i] v W M m (by have := kid_size (k := k) (n := n) (t := t.data.toList) (b := b) (e := e) (rs := rs) i h; rw [← hp.ex] at this; omega))
    generalize nodes x = d at HD ⊢
    have HP := hid hp
    obtain rfl := hp.kl
    subst hrv
    have hroom : ks.length ≤ 9223372036854775807 := by have h1 := hp.le; have h2 := hp.mx; unfold maxLen at h2; omega
    clear hp hr ih hs
    subst hM
    go_enter Tryz.func118, Tryz.ntmps118
    go_wp2
    go_loopw [5, 11, 7] (fun y z _ W' => ∃ (i a : Nat), i ≤ ks.length ∧ y = .int .i64 (a : Int) ∧ z = .int .i64 (i : Int) ∧ a ≤ m ∧ Hid (Q W W') ∧ Hid (a = min (1 + nodes.nodesL (ks.take i)) m)) (fun _ z _ _ => ks.length - (intOf z).toNat)
    case atStart => exact ⟨0, 1, Nat.zero_le _, rfl, rfl, h1, hid ((Q.refl _).alloc _), by show _ = _; simp [nodes.nodesL]; omega⟩
    case round =>
      obtain ⟨i, a, hi, rfl, rfl, ha, hQ, hA⟩ := hrel
      by_cases hlt : i < ks.length
      · have hne : ks ≠ [] := by intro h; rw [h] at hlt; simp at hlt
        obtain ⟨b', off, rfl, hl⟩ := (HP.out.on hQ.out).kd hne
        obtain ⟨e0, e1, e2, e3, e4, e5, e6, hK⟩ := hl.kid i hlt
        obtain ⟨k', n', t', b1', e', a1', l1', c1', a2', l2', c2', hsh⟩ := hK.rd.shape
        simp only [Value.agg.injEq, Array.mk.injEq, List.cons.injEq, and_true] at hsh
        obtain ⟨rfl, rfl, rfl, rfl, rfl, rfl, rfl⟩ := hsh
        obtain ⟨h0, g1, h2, h3, h4, h5, h6, hrd⟩ := hK
        by_cases ham : a = m
        · have HA2 : Hid ((min d m : Nat) = m) := by
            show _ = _
            have := hA.out
            have := nodesL_take_le ks i
            have := HD.out
            omega
          have eam : ((a : Int) == (m : Int)) = true := by rw [ham]; exact beq_self_eq_true _
          have HAM := hid ham
          clear hl hrd hA ham
          go_wp2_with fail
          go_ret
          exact ⟨ret_int (by rw [HA2.out, HAM.out]), hQ.out.trans (by repeat (first | with_reducible exact Q.refl _ | with_reducible refine Q.alloc ?_ _))⟩
        · have eam : ((a : Int) == (m : Int)) = false := by rw [beq_eq_false_iff_ne]; omega
          have HRD := hid hrd
          have HI := hid (fun W1 (q : Q wr W1) => IH.out i hlt _ W1 ((m : Int) - (a : Int)) (m - a) (by omega) (by omega) (by omega) (Rd.on q _ _ HRD.out))
          have HA2 : Hid (a + min (nodes ks[i]) (m - a) = min (1 + nodes.nodesL (ks.take (i + 1))) m) := by
            show _ = _
            have := hA.out
            rw [nodesL_take ks i hlt]
            omega
          have hdl : min (nodes ks[i]) (m - a) ≤ m - a := Nat.min_le_right _ _
          generalize min (nodes ks[i]) (m - a) = dd at HI HA2 hdl
          clear hl hrd hA ham
          go_wp2_with (go_at_call 118; refine (HI.out _ (by repeat (first | with_reducible exact Q.refl _ | with_reducible refine Q.alloc ?_ _))).mono ?_; rintro e9 w9 ⟨rfl, q9⟩; have Q9 : Hid (Q wr w9) := hid (Q.trans (by repeat (first | with_reducible exact Q.refl _ | with_reducible refine Q.alloc ?_ _)) q9); clear q9)
          go_roundw
          case rel => exact ⟨i + 1, a + dd, by omega, by go_num, by go_num, by omega, hid (hQ.out.trans Q9.out), HA2⟩
          case measure => simp [intOf]; omega
      · have HA2 : Hid ((min d m : Nat) = a) := by
          show _ = _
          have := hA.out
          rw [List.take_of_length_le (by omega)] at this
          rw [HD.out, this]
        clear hA
        go_wp2_with fail
        go_ret
        exact ⟨ret_int (by rw [HA2.out]), hQ.out⟩
set_option maxHeartbeats 4000000 in
theorem shallow_any : ∀ (m : Nat) (x : Ex) (v : Value) (W : World) (M : Int), M = (m : Int) → m ≤ 100 → Rd W x v → Calls Tryz.prog 107 #[v, .int .i64 M] W fun e W' => e = .returned (.bool (shl m x)) ∧ Q W W' := by
  intro m
  induction m with
  | zero =>
    intro x v W M hM hm hr
    obtain ⟨k, n, t, b, e, a1, l1, c1, a2, l2, c2, rfl⟩ := hr.shape
    have HD : Hid (shl 0 x = false) := hid (by unfold shl; rfl)
    generalize shl 0 x = d at HD ⊢
    have e0 : (M == 0) = true := by rw [hM]; rfl
    clear hr hM
    go_enter Tryz.func107, Tryz.ntmps107
    go_wp2_with fail
    go_ret
    exact ⟨ret_bool HD.out.symm, (Q.refl _).alloc _⟩
  | succ m ih =>
    intro x v W M hM hm hr
    obtain ⟨k, n, t, b, e, rs, ks, rv, kv, ao, cap, rfl, hp⟩ := hr.prt
    obtain ⟨ar, cr, hrv, _⟩ := hp.rl
    have HD : Hid (shl (m + 1) x = ks.all (shl m)) := hid (by rw [hp.ex]; rfl)
    generalize shl (m + 1) x = d at HD ⊢
    have IH := hid (fun x v W h => ih x v W (M - 1) (by omega) (by omega) h)
    have e0 : (M == 0) = false := by rw [beq_eq_false_iff_ne]; omega
    have hM0 : 0 < M := by omega
    have hM1 : M ≤ 200 := by omega
    have HP := hid hp
    obtain rfl := hp.kl
    subst hrv
    have hroom : ks.length ≤ 9223372036854775807 := by have h1 := hp.le; have h2 := hp.mx; unfold maxLen at h2; omega
    clear hp hr ih hM
    go_enter Tryz.func107, Tryz.ntmps107
    go_wp2_with fail
    go_loopw [12, 6] (fun z _ W' => ∃ (i : Nat), i ≤ ks.length ∧ z = .int .i64 (i : Int) ∧ Hid (Q W W') ∧ Hid ((ks.take i).all (shl m) = true)) (fun z _ _ => ks.length - (intOf z).toNat)
    case atStart => exact ⟨0, Nat.zero_le _, rfl, hid ((Q.refl _).alloc _), rfl⟩
    case round =>
      obtain ⟨i, hi, rfl, hQ, hA⟩ := hrel
      by_cases hlt : i < ks.length
      · have hne : ks ≠ [] := by intro h; rw [h] at hlt; simp at hlt
        obtain ⟨b', off, rfl, hl⟩ := (HP.out.on hQ.out).kd hne
        obtain ⟨e0', e1, e2, e3, e4, e5, e6, hK⟩ := hl.kid i hlt
        obtain ⟨k', n', t', b1', e', a1', l1', c1', a2', l2', c2', hsh⟩ := hK.rd.shape
        simp only [Value.agg.injEq, Array.mk.injEq, List.cons.injEq, and_true] at hsh
        obtain ⟨rfl, rfl, rfl, rfl, rfl, rfl, rfl⟩ := hsh
        obtain ⟨h0, g1, h2, h3, h4, h5, h6, hrd⟩ := hK
        have HRD := hid hrd
        have HI := hid (fun W1 (q : Q wr W1) => IH.out ks[i] _ W1 (Rd.on q _ _ HRD.out))
        cases hb : shl m ks[i]
        · rw [hb] at HI
          have HA2 : Hid (d = false) := by
            show _ = _
            rw [HD.out, Bool.eq_false_iff]
            intro e
            rw [List.all_eq_true] at e
            have := e ks[i] (List.getElem_mem hlt)
            rw [hb] at this
            cases this
          clear hl hrd hA
          go_wp2_with (go_at_call 107; refine (HI.out _ (by repeat (first | with_reducible exact Q.refl _ | with_reducible refine Q.alloc ?_ _))).mono ?_; rintro e9 w9 ⟨rfl, q9⟩; have Q9 : Hid (Q wr w9) := hid (Q.trans (by repeat (first | with_reducible exact Q.refl _ | with_reducible refine Q.alloc ?_ _)) q9); clear q9)
          go_ret
          exact ⟨ret_bool HA2.out.symm, hQ.out.trans Q9.out⟩
        · rw [hb] at HI
          have HA2 : Hid ((ks.take (i + 1)).all (shl m) = true) := by
            show _ = _
            rw [List.take_succ_eq_append_getElem hlt, List.all_append, hA.out]
            simp [hb]
          clear hl hrd hA
          go_wp2_with (go_at_call 107; refine (HI.out _ (by repeat (first | with_reducible exact Q.refl _ | with_reducible refine Q.alloc ?_ _))).mono ?_; rintro e9 w9 ⟨rfl, q9⟩; have Q9 : Hid (Q wr w9) := hid (Q.trans (by repeat (first | with_reducible exact Q.refl _ | with_reducible refine Q.alloc ?_ _)) q9); clear q9)
          go_roundw
          case rel => exact ⟨i + 1, by omega, by go_num, hid (hQ.out.trans Q9.out), HA2⟩
          case measure => simp [intOf]; omega
      · have HA2 : Hid (d = true) := by
          show _ = _
          have := hA.out
          rw [List.take_of_length_le (by omega)] at this
          rw [HD.out, this]
        clear hA
        go_wp2_with fail
        go_ret
        exact ⟨ret_bool HA2.out.symm, hQ.out⟩
theorem toL' (s : ByteArray) : s.toList = s.data.toList := Lib.toList_data s
def eqRf : List Rf → List Rf → Bool
  | [], [] => true
  | x :: l, y :: l' => decide (x = y) && eqRf l l'
  | [], _ :: _ => false
  | _ :: _, [] => false
theorem eqRf_iff : ∀ {l l' : List Rf}, eqRf l l' = true ↔ l = l'
  | [], [] => by simp [eqRf]
  | [], _ :: _ => by simp [eqRf]
  | _ :: _, [] => by simp [eqRf]
  | x :: l, y :: l' => by
    simp only [eqRf, Bool.and_eq_true, decide_eq_true_eq, eqRf_iff, List.cons.injEq]
theorem eqRf_len {l l' : List Rf} (h : l.length ≠ l'.length) : eqRf l l' = false := by
  cases e : eqRf l l' with
  | false => rfl
  | true => exact absurd (congrArg List.length (eqRf_iff.1 e)) h
theorem eqRf_dec (l l' : List Rf) : eqRf l l' = decide (l = l') := by
  cases e : eqRf l l' with
  | false => exact (decide_eq_false (fun h => by rw [eqRf_iff.2 h] at e; cases e)).symm
  | true => exact (decide_eq_true (eqRf_iff.1 e)).symm
theorem neq59 (xs : List UInt8) (xr xc : Int) (xa xb : Bool) (ys : List UInt8) (yr yc : Int) (ya yb : Bool) (w : World) : Sem.run Tryz.prog (binOp .neq 96 (.agg #[.string ⟨xs.toArray⟩, .int .i64 xr, .int .i64 xc, .bool xa, .bool xb]) (.agg #[.string ⟨ys.toArray⟩, .int .i64 yr, .int .i64 yc, .bool ya, .bool yb])) w = .ok (.bool (!(decide (((xs, xr, xc, xa, xb) : Rf) = (ys, yr, yc, ya, yb))))) w := by
  have u2 := Tryz.underlying2
  have u4 := Tryz.underlying4
  have u9 := Tryz.underlying9
  have hS : Tryz.prog.underlying 96 = some (.struct (Tryz.prog.fieldsOf 96)) := by kernel_rfl
  have hp : Tryz.prog.stoodInHeld 96 = false := by kernel_rfl
  have hf : (Tryz.prog.fieldsOf 96).toList.map (fun f => (f.name == "_", f.type, f.offset)) = [(false, 9, 0), (false, 2, 1), (false, 2, 2), (false, 4, 3), (false, 4, 4)] := by kernel_rfl
  have q1 : ∀ a b c d e : Value, (part 9 #[a, b, c, d, e] 0).run Tryz.prog w = .ok a w := fun _ _ _ _ _ => by kernel_rfl
  have q2 : ∀ a b c d e : Value, (part 2 #[a, b, c, d, e] 1).run Tryz.prog w = .ok b w := fun _ _ _ _ _ => by kernel_rfl
  have q3 : ∀ a b c d e : Value, (part 2 #[a, b, c, d, e] 2).run Tryz.prog w = .ok c w := fun _ _ _ _ _ => by kernel_rfl
  have q4 : ∀ a b c d e : Value, (part 4 #[a, b, c, d, e] 3).run Tryz.prog w = .ok d w := fun _ _ _ _ _ => by kernel_rfl
  have q5 : ∀ a b c d e : Value, (part 4 #[a, b, c, d, e] 4).run Tryz.prog w = .ok e w := fun _ _ _ _ _ => by kernel_rfl
  have e1 : (Op.equalIn 9999 9 (.string ⟨xs.toArray⟩) (.string ⟨ys.toArray⟩)).run Tryz.prog w = .ok (xs == ys) w := by
    have := run_equalIn_string (P := Tryz.prog) w 9998 9 ⟨xs.toArray⟩ ⟨ys.toArray⟩ u9
    rw [toL', toL'] at this
    exact this
  have e2 : (Op.equalIn 9999 2 (.int .i64 xr) (.int .i64 yr)).run Tryz.prog w = .ok (xr == yr) w := run_equalIn_int (P := Tryz.prog) w 9998 2 .i64 .i64 xr yr u2
  have e3 : (Op.equalIn 9999 2 (.int .i64 xc) (.int .i64 yc)).run Tryz.prog w = .ok (xc == yc) w := run_equalIn_int (P := Tryz.prog) w 9998 2 .i64 .i64 xc yc u2
  have e4 : (Op.equalIn 9999 4 (.bool xa) (.bool ya)).run Tryz.prog w = .ok (xa == ya) w := run_equalIn_bool' (P := Tryz.prog) w 9998 4 xa ya u4
  have e5 : (Op.equalIn 9999 4 (.bool xb) (.bool yb)).run Tryz.prog w = .ok (xb == yb) w := run_equalIn_bool' (P := Tryz.prog) w 9998 4 xb yb u4
  rw [run_neq_struct, show (10000 : Nat) = 9999 + 1 from rfl, run_equalIn_struct w 9999 96 _ _ hS hp]
  generalize (Tryz.prog.fieldsOf 96).toList = fs at hf ⊢
  obtain ⟨f1, r1, rfl, h1, hf⟩ := List.map_eq_cons_iff.1 hf
  obtain ⟨f2, r2, rfl, h2, hf⟩ := List.map_eq_cons_iff.1 hf
  obtain ⟨f3, r3, rfl, h3, hf⟩ := List.map_eq_cons_iff.1 hf
  obtain ⟨f4, r4, rfl, h4, hf⟩ := List.map_eq_cons_iff.1 hf
  obtain ⟨f5, r5, rfl, h5, hf⟩ := List.map_eq_cons_iff.1 hf
  obtain rfl := List.map_eq_nil_iff.1 hf
  simp only [Prod.mk.injEq, beq_eq_false_iff_ne, ne_eq] at h1 h2 h3 h4 h5
  obtain ⟨n1, t1, p1⟩ := h1
  obtain ⟨n2, t2, p2⟩ := h2
  obtain ⟨n3, t3, p3⟩ := h3
  obtain ⟨n4, t4, p4⟩ := h4
  obtain ⟨n5, t5, p5⟩ := h5
  simp only [Op.eqFields, ne_eq, n1, n2, n3, n4, n5, not_false_eq_true, if_true, t1, t2, t3, t4, t5, p1, p2, p3, p4, p5, Sem.run_bind, Sem.run_ite, Sem.run_pure, q1, q2, q3, q4, q5, e1, e2, e3, e4, e5, Result.andThen_ok]
  by_cases h1 : xs = ys
  · by_cases h2 : xr = yr
    · by_cases h3 : xc = yc
      · by_cases h4 : xa = ya
        · by_cases h5 : xb = yb <;> simp [h1, h2, h3, h4, h5]
        · simp [h1, h2, h3, h4]
      · simp [h1, h2, h3]
    · simp [h1, h2]
  · simp [h1]
theorem guard59 (op : BinOp) (a b : Operand) (X Y : Array Value) (w : World) : Sem.run Tryz.prog (eqGuard op 96 a b (.agg X) (.agg Y)) w = .ok () w := run_eqGuard_agg w op 96 a b X Y (by kernel_rfl)
set_option maxHeartbeats 4000000 in
theorem eqrf_any_q (va vb : Value) (A B : List Rf) (w : World) (ha : Sl rf 5 w va A) (hb : Sl rf 5 w vb B) : Calls Tryz.prog 110 #[va, vb] w fun e w' => e = .returned (.bool (eqRf A B)) ∧ ∃ m, w' = w.drewN m := by
  have HA := hid ha
  have HB := hid hb
  obtain ⟨ao, cap, rfl, la, ma⟩ := ha.len
  obtain ⟨ao2, cap2, rfl, lb, mb⟩ := hb.len
  have hA : A.length ≤ 9223372036854775807 := by unfold maxLen at ma; omega
  clear ha hb la ma lb mb
  generalize hT : eqRf A B = T
  have HT := hid hT
  clear hT
  by_cases hl : A.length = B.length
  · have hl' : ((A.length : Int) != (B.length : Int)) = false := by simp [hl]
    go_enter Tryz.func110, Tryz.ntmps110
    go_wp2
    go_loopw [4, 13] (fun _ s W => ∃ (n : Nat), n ≤ A.length ∧ s = .int .i64 n ∧ Hid (∃ q, W = w.drewN q) ∧ Hid (eqRf (A.drop n) (B.drop n) = T)) (fun _ s _ => A.length - (intOf s).toNat)
    case atStart => exact ⟨0, Nat.zero_le _, rfl, ⟨0, rfl⟩, by rw [List.drop_zero, List.drop_zero]; exact HT.out⟩
    case round =>
      obtain ⟨n, hn, rfl, hq, HZ⟩ := hrel
      obtain ⟨q, hwq⟩ := hq.out
      have HW := hid hwq
      have HQ : Hid (Q w wr) := by rw [hwq]; exact (Q.refl _).drewN _
      clear hq hwq
      by_cases hlt : n < A.length
      · have hlt' : (n : Int) < (A.length : Int) := by omega
        have hlt2 : (n : Int) < (B.length : Int) := by omega
        obtain ⟨g, off, cap', e, _, _, hc⟩ := (HA.out.on HQ.out).at hlt
        cases e
        obtain ⟨g2, off2, cap3, e, _, _, hc2⟩ := (HB.out.on HQ.out).at (i := n) (by omega)
        cases e
        rw [List.drop_eq_getElem_cons hlt, List.drop_eq_getElem_cons (show n < B.length by omega), eqRf] at HZ
        generalize A[n] = x at *
        generalize B[n]'(by omega) = y at *
        obtain ⟨xs, xr, xc, xa, xb⟩ := x
        obtain ⟨ys, yr, yc, ya, yb⟩ := y
        have c0 : wr.cell? ⟨g, off + n * 5, none⟩ = some (.string ⟨xs.toArray⟩) := hc 0 _ rfl
        have c1 : wr.cell? ⟨g, off + n * 5 + 1, none⟩ = some (.int .i64 xr) := hc 1 _ rfl
        have c2 : wr.cell? ⟨g, off + n * 5 + 2, none⟩ = some (.int .i64 xc) := hc 2 _ rfl
        have c3 : wr.cell? ⟨g, off + n * 5 + 3, none⟩ = some (.bool xa) := hc 3 _ rfl
        have c4 : wr.cell? ⟨g, off + n * 5 + 4, none⟩ = some (.bool xb) := hc 4 _ rfl
        have d0 : wr.cell? ⟨g2, off2 + n * 5, none⟩ = some (.string ⟨ys.toArray⟩) := hc2 0 _ rfl
        have d1 : wr.cell? ⟨g2, off2 + n * 5 + 1, none⟩ = some (.int .i64 yr) := hc2 1 _ rfl
        have d2 : wr.cell? ⟨g2, off2 + n * 5 + 2, none⟩ = some (.int .i64 yc) := hc2 2 _ rfl
        have d3 : wr.cell? ⟨g2, off2 + n * 5 + 3, none⟩ = some (.bool ya) := hc2 3 _ rfl
        have d4 : wr.cell? ⟨g2, off2 + n * 5 + 4, none⟩ = some (.bool yb) := hc2 4 _ rfl
        clear hc hc2
        have hgd' : ∀ (op : BinOp) (a b : Operand) (w : World), Sem.run Tryz.prog (eqGuard op 96 a b (.agg #[.string ⟨xs.toArray⟩, .int .i64 xr, .int .i64 xc, .bool xa, .bool xb]) (.agg #[.string ⟨ys.toArray⟩, .int .i64 yr, .int .i64 yc, .bool ya, .bool yb])) w = .ok () w := fun op a b w => guard59 op a b _ _ w
        cases hd : decide (((xs, xr, xc, xa, xb) : Rf) = (ys, yr, yc, ya, yb))
        · have HR : Hid (false = T) := by
            have := HZ.out
            simp only [hd, Bool.false_and] at this
            exact this
          clear HZ
          have hne' : ∀ w, Sem.run Tryz.prog (binOp .neq 96 (.agg #[.string ⟨xs.toArray⟩, .int .i64 xr, .int .i64 xc, .bool xa, .bool xb]) (.agg #[.string ⟨ys.toArray⟩, .int .i64 yr, .int .i64 yc, .bool ya, .bool yb])) w = .ok (.bool true) w := fun w => by
            have := neq59 xs xr xc xa xb ys yr yc ya yb w
            rw [hd] at this
            exact this
          clear hd
          go_wp2_with fail
          go_quiet (fail)
          go_wp2_with fail
          go_ret
          exact ⟨ret_bool HR.out, _, by rw [HW.out, World.drewN_drewN]⟩
        · have HZ2 : Hid (eqRf (A.drop (n + 1)) (B.drop (n + 1)) = T) := by
            have := HZ.out
            simp only [hd, Bool.true_and] at this
            exact this
          clear HZ
          have hne' : ∀ w, Sem.run Tryz.prog (binOp .neq 96 (.agg #[.string ⟨xs.toArray⟩, .int .i64 xr, .int .i64 xc, .bool xa, .bool xb]) (.agg #[.string ⟨ys.toArray⟩, .int .i64 yr, .int .i64 yc, .bool ya, .bool yb])) w = .ok (.bool false) w := fun w => by
            have := neq59 xs xr xc xa xb ys yr yc ya yb w
            rw [hd] at this
            exact this
          clear hd
          go_wp2_with fail
          go_quiet (fail)
          go_wp2_with fail
          go_roundw
          case rel => exact ⟨n + 1, by omega, by go_num, ⟨_, by rw [HW.out, World.drewN_drewN]⟩, HZ2⟩
          case measure => simp [intOf]; omega
      · have hlt' : ¬ (n : Int) < (A.length : Int) := by omega
        have HR : Hid (true = T) := by
          have := HZ.out
          rw [List.drop_eq_nil_of_le (by omega), List.drop_eq_nil_of_le (by omega)] at this
          exact this
        clear HZ
        go_wp2_with fail
        go_ret
        exact ⟨ret_bool HR.out, q, HW.out⟩
  · have hl' : ((A.length : Int) != (B.length : Int)) = true := by simp; omega
    have HR : Hid (false = T) := by show _ = _; rw [← HT.out, eqRf_len hl]
    go_enter Tryz.func110, Tryz.ntmps110
    go_wp2
    go_ret
    exact ⟨ret_bool HR.out, 0, rfl⟩
abbrev Ky := Nat × Nat × Nat × Nat × Nat
def kyV (k : Ky) : Value := .agg #[.pointer (some ⟨k.1, k.2.1, none⟩), .pointer (some ⟨k.2.2.1, k.2.2.2.1, none⟩), .int .i64 (k.2.2.2.2 : Int)]
def KyP (W : World) (k : Ky) : Prop := Pl W k.1 ∧ Pl W k.2.2.1
theorem info28' : ∃ j, Tryz.prog.info? 40 = some j ∧ j.size ≠ 0 := by
  cases h : Tryz.prog.info? 40 with
  | none =>
    have : (Tryz.prog.info? 40).isSome = true := by kernel_rfl
    rw [h] at this
    cases this
  | some j =>
    refine ⟨j, rfl, ?_⟩
    have : ((Tryz.prog.info? 40).map (fun i => i.size)) = some 7 := by kernel_rfl
    rw [h] at this
    simp at this
    omega
theorem run_ptr (W : World) (d : Nat) (a b : Addr) (ha : Pl W a.block) (hb : Pl W b.block) : (Op.equalIn (d + 1) 120 (.pointer (some a)) (.pointer (some b))).run Tryz.prog W = .ok (decide (a = b)) W := by
  obtain ⟨j, hj, hs⟩ := info28'
  obtain ⟨ca, ta, ha⟩ := ha
  obtain ⟨cb, tb, hb⟩ := hb
  have hu : Tryz.prog.underlying 120 = some (.pointer 40) := Tryz.underlying120
  by_cases h : a = b
  · subst h
    simp [Op.equalIn, run_underlying hu, sizeOf, typeInfo, hj, hs, run_sameAddr_same]
  · simp [Op.equalIn, run_underlying hu, sizeOf, typeInfo, hj, hs, run_sameAddr_other W h ha hb, h]
theorem key_eq (W : World) (k k' : Ky) (h : KyP W k) (h' : KyP W k') : (Op.equal 124 (kyV k) (kyV k')).run Tryz.prog W = .ok (decide (k = k')) W := by
  obtain ⟨b1, o1, b2, o2, n⟩ := k
  obtain ⟨c1, p1, c2, p2, m⟩ := k'
  have e1 : (Op.equalIn 9999 120 (.pointer (some ⟨b1, o1, none⟩)) (.pointer (some ⟨c1, p1, none⟩))).run Tryz.prog W = .ok (decide (b1 = c1 ∧ o1 = p1)) W := by
    have := run_ptr W 9998 ⟨b1, o1, none⟩ ⟨c1, p1, none⟩ h.1 h'.1
    simpa using this
  have e2 : (Op.equalIn 9999 120 (.pointer (some ⟨b2, o2, none⟩)) (.pointer (some ⟨c2, p2, none⟩))).run Tryz.prog W = .ok (decide (b2 = c2 ∧ o2 = p2)) W := by
    have := run_ptr W 9998 ⟨b2, o2, none⟩ ⟨c2, p2, none⟩ h.2 h'.2
    simpa using this
  have e3 : (Op.equalIn 9999 3 (.int .i64 (n : Int)) (.int .i64 (m : Int))).run Tryz.prog W = .ok ((n : Int) == (m : Int)) W := run_equalIn_int (P := Tryz.prog) W 9998 3 .i64 .i64 (n : Int) (m : Int) Tryz.underlying3
  have hf : (Tryz.prog.fieldsOf 124).toList.map (fun f => (f.name == "_", f.type, f.offset)) = [(false, 120, 0), (false, 120, 1), (false, 3, 2)] := by kernel_rfl
  have hu : Tryz.prog.underlying 124 = some (.struct (Tryz.prog.fieldsOf 124)) := by kernel_rfl
  have hp : Tryz.prog.stoodInHeld 124 = false := by kernel_rfl
  unfold Op.equal Op.maxDepth kyV
  rw [run_equalIn_struct W 9999 124 _ _ hu hp]
  have q1 : ∀ x y z : Value, (part 120 #[x, y, z] 0).run Tryz.prog W = .ok x W := fun _ _ _ => by kernel_rfl
  have q2 : ∀ x y z : Value, (part 120 #[x, y, z] 1).run Tryz.prog W = .ok y W := fun _ _ _ => by kernel_rfl
  have q3 : ∀ x y z : Value, (part 3 #[x, y, z] 2).run Tryz.prog W = .ok z W := fun _ _ _ => by kernel_rfl
  generalize (Tryz.prog.fieldsOf 124).toList = fs at hf ⊢
  obtain ⟨f1, r1, rfl, h1, hf⟩ := List.map_eq_cons_iff.1 hf
  obtain ⟨f2, r2, rfl, h2, hf⟩ := List.map_eq_cons_iff.1 hf
  obtain ⟨f3, r3, rfl, h3, hf⟩ := List.map_eq_cons_iff.1 hf
  obtain rfl := List.map_eq_nil_iff.1 hf
  simp only [Prod.mk.injEq, beq_eq_false_iff_ne, ne_eq] at h1 h2 h3
  obtain ⟨n1, t1, o1'⟩ := h1
  obtain ⟨n2, t2, o2'⟩ := h2
  obtain ⟨n3, t3, o3'⟩ := h3
  simp only [Op.eqFields, ne_eq, n1, n2, n3, not_false_eq_true, if_true, t1, t2, t3, o1', o2', o3', Sem.run_bind, Sem.run_ite, Sem.run_pure, q1, q2, q3, e1, e2, e3, Result.andThen_ok]
  by_cases g1 : b1 = c1 ∧ o1 = p1
  · by_cases g2 : b2 = c2 ∧ o2 = p2
    · by_cases g3 : n = m
      · simp [g1, g2, g3]
      · have : ((n : Int) == (m : Int)) = false := by rw [beq_eq_false_iff_ne]; omega
        simp [g1, g2, g3, this]
    · have : ¬ (b2 = c2 ∧ o2 = p2 ∧ n = m) := fun h => g2 ⟨h.1, h.2.1⟩
      simp [g1, g2, this]
  · have : ¬ (b1 = c1 ∧ o1 = p1 ∧ b2 = c2 ∧ o2 = p2 ∧ n = m) := fun h => g1 ⟨h.1, h.2.1⟩
    simp [g1, this]
def MapK (W : World) (b : Nat) (ks : List Ky) : Prop := ∃ es clock, W.heap[b]? = some (.map es clock) ∧ es.toList.map (fun e => (e.key, e.val)) = ks.map (fun k => (kyV k, Value.agg #[]))
theorem find_keys (W : World) (k : Ky) (hk : KyP W k) : ∀ (ks : List Ky) (es : List MapEntry) (i : Nat), es.map (fun e => (e.key, e.val)) = ks.map (fun k => (kyV k, Value.agg #[])) → (∀ x ∈ ks, KyP W x) →
    ∃ r, (Instr.findAsking 124 (kyV k) es i).run Tryz.prog W = .ok r W ∧ (k ∈ ks → ∃ j, r = some (j, .agg #[])) ∧ (k ∉ ks → r = none)
  | [], es, i, he, _ => by
    have : es = [] := by simpa using he
    subst this
    exact ⟨none, by simp [Instr.findAsking], fun h => absurd h (by simp), fun _ => rfl⟩
  | x :: xs, es, i, he, hp => by
    cases es with
    | nil => simp at he
    | cons e es =>
      simp only [List.map_cons, List.cons.injEq, Prod.mk.injEq] at he
      obtain ⟨⟨h1, h2⟩, h3⟩ := he
      have hx := key_eq W k x hk (hp x (by simp))
      by_cases h : k = x
      · refine ⟨some (i, e.val), ?_, fun _ => ⟨i, by rw [h2]⟩, fun hn => absurd (by simp [h]) hn⟩
        simp only [Instr.findAsking, Sem.run_bind, h1, hx, Result.andThen_ok]
        simp [h]
      · obtain ⟨r, hr, hy, hn⟩ := find_keys W k hk xs es (i + 1) h3 (fun y hy => hp y (by simp [hy]))
        refine ⟨r, ?_, fun hm => hy (by simpa [h] using hm), fun hm => hn (fun h' => hm (by simp [h']))⟩
        simp only [Instr.findAsking, Sem.run_bind, h1, hx, Result.andThen_ok]
        simp [h, hr]
theorem find_key (W : World) (k : Ky) (hk : KyP W k) (ks : List Ky) (es : List MapEntry) (he : es.map (fun e => (e.key, e.val)) = ks.map (fun k => (kyV k, Value.agg #[]))) (hp : ∀ x ∈ ks, KyP W x) :
    ∃ r, (Instr.findKey 124 (kyV k) es).run Tryz.prog W = .ok r W ∧ (k ∈ ks → ∃ j, r = some (j, .agg #[])) ∧ (k ∉ ks → r = none) := by
  have hu : Tryz.prog.underlying 124 = some (.struct (Tryz.prog.fieldsOf 124)) := by kernel_rfl
  cases ks with
  | nil =>
    have : es = [] := by simpa using he
    subst this
    refine ⟨none, ?_, fun h => absurd h (by simp), fun _ => rfl⟩
    simp [Instr.findKey, run_underlying hu, Instr.findNow]
  | cons x xs =>
    obtain ⟨r, hr, hy, hn⟩ := find_keys W k hk (x :: xs) es 0 he hp
    refine ⟨r, ?_, hy, hn⟩
    cases es with
    | nil => simp at he
    | cons e es =>
      have hnow : Instr.findNow (.struct (Tryz.prog.fieldsOf 124)) (kyV k) (e :: es) 0 = none := by
        unfold Instr.findNow kyV
        simp [Instr.sameNow]
      simp only [Instr.findKey, Sem.run_bind, run_underlying hu, Result.andThen_ok, hnow]
      exact hr
theorem check_key (W : World) (k : Ky) (b : Bool) : (Instr.checkKey b 10000 124 (kyV k)).run Tryz.prog W = .ok () W := by
  unfold kyV
  cases b <;> kernel_rfl
theorem MapK.lookup {W : World} {b : Nat} {ks : List Ky} (h : MapK W b ks) (k : Ky) (hk : KyP W k) (hp : ∀ x ∈ ks, KyP W x) :
    (Instr.lookup 118 (.map (some b)) (kyV k) true).run Tryz.prog W = .ok (.tuple #[.agg #[], .bool (decide (k ∈ ks))]) W := by
  obtain ⟨es, clock, hb, he⟩ := h
  obtain ⟨r, hr, hy, hn⟩ := find_key W k hk ks es.toList he hp
  have hu : Tryz.prog.underlying 118 = some (.map 124 121) := Tryz.underlying118
  have hz : (zeroValue 121).run Tryz.prog W = .ok (.agg #[]) W := by kernel_rfl
  have hc := check_key W k es.isEmpty
  by_cases hm : k ∈ ks
  · obtain ⟨j, rfl⟩ := hy hm
    simp [Instr.lookup, run_underlying hu, MapKept.run_getObj_map hb, hc, hr, hm]
  · rw [hn hm] at hr
    simp [Instr.lookup, run_underlying hu, MapKept.run_getObj_map hb, hc, hr, hm, hz]
theorem MapK.update {W : World} {b : Nat} {ks : List Ky} (h : MapK W b ks) (k : Ky) (hk : KyP W k) (hp : ∀ x ∈ ks, KyP W x) (hn : k ∉ ks) :
    ∃ W', (Instr.mapUpdate 118 (.map (some b)) (kyV k) (.agg #[])).run Tryz.prog W = .ok () W' ∧ MapK W' b (ks ++ [k]) ∧ W.grownBy W' (some b) := by
  obtain ⟨es, clock, hb, he⟩ := h
  obtain ⟨r, hr, _, hnn⟩ := find_key W k hk ks es.toList he hp
  have hu : Tryz.prog.underlying 118 = some (.map 124 121) := Tryz.underlying118
  have hc := check_key W k false
  rw [hnn hn] at hr
  refine ⟨ChangeMaps.setBlock W b (.map (es.push { key := kyV k, val := .agg #[], born := clock }) (clock + 1)), ?_, ⟨_, _, ChangeMaps.heap_setBlock_same hb _, by simp [he]⟩, ⟨rfl, rfl, rfl, by simp [ChangeMaps.setBlock], fun i _ hi => ChangeMaps.heap_setBlock_other hb _ (fun e => hi (by rw [e]))⟩⟩
  simp [Instr.mapUpdate, run_underlying hu, MapKept.run_getObj_map hb, hc, hr, MapKept.run_setObj_map _ hb, ChangeMaps.setBlock]
set_option maxHeartbeats 4000000 in
theorem key_any (b1 o1 b2 o2 n c1 c2 : Nat) (hn : 0 < n) (W : World) : Calls Tryz.prog 86 #[.agg #[.slice (some ⟨b1, o1, none⟩) n c1, .slice (some ⟨b2, o2, none⟩) n c2]] W fun e W' => e = .returned (kyV (b1, o1, b2, o2, n)) ∧ Q W W' := by
  have hn' : (0 : Int) < (n : Int) := by omega
  go_enter Tryz.func86, Tryz.ntmps86
  go_wp2_with fail
  go_region
  go_wp2_with fail
  refine bodyPost_ret (v := kyV (b1, o1, b2, o2, n)) (by simp [results, Tryz.results86, go_sem, kyV]) rfl ⟨rfl, ?_⟩
  repeat (first | with_reducible exact Q.refl _ | with_reducible refine Q.drewN ?_ _ | with_reducible refine Q.drew ?_ | with_reducible refine Q.alloc ?_ _ | with_reducible refine Q.setCell ?_ (by simp) _)
theorem own_none0 {s : ByteArray} (h : s.size = 0 ∨ ∃ h : 0 < s.size, s[0] ≠ 99) : ownK s.data.toList = -1 := by
  unfold ownK
  rw [if_neg]
  unfold Lib.hasPrefix
  rcases h with h | ⟨h, h0⟩
  · rw [show s.data.toList = [] from List.eq_nil_of_length_eq_zero (by rw [len_data]; exact h)]
    simp
  · have e := drop_cons s 0 h
    rw [List.drop_zero] at e
    rw [e]
    simp [Ne.symm h0]
theorem own_c {s : ByteArray} (h : 0 < s.size) (h0 : s[0] = 99) : ownK s.data.toList = ownP (Lib.cut (s.data.toList.drop 1) [110]) := by
  have e := drop_cons s 0 h
  rw [List.drop_zero, h0] at e
  have hp : Lib.hasPrefix s.data.toList [99] = true := by rw [e]; unfold Lib.hasPrefix; simp
  unfold ownK
  rw [if_pos hp]
  unfold Lib.trimPrefix
  rw [if_pos hp]
  rfl
theorem ownP_R (a b : List UInt8) : ownP (a, b, true) = if numR b 999999 < 0 then -1 else numR a 15 := by
  unfold ownP numR
  cases numF a 15 <;> cases numF b 999999 <;> simp <;> omega
set_option maxHeartbeats 1000000 in
theorem rowner_any (s : ByteArray) (w : World) (hs : s.size < 4294967281) :
    Calls Tryz.prog 74 #[.string s] w fun e w' => e = .returned (.int .i64 (ownK s.data.toList)) ∧ w' = w := by
  by_cases hz : s.size = 0 ∨ ∃ h : 0 < s.size, s[0] ≠ 99
  · have HO := hid (own_none0 hz)
    have hz' : ∀ h : 0 < s.size, ((s[0].toNat : Int) == 99) = false := fun h => by
      rcases hz with g | ⟨_, g⟩
      · omega
      · exact byte_ne (n := 99) (by omega) g
    clear hz
    go_enter Tryz.func74, Tryz.ntmps74
    go_wp2
    go_loop [3] (fun i => ∃ k : Nat, 1 ≤ k ∧ k ≤ s.size + 1 ∧ i = .int .i64 k) (fun i => s.size + 1 - (intOf i).toNat)
    case atStart => exact ⟨1, by omega, by omega, rfl⟩
    case round =>
      obtain ⟨k, k1, hk, rfl⟩ := hrel
      by_cases hlt : k < s.size
      · have h0 := hz' (by omega)
        by_cases hn : s[k] = 110
        · have hn' : (s[k].toNat : Int) = 110 := by rw [hn]; rfl
          clear hn
          go_wp2
          go_round
          case rel => exact ⟨k + 1, by omega, by omega, by go_num⟩
          case measure => simp [intOf]; omega
        · have hn' : ((s[k].toNat : Int) == 110) = false := byte_ne (n := 110) (by omega) hn
          clear hn
          go_wp2
          go_round
          case rel => exact ⟨k + 1, by omega, by omega, by go_num⟩
          case measure => simp [intOf]; omega
      · go_wp2
        go_ret
        exact ⟨ret_int HO.out.symm, rfl⟩
  · have hp : 0 < s.size := by
      rcases Nat.eq_zero_or_pos s.size with h | h
      · exact absurd (.inl h) hz
      · exact h
    have hc : s[0] = 99 := by
      by_cases h : s[0] = 99
      · exact h
      · exact absurd (.inr ⟨hp, h⟩) hz
    have HO := hid (own_c hp hc)
    have hc' : (s[0].toNat : Int) = 99 := by rw [hc]; rfl
    clear hz hc
    go_enter Tryz.func74, Tryz.ntmps74
    go_wp2
    go_loop [3] (fun i => ∃ k : Nat, 1 ≤ k ∧ k ≤ s.size ∧ i = .int .i64 k ∧ Hid ((110 : UInt8) ∉ (s.data.toList.take k).drop 1)) (fun i => s.size + 1 - (intOf i).toNat)
    case atStart => exact ⟨1, by omega, by omega, rfl, by show _ ∉ _; rw [List.drop_take]; simp⟩
    case round =>
      obtain ⟨k, k1, hk, rfl, ha⟩ := hrel
      by_cases hlt : k < s.size
      · by_cases hn : s[k] = 110
        · have hn' : (s[k].toNat : Int) = 110 := by rw [hn]; rfl
          have eL : s.data.toList.drop 1 = (s.data.toList.take k).drop 1 ++ 110 :: s.data.toList.drop (k + 1) := by
            have e1 : s.data.toList = s.data.toList.take k ++ s.data.toList.drop k := (List.take_append_drop _ _).symm
            rw [drop_cons s k hlt, hn] at e1
            have e2 := congrArg (List.drop 1) e1
            rw [List.drop_append_of_le_length (by rw [List.length_take, len_data]; omega)] at e2
            exact e2
          have HR : Hid (ownK s.data.toList = if numR (s.data.toList.drop (k + 1)) 999999 < 0 then -1 else numR ((s.data.toList.take k).drop 1) 15) := by
            show _ = _
            rw [HO.out, eL, cut_at 110 _ _ ha.out, ownP_R]
          have eA : (s.extract 1 k).data.toList = (s.data.toList.take k).drop 1 := by
            rw [Lib.extract_data, List.drop_take]
          have eB : (s.extract (k + 1) s.size).data.toList = s.data.toList.drop (k + 1) := by
            rw [Lib.extract_data]
            exact List.take_of_length_le (by rw [List.length_drop, len_data]; omega)
          have HA := hid (fun W => num_any (s.extract 1 k) 15 15 W rfl (by omega) (by omega) (by simp only [ByteArray.size_extract]; omega))
          have HB := hid (fun W => num_any (s.extract (k + 1) s.size) 999999 999999 W rfl (by omega) (by omega) (by simp only [ByteArray.size_extract]; omega))
          rw [eA] at HA
          rw [eB] at HB
          obtain ⟨A, qA⟩ : ∃ A, s.extract 1 k = A := ⟨_, rfl⟩
          obtain ⟨B, qB⟩ : ∃ B, s.extract (k + 1) s.size = B := ⟨_, rfl⟩
          rw [qA] at HA
          rw [qB] at HB
          generalize numR ((s.data.toList.take k).drop 1) 15 = X at *
          generalize numR (s.data.toList.drop (k + 1)) 999999 = Y at *
          clear hn eL eA eB HO
          by_cases hY : Y < 0
          · go_wp2_with (first | (go_at_call_of 102 A; refine (HA.out _).mono ?_; rintro e w1 ⟨rfl, rfl⟩) | (go_at_call_of 102 B; refine (HB.out _).mono ?_; rintro e w2 ⟨rfl, rfl⟩))
            go_ret
            exact ⟨ret_int (by rw [HR.out, if_pos hY]), rfl⟩
          · go_wp2_with (first | (go_at_call_of 102 A; refine (HA.out _).mono ?_; rintro e w1 ⟨rfl, rfl⟩) | (go_at_call_of 102 B; refine (HB.out _).mono ?_; rintro e w2 ⟨rfl, rfl⟩))
            go_ret
            exact ⟨ret_int (by rw [HR.out, if_neg (by omega)]), rfl⟩
        · have hn' : ((s[k].toNat : Int) == 110) = false := byte_ne (n := 110) (by omega) hn
          have ha' : Hid ((110 : UInt8) ∉ (s.data.toList.take (k + 1)).drop 1) := by
            show _ ∉ _
            rw [take_snoc s k hlt, List.drop_append_of_le_length (by rw [List.length_take, len_data]; omega), List.mem_append]
            intro h
            rcases h with h | h
            · exact ha.out h
            · simp at h
              exact hn h.symm
          clear hn
          go_wp2
          go_round
          case rel => exact ⟨k + 1, by omega, by omega, by go_num, ha'⟩
          case measure => simp [intOf]; omega
      · have HF : Hid (ownK s.data.toList = -1) := by
          show _ = _
          have h1 := ha.out
          rw [take_all s k (by omega)] at h1
          rw [HO.out, cut_free 110 _ h1]
          rfl
        go_wp2
        go_ret
        exact ⟨ret_int HF.out.symm, rfl⟩
theorem rid_any (s : ByteArray) (w : World) (hs : s.size < 4294967281) :
    Calls Tryz.prog 40 #[.string s] w fun e w' => e = .returned (.bool (idB s.data.toList)) ∧ w' = w := by
  have HO := hid (fun W => rowner_any s W hs)
  have HI : Hid (idB s.data.toList = decide (0 ≤ ownK s.data.toList)) := rfl
  generalize ownK s.data.toList = K at *
  clear hs
  go_enter Tryz.func40, Tryz.ntmps40
  go_wp2_with (go_at_call 74; refine (HO.out _).mono ?_; rintro e w1 ⟨rfl, rfl⟩)
  go_ret
  exact ⟨ret_bool HI.out.symm, rfl⟩
set_option maxHeartbeats 1000000 in
theorem rmay_any (sh : ByteArray) (row col : Int) (ra ca : Bool) (w : World) (hs : sh.size ≤ 4000000000) :
    Calls Tryz.prog 92 #[rv sh row col ra ca] w fun e w' => e = .returned (.bool (mayR sh.data.toList row col)) ∧ Q w w' := by
  have HI := hid (fun W => rid_any sh W (by omega))
  have HV : Hid (mayR sh.data.toList row col = ((sh.data.toList.isEmpty || idB sh.data.toList) && (decide (0 ≤ row ∧ row < 2199023255552) && decide (0 ≤ col ∧ col < 2199023255552)))) := rfl
  have et := hid (Lib.toList_data sh)
  have main : ∀ X : Bool, (sh.data.toList.isEmpty || idB sh.data.toList) = X → Hid (mayR sh.data.toList row col = (X && (decide (0 ≤ row ∧ row < 2199023255552) && decide (0 ≤ col ∧ col < 2199023255552)))) := fun X e => by show _ = _; rw [HV.out, e]
  by_cases he : sh.toList = []
  · have HX := main true (by rw [← et.out, he]; rfl)
    have he' : (sh.toList == []) = true := by rw [he]; rfl
    clear main HV
    by_cases a : 0 ≤ row
    · by_cases b : row < 2199023255552
      · by_cases c : 0 ≤ col
        · by_cases d : col < 2199023255552
          · go_enter Tryz.func92, Tryz.ntmps92
            go_wp2
            go_ret
            exact ⟨ret_bool (by rw [HX.out, Bool.eq_iff_iff]; simp; omega), (Q.refl _).alloc _⟩
          · go_enter Tryz.func92, Tryz.ntmps92
            go_wp2
            go_ret
            exact ⟨ret_bool (by rw [HX.out, Bool.eq_iff_iff]; simp; omega), (Q.refl _).alloc _⟩
        · go_enter Tryz.func92, Tryz.ntmps92
          go_wp2
          go_ret
          exact ⟨ret_bool (by rw [HX.out, Bool.eq_iff_iff]; simp; omega), (Q.refl _).alloc _⟩
      · go_enter Tryz.func92, Tryz.ntmps92
        go_wp2
        go_ret
        exact ⟨ret_bool (by rw [HX.out, Bool.eq_iff_iff]; simp; omega), (Q.refl _).alloc _⟩
    · go_enter Tryz.func92, Tryz.ntmps92
      go_wp2
      go_ret
      exact ⟨ret_bool (by rw [HX.out, Bool.eq_iff_iff]; simp; omega), (Q.refl _).alloc _⟩
  · have he' : (sh.toList == []) = false := by simpa using he
    have hei : sh.data.toList.isEmpty = false := by
      rw [← et.out]
      cases hh : sh.toList
      · exact absurd hh he
      · rfl
    cases hB : idB sh.data.toList
    · have HX := main false (by rw [hei, hB]; rfl)
      rw [hB] at HI
      clear main HV he hei
      go_enter Tryz.func92, Tryz.ntmps92
      go_wp2_with (go_at_call 40; refine (HI.out _).mono ?_; rintro e w1 ⟨rfl, rfl⟩)
      go_ret
      exact ⟨ret_bool (by rw [HX.out]; rfl), (Q.refl _).alloc _⟩
    · have HX := main true (by rw [hei, hB]; rfl)
      rw [hB] at HI
      clear main HV he hei
      by_cases a : 0 ≤ row
      · by_cases b : row < 2199023255552
        · by_cases c : 0 ≤ col
          · by_cases d : col < 2199023255552
            · go_enter Tryz.func92, Tryz.ntmps92
              go_wp2_with (go_at_call 40; refine (HI.out _).mono ?_; rintro e w1 ⟨rfl, rfl⟩)
              go_ret
              exact ⟨ret_bool (by rw [HX.out, Bool.eq_iff_iff]; simp; omega), (Q.refl _).alloc _⟩
            · go_enter Tryz.func92, Tryz.ntmps92
              go_wp2_with (go_at_call 40; refine (HI.out _).mono ?_; rintro e w1 ⟨rfl, rfl⟩)
              go_ret
              exact ⟨ret_bool (by rw [HX.out, Bool.eq_iff_iff]; simp; omega), (Q.refl _).alloc _⟩
          · go_enter Tryz.func92, Tryz.ntmps92
            go_wp2_with (go_at_call 40; refine (HI.out _).mono ?_; rintro e w1 ⟨rfl, rfl⟩)
            go_ret
            exact ⟨ret_bool (by rw [HX.out, Bool.eq_iff_iff]; simp; omega), (Q.refl _).alloc _⟩
        · go_enter Tryz.func92, Tryz.ntmps92
          go_wp2_with (go_at_call 40; refine (HI.out _).mono ?_; rintro e w1 ⟨rfl, rfl⟩)
          go_ret
          exact ⟨ret_bool (by rw [HX.out, Bool.eq_iff_iff]; simp; omega), (Q.refl _).alloc _⟩
      · go_enter Tryz.func92, Tryz.ntmps92
        go_wp2_with (go_at_call 40; refine (HI.out _).mono ?_; rintro e w1 ⟨rfl, rfl⟩)
        go_ret
        exact ⟨ret_bool (by rw [HX.out, Bool.eq_iff_iff]; simp; omega), (Q.refl _).alloc _⟩
set_option maxHeartbeats 1000000 in
theorem letters_any (s : ByteArray) (w : World) (hp : 0 < s.size) (hs : s.size ≤ 4000000000) :
    Calls Tryz.prog 91 #[.string s] w fun e w' => e = .returned (.bool (allL s.data.toList)) ∧ w' = w := by
  have e0 := toList_ne hp
  go_enter Tryz.func91, Tryz.ntmps91
  go_wp2
  go_loop [3] (fun i => ∃ k : Nat, k ≤ s.size ∧ i = .int .i64 k ∧ Hid (allL (s.data.toList.take k) = true)) (fun i => s.size - (intOf i).toNat)
  case atStart => exact ⟨0, Nat.zero_le _, rfl, rfl⟩
  case round =>
    obtain ⟨k, hk, rfl, ha⟩ := hrel
    by_cases hlt : k < s.size
    · by_cases hd : let1 s[k] = true
      · have ha' : Hid (allL (s.data.toList.take (k + 1)) = true) := by
          show _ = _
          have := ha.out
          rw [take_snoc s k hlt, allL_app, this]
          unfold allL
          simp [hd]
        have b0 : 65 ≤ (s[k].toNat : Int) := by unfold let1 at hd; simp at hd; omega
        have b1 : (s[k].toNat : Int) ≤ 90 := by unfold let1 at hd; simp at hd; omega
        clear hd
        go_wp2
        go_round
        case rel => exact ⟨k + 1, by omega, by go_num, ha'⟩
        case measure => simp [intOf]; omega
      · have hN := hid (allL_no s k hlt (by simpa using hd))
        by_cases b0 : (s[k].toNat : Int) < 65
        · clear hd
          go_wp2
          go_ret
          exact ⟨ret_bool hN.out.symm, rfl⟩
        · have b1 : 90 < (s[k].toNat : Int) := by unfold let1 at hd; simp at hd; omega
          clear hd
          go_wp2
          go_ret
          exact ⟨ret_bool hN.out.symm, rfl⟩
    · have hN : Hid (allL s.data.toList = true) := by
        show _ = _
        have := ha.out
        rw [take_all s k (by omega)] at this
        exact this
      go_wp2
      go_ret
      exact ⟨ret_bool hN.out.symm, rfl⟩
set_option maxHeartbeats 8000000 in
theorem om0 (k : Int) (sh : ByteArray) (x2 x3 x4 x5 x6 x7 x8 x9 x10 x11 x12 x13 x14 x15 x16 x17 x18 x19 x20 x21 x22 : Value) (w : World) (k0 : (k == 1) = false) (k1 : (k == 2) = false) (k2 : (k == 3) = false) (k3 : (k == 4) = false) (k4 : (k == 5) = false) (k5 : (k == 6) = false) (k6 : (k == 7) = false) (H0 : Hid ((#[.int .i64 k, .string sh, x2, x3, x4, x5, x6, x7, x8, x9, x10, x11, x12, x13, x14, x15, x16, x17, x18, x19, x20, x21, x22] : Array Value).all (·.oneCell') = true)) : Calls Tryz.prog 37 #[.agg #[.int .i64 k, .string sh, x2, x3, x4, x5, x6, x7, x8, x9, x10, x11, x12, x13, x14, x15, x16, x17, x18, x19, x20, x21, x22]] w fun e V' => e = .returned (.bool false) ∧ Q w V' := by
  go_enter Tryz.func37, Tryz.ntmps37
  go_upto_region 1 with fail
  have Z1 := hid (cq_new w [.int .i64 k, .string sh, x2, x3, x4, x5, x6, x7, x8, x9, x10, x11, x12, x13, x14, x15, x16, x17, x18, x19, x20, x21, x22])
  rw [show ([.int .i64 k, .string sh, x2, x3, x4, x5, x6, x7, x8, x9, x10, x11, x12, x13, x14, x15, x16, x17, x18, x19, x20, x21, x22] : List Value).toArray = #[.int .i64 k, .string sh, x2, x3, x4, x5, x6, x7, x8, x9, x10, x11, x12, x13, x14, x15, x16, x17, x18, x19, x20, x21, x22] from rfl] at Z1
  have QA : Hid (Q w (w.alloc (.cells #[.int .i64 k, .string sh, x2, x3, x4, x5, x6, x7, x8, x9, x10, x11, x12, x13, x14, x15, x16, x17, x18, x19, x20, x21, x22] 54))) := hid ((Q.refl w).alloc _)
  generalize w.alloc (.cells #[.int .i64 k, .string sh, x2, x3, x4, x5, x6, x7, x8, x9, x10, x11, x12, x13, x14, x15, x16, x17, x18, x19, x20, x21, x22] 54) = w1 at Z1 QA ⊢
  generalize w.heap.size = b0 at Z1 ⊢
  refine two (F := ?F) (fun HF => ?both) ?rest
  case both =>
    refine wp_region_any (by kernel_rfl) ?_
    change wpAny _ _ _ _ _ _ _ (World.drew _)
    refine wpAny_ready (rs := [0, 1]) (by kernel_rfl) (by simp) ?_
    refine AllReady.cons rfl (fun K hK => ?_) (AllReady.cons rfl (fun K hK => ?_) AllReady.nil)
    · refine step_load_row (by rfl) _ (by rfl) b0 (by rfl) [.int .i64 k, .string sh, x2, x3, x4, x5, x6, x7, x8, x9, x10, x11, x12, x13, x14, x15, x16, x17, x18, x19, x20, x21, x22] (Z1.out.on (Q.refl _).drew) (by rfl) (hK _ _ ?_)
      clear hK K
      refine wpAny_ready (rs := [1]) (by kernel_rfl) (by simp) ?_
      refine AllReady.cons rfl (fun K hK => ?_) AllReady.nil
      go_simp
      refine hK _ _ ?_
      clear hK K
      refine wpAny_ready (rs := [2]) (by kernel_rfl) (by simp) ?_
      refine AllReady.cons rfl (fun K hK => ?_) AllReady.nil
      go_simp
      refine hK _ _ ?_
      clear hK K
      refine wpAny_ready (rs := [3]) (by kernel_rfl) (by simp) ?_
      refine AllReady.cons rfl (fun K hK => ?_) AllReady.nil
      refine step_store_row (by rfl) 54 _ _ (by rfl) w1.heap.size #[.int .i64 k, .string sh, x2, x3, x4, x5, x6, x7, x8, x9, x10, x11, x12, x13, x14, x15, x16, x17, x18, x19, x20, x21, x22] (by rfl) (by rfl) 54 #[.int .i64 0, .string ⟨#[]⟩, .int .i64 0, .int .i64 0, .bool false, .int .i64 0, .int .i64 0, .string ⟨#[]⟩, .bool false, .int .i64 0, .int .i64 0, .int .i64 0, .string ⟨#[]⟩, .bool false, .int .i64 0, .slice none 0 0, .slice none 0 0, .int .i64 0, .int .i64 0, .int .i64 0, .slice none 0 0, .int .i64 0, .string ⟨#[]⟩] (heap_alloc_last w1 _) info35 (by rfl) H0.out (hK _ _ ?_)
      clear hK K
      refine wpAny_done (by kernel_rfl) ?_ _
      rw [set_new]
      exact HF
    · go_simp
      refine hK _ _ ?_
      clear hK K
      refine wpAny_ready (rs := [0, 2]) (by kernel_rfl) (by simp) ?_
      refine AllReady.cons rfl (fun K hK => ?_) (AllReady.cons rfl (fun K hK => ?_) AllReady.nil)
      · refine step_load_row (by rfl) _ (by rfl) b0 (by rfl) [.int .i64 k, .string sh, x2, x3, x4, x5, x6, x7, x8, x9, x10, x11, x12, x13, x14, x15, x16, x17, x18, x19, x20, x21, x22] (Z1.out.on (((Q.refl _).alloc _).drew)) (by rfl) (hK _ _ ?_)
        clear hK K
        refine wpAny_ready (rs := [2]) (by kernel_rfl) (by simp) ?_
        refine AllReady.cons rfl (fun K hK => ?_) AllReady.nil
        go_simp
        refine hK _ _ ?_
        clear hK K
        refine wpAny_ready (rs := [3]) (by kernel_rfl) (by simp) ?_
        refine AllReady.cons rfl (fun K hK => ?_) AllReady.nil
        refine step_store_row (by rfl) 54 _ _ (by rfl) w1.heap.size #[.int .i64 k, .string sh, x2, x3, x4, x5, x6, x7, x8, x9, x10, x11, x12, x13, x14, x15, x16, x17, x18, x19, x20, x21, x22] (by rfl) (by rfl) 54 #[.int .i64 0, .string ⟨#[]⟩, .int .i64 0, .int .i64 0, .bool false, .int .i64 0, .int .i64 0, .string ⟨#[]⟩, .bool false, .int .i64 0, .int .i64 0, .int .i64 0, .string ⟨#[]⟩, .bool false, .int .i64 0, .slice none 0 0, .slice none 0 0, .int .i64 0, .int .i64 0, .int .i64 0, .slice none 0 0, .int .i64 0, .string ⟨#[]⟩] (heap_alloc_last w1 _) info35 (by rfl) H0.out (hK _ _ ?_)
        clear hK K
        refine wpAny_done (by kernel_rfl) ?_ _
        rw [set_new]
        exact HF
      · go_simp
        refine hK _ _ ?_
        clear hK K
        refine wpAny_ready (rs := [0]) (by kernel_rfl) (by simp) ?_
        refine AllReady.cons rfl (fun K hK => ?_) AllReady.nil
        refine step_load_row (by rfl) _ (by rfl) b0 (by rfl) [.int .i64 k, .string sh, x2, x3, x4, x5, x6, x7, x8, x9, x10, x11, x12, x13, x14, x15, x16, x17, x18, x19, x20, x21, x22] (Z1.out.on (((Q.refl _).alloc _).drew)) (by rfl) (hK _ _ ?_)
        clear hK K
        refine wpAny_ready (rs := [3]) (by kernel_rfl) (by simp) ?_
        refine AllReady.cons rfl (fun K hK => ?_) AllReady.nil
        refine step_store_row (by rfl) 54 _ _ (by rfl) w1.heap.size #[.int .i64 k, .string sh, x2, x3, x4, x5, x6, x7, x8, x9, x10, x11, x12, x13, x14, x15, x16, x17, x18, x19, x20, x21, x22] (by rfl) (by rfl) 54 #[.int .i64 0, .string ⟨#[]⟩, .int .i64 0, .int .i64 0, .bool false, .int .i64 0, .int .i64 0, .string ⟨#[]⟩, .bool false, .int .i64 0, .int .i64 0, .int .i64 0, .string ⟨#[]⟩, .bool false, .int .i64 0, .slice none 0 0, .slice none 0 0, .int .i64 0, .int .i64 0, .int .i64 0, .slice none 0 0, .int .i64 0, .string ⟨#[]⟩] (heap_alloc_last w1 _) info35 (by rfl) H0.out (hK _ _ ?_)
        clear hK K
        refine wpAny_done (by kernel_rfl) ?_ _
        rw [set_new]
        exact HF
  have Z2 := hid ((cq_new w1 [.int .i64 k, .string sh, x2, x3, x4, x5, x6, x7, x8, x9, x10, x11, x12, x13, x14, x15, x16, x17, x18, x19, x20, x21, x22]).on (Q.refl _).drew)
  rw [show ([.int .i64 k, .string sh, x2, x3, x4, x5, x6, x7, x8, x9, x10, x11, x12, x13, x14, x15, x16, x17, x18, x19, x20, x21, x22] : List Value).toArray = #[.int .i64 k, .string sh, x2, x3, x4, x5, x6, x7, x8, x9, x10, x11, x12, x13, x14, x15, x16, x17, x18, x19, x20, x21, x22] from rfl] at Z2
  have Z0 := hid (Z1.out.on (((Q.refl w1).alloc (.cells #[.int .i64 k, .string sh, x2, x3, x4, x5, x6, x7, x8, x9, x10, x11, x12, x13, x14, x15, x16, x17, x18, x19, x20, x21, x22] 54)).drew))
  have QB : Hid (Q w ((w1.alloc (.cells #[.int .i64 k, .string sh, x2, x3, x4, x5, x6, x7, x8, x9, x10, x11, x12, x13, x14, x15, x16, x17, x18, x19, x20, x21, x22] 54)).drew)) := hid ((QA.out.alloc _).drew)
  have hb1 : w.heap.size ≤ w1.heap.size := QA.out.size
  have hne : b0 ≠ w1.heap.size := Nat.ne_of_lt Z1.out.l
  generalize (w1.alloc (.cells #[.int .i64 k, .string sh, x2, x3, x4, x5, x6, x7, x8, x9, x10, x11, x12, x13, x14, x15, x16, x17, x18, x19, x20, x21, x22] 54)).drew = w2 at Z0 Z2 QB ⊢
  generalize w1.heap.size = b1x at Z2 hb1 hne ⊢
  clear Z1 QA
  have d0 := Z0.out.c 0 _ rfl
  go_wp2_with fail
  go_ret
  exact ⟨rfl, by repeat (first | exact QB.out | refine Q.setCell ?_ hb1 _)⟩
set_option maxHeartbeats 8000000 in
theorem om5 (k : Int) (sh : ByteArray) (x2 x3 x4 x5 x6 x7 x8 x9 x10 x11 x12 x13 x14 x15 x16 x17 x18 x19 x20 x21 x22 : Value) (w : World) (p1 : Bool) (ib eb : Bool) (k0 : (k == 1) = false) (k1 : (k == 2) = false) (k2 : (k == 3) = false) (k3 : (k == 4) = false) (k4 : (k == 5) = true) (H0 : Hid ((#[.int .i64 k, .string sh, x2, x3, x4, x5, x6, x7, x8, x9, x10, x11, x12, x13, x14, x15, x16, x17, x18, x19, x20, x21, x22] : Array Value).all (·.oneCell') = true)) (H1 : Hid (∀ V, Q w V → Calls Tryz.prog 68 #[x22] V fun e V' => e = .returned (.bool p1) ∧ Q V V')) (HI : Hid (∀ V, Q w V → Calls Tryz.prog 69 #[.string sh] V fun e V' => e = .returned (.bool ib) ∧ Q V V')) (HE : Hid (∀ V, Q w V → Calls Tryz.prog 70 #[.agg #[.int .i64 k, .string sh, x2, x3, x4, x5, x6, x7, x8, x9, x10, x11, x12, x13, x14, x15, x16, x17, x18, x19, x20, x21, .string ⟨#[]⟩], .agg #[.int .i64 k, .string sh, .int .i64 0, .int .i64 0, .bool false, .int .i64 0, .int .i64 0, .string ⟨#[]⟩, .bool false, .int .i64 0, .int .i64 0, .int .i64 0, .string ⟨#[]⟩, .bool false, .int .i64 0, .slice none 0 0, .slice none 0 0, .int .i64 0, .int .i64 0, .int .i64 0, .slice none 0 0, .int .i64 0, .string ⟨#[]⟩]] V fun e V' => e = .returned (.bool eb) ∧ Q V V')) : Calls Tryz.prog 37 #[.agg #[.int .i64 k, .string sh, x2, x3, x4, x5, x6, x7, x8, x9, x10, x11, x12, x13, x14, x15, x16, x17, x18, x19, x20, x21, x22]] w fun e V' => e = .returned (.bool (p1 && (ib && eb))) ∧ Q w V' := by
  go_enter Tryz.func37, Tryz.ntmps37
  go_upto_region 1 with fail
  have Z1 := hid (cq_new w [.int .i64 k, .string sh, x2, x3, x4, x5, x6, x7, x8, x9, x10, x11, x12, x13, x14, x15, x16, x17, x18, x19, x20, x21, x22])
  rw [show ([.int .i64 k, .string sh, x2, x3, x4, x5, x6, x7, x8, x9, x10, x11, x12, x13, x14, x15, x16, x17, x18, x19, x20, x21, x22] : List Value).toArray = #[.int .i64 k, .string sh, x2, x3, x4, x5, x6, x7, x8, x9, x10, x11, x12, x13, x14, x15, x16, x17, x18, x19, x20, x21, x22] from rfl] at Z1
  have QA : Hid (Q w (w.alloc (.cells #[.int .i64 k, .string sh, x2, x3, x4, x5, x6, x7, x8, x9, x10, x11, x12, x13, x14, x15, x16, x17, x18, x19, x20, x21, x22] 54))) := hid ((Q.refl w).alloc _)
  generalize w.alloc (.cells #[.int .i64 k, .string sh, x2, x3, x4, x5, x6, x7, x8, x9, x10, x11, x12, x13, x14, x15, x16, x17, x18, x19, x20, x21, x22] 54) = w1 at Z1 QA ⊢
  generalize w.heap.size = b0 at Z1 ⊢
  refine two (F := ?F) (fun HF => ?both) ?rest
  case both =>
    refine wp_region_any (by kernel_rfl) ?_
    change wpAny _ _ _ _ _ _ _ (World.drew _)
    refine wpAny_ready (rs := [0, 1]) (by kernel_rfl) (by simp) ?_
    refine AllReady.cons rfl (fun K hK => ?_) (AllReady.cons rfl (fun K hK => ?_) AllReady.nil)
    · refine step_load_row (by rfl) _ (by rfl) b0 (by rfl) [.int .i64 k, .string sh, x2, x3, x4, x5, x6, x7, x8, x9, x10, x11, x12, x13, x14, x15, x16, x17, x18, x19, x20, x21, x22] (Z1.out.on (Q.refl _).drew) (by rfl) (hK _ _ ?_)
      clear hK K
      refine wpAny_ready (rs := [1]) (by kernel_rfl) (by simp) ?_
      refine AllReady.cons rfl (fun K hK => ?_) AllReady.nil
      go_simp
      refine hK _ _ ?_
      clear hK K
      refine wpAny_ready (rs := [2]) (by kernel_rfl) (by simp) ?_
      refine AllReady.cons rfl (fun K hK => ?_) AllReady.nil
      go_simp
      refine hK _ _ ?_
      clear hK K
      refine wpAny_ready (rs := [3]) (by kernel_rfl) (by simp) ?_
      refine AllReady.cons rfl (fun K hK => ?_) AllReady.nil
      refine step_store_row (by rfl) 54 _ _ (by rfl) w1.heap.size #[.int .i64 k, .string sh, x2, x3, x4, x5, x6, x7, x8, x9, x10, x11, x12, x13, x14, x15, x16, x17, x18, x19, x20, x21, x22] (by rfl) (by rfl) 54 #[.int .i64 0, .string ⟨#[]⟩, .int .i64 0, .int .i64 0, .bool false, .int .i64 0, .int .i64 0, .string ⟨#[]⟩, .bool false, .int .i64 0, .int .i64 0, .int .i64 0, .string ⟨#[]⟩, .bool false, .int .i64 0, .slice none 0 0, .slice none 0 0, .int .i64 0, .int .i64 0, .int .i64 0, .slice none 0 0, .int .i64 0, .string ⟨#[]⟩] (heap_alloc_last w1 _) info35 (by rfl) H0.out (hK _ _ ?_)
      clear hK K
      refine wpAny_done (by kernel_rfl) ?_ _
      rw [set_new]
      exact HF
    · go_simp
      refine hK _ _ ?_
      clear hK K
      refine wpAny_ready (rs := [0, 2]) (by kernel_rfl) (by simp) ?_
      refine AllReady.cons rfl (fun K hK => ?_) (AllReady.cons rfl (fun K hK => ?_) AllReady.nil)
      · refine step_load_row (by rfl) _ (by rfl) b0 (by rfl) [.int .i64 k, .string sh, x2, x3, x4, x5, x6, x7, x8, x9, x10, x11, x12, x13, x14, x15, x16, x17, x18, x19, x20, x21, x22] (Z1.out.on (((Q.refl _).alloc _).drew)) (by rfl) (hK _ _ ?_)
        clear hK K
        refine wpAny_ready (rs := [2]) (by kernel_rfl) (by simp) ?_
        refine AllReady.cons rfl (fun K hK => ?_) AllReady.nil
        go_simp
        refine hK _ _ ?_
        clear hK K
        refine wpAny_ready (rs := [3]) (by kernel_rfl) (by simp) ?_
        refine AllReady.cons rfl (fun K hK => ?_) AllReady.nil
        refine step_store_row (by rfl) 54 _ _ (by rfl) w1.heap.size #[.int .i64 k, .string sh, x2, x3, x4, x5, x6, x7, x8, x9, x10, x11, x12, x13, x14, x15, x16, x17, x18, x19, x20, x21, x22] (by rfl) (by rfl) 54 #[.int .i64 0, .string ⟨#[]⟩, .int .i64 0, .int .i64 0, .bool false, .int .i64 0, .int .i64 0, .string ⟨#[]⟩, .bool false, .int .i64 0, .int .i64 0, .int .i64 0, .string ⟨#[]⟩, .bool false, .int .i64 0, .slice none 0 0, .slice none 0 0, .int .i64 0, .int .i64 0, .int .i64 0, .slice none 0 0, .int .i64 0, .string ⟨#[]⟩] (heap_alloc_last w1 _) info35 (by rfl) H0.out (hK _ _ ?_)
        clear hK K
        refine wpAny_done (by kernel_rfl) ?_ _
        rw [set_new]
        exact HF
      · go_simp
        refine hK _ _ ?_
        clear hK K
        refine wpAny_ready (rs := [0]) (by kernel_rfl) (by simp) ?_
        refine AllReady.cons rfl (fun K hK => ?_) AllReady.nil
        refine step_load_row (by rfl) _ (by rfl) b0 (by rfl) [.int .i64 k, .string sh, x2, x3, x4, x5, x6, x7, x8, x9, x10, x11, x12, x13, x14, x15, x16, x17, x18, x19, x20, x21, x22] (Z1.out.on (((Q.refl _).alloc _).drew)) (by rfl) (hK _ _ ?_)
        clear hK K
        refine wpAny_ready (rs := [3]) (by kernel_rfl) (by simp) ?_
        refine AllReady.cons rfl (fun K hK => ?_) AllReady.nil
        refine step_store_row (by rfl) 54 _ _ (by rfl) w1.heap.size #[.int .i64 k, .string sh, x2, x3, x4, x5, x6, x7, x8, x9, x10, x11, x12, x13, x14, x15, x16, x17, x18, x19, x20, x21, x22] (by rfl) (by rfl) 54 #[.int .i64 0, .string ⟨#[]⟩, .int .i64 0, .int .i64 0, .bool false, .int .i64 0, .int .i64 0, .string ⟨#[]⟩, .bool false, .int .i64 0, .int .i64 0, .int .i64 0, .string ⟨#[]⟩, .bool false, .int .i64 0, .slice none 0 0, .slice none 0 0, .int .i64 0, .int .i64 0, .int .i64 0, .slice none 0 0, .int .i64 0, .string ⟨#[]⟩] (heap_alloc_last w1 _) info35 (by rfl) H0.out (hK _ _ ?_)
        clear hK K
        refine wpAny_done (by kernel_rfl) ?_ _
        rw [set_new]
        exact HF
  have Z2 := hid ((cq_new w1 [.int .i64 k, .string sh, x2, x3, x4, x5, x6, x7, x8, x9, x10, x11, x12, x13, x14, x15, x16, x17, x18, x19, x20, x21, x22]).on (Q.refl _).drew)
  rw [show ([.int .i64 k, .string sh, x2, x3, x4, x5, x6, x7, x8, x9, x10, x11, x12, x13, x14, x15, x16, x17, x18, x19, x20, x21, x22] : List Value).toArray = #[.int .i64 k, .string sh, x2, x3, x4, x5, x6, x7, x8, x9, x10, x11, x12, x13, x14, x15, x16, x17, x18, x19, x20, x21, x22] from rfl] at Z2
  have Z0 := hid (Z1.out.on (((Q.refl w1).alloc (.cells #[.int .i64 k, .string sh, x2, x3, x4, x5, x6, x7, x8, x9, x10, x11, x12, x13, x14, x15, x16, x17, x18, x19, x20, x21, x22] 54)).drew))
  have QB : Hid (Q w ((w1.alloc (.cells #[.int .i64 k, .string sh, x2, x3, x4, x5, x6, x7, x8, x9, x10, x11, x12, x13, x14, x15, x16, x17, x18, x19, x20, x21, x22] 54)).drew)) := hid ((QA.out.alloc _).drew)
  have hb1 : w.heap.size ≤ w1.heap.size := QA.out.size
  have hne : b0 ≠ w1.heap.size := Nat.ne_of_lt Z1.out.l
  generalize (w1.alloc (.cells #[.int .i64 k, .string sh, x2, x3, x4, x5, x6, x7, x8, x9, x10, x11, x12, x13, x14, x15, x16, x17, x18, x19, x20, x21, x22] 54)).drew = w2 at Z0 Z2 QB ⊢
  generalize w1.heap.size = b1x at Z2 hb1 hne ⊢
  clear Z1 QA
  have d0 := Z0.out.c 0 _ rfl
  have d22 := Z0.out.c 22 _ rfl
  have u22 := Z2.out.c 22 _ rfl; have uf22 := Z2.out.f 22
  cases p1 with
  | false =>
    go_wp2_with (first | (go_at_call 68; refine (H1.out _ QB.out).mono ?_; rintro e9 v0 ⟨rfl, q9⟩; have QC0 : Hid (Q w v0) := hid (QB.out.trans q9); have Z10 := hid (Z0.out.on q9); have Z20 := hid (Z2.out.on q9); clear q9; have d0_0 := Z10.out.c 0 _ rfl; have d0_22 := Z10.out.c 22 _ rfl; have u0_22 := Z20.out.c 22 _ rfl; have uf0_22 := Z20.out.f 22))
    go_ret
    exact ⟨rfl, by repeat (first | exact QC0.out | refine Q.setCell ?_ hb1 _)⟩
  | true =>
    go_upto_region 17 with (first | (go_at_call 68; refine (H1.out _ QB.out).mono ?_; rintro e9 v0 ⟨rfl, q9⟩; have QC0 : Hid (Q w v0) := hid (QB.out.trans q9); have Z10 := hid (Z0.out.on q9); have Z20 := hid (Z2.out.on q9); clear q9; have d0_0 := Z10.out.c 0 _ rfl; have d0_22 := Z10.out.c 22 _ rfl; have u0_22 := Z20.out.c 22 _ rfl; have uf0_22 := Z20.out.f 22))
    have QV : Hid (Q w (v0.setCell ⟨b1x, 22, none⟩ (.string ⟨#[]⟩))) := hid (by repeat (first | exact QC0.out | refine Q.setCell ?_ hb1 _))
    have Z1V : Hid (Cq (v0.setCell ⟨b1x, 22, none⟩ (.string ⟨#[]⟩)) b0 [.int .i64 k, .string sh, x2, x3, x4, x5, x6, x7, x8, x9, x10, x11, x12, x13, x14, x15, x16, x17, x18, x19, x20, x21, x22]) := hid ((Z10.out.oth hne 22 (.string ⟨#[]⟩)))
    have Z2V : Hid (Cq (v0.setCell ⟨b1x, 22, none⟩ (.string ⟨#[]⟩)) b1x [.int .i64 k, .string sh, x2, x3, x4, x5, x6, x7, x8, x9, x10, x11, x12, x13, x14, x15, x16, x17, x18, x19, x20, x21, .string ⟨#[]⟩]) := hid ((Z20.out.put 22 (.string ⟨#[]⟩)))
    generalize (v0.setCell ⟨b1x, 22, none⟩ (.string ⟨#[]⟩)) = V at QV Z1V Z2V ⊢
    clear d0 d22 u22 uf22 d0_0 d0_22 u0_22 uf0_22
    have g0 := Z1V.out.c 0 _ rfl
    have g1 := Z1V.out.c 1 _ rfl
    cases ib with
    | false =>
      go_wp2_with (go_at_call 69; refine (HI.out _ QV.out).mono ?_; rintro e9 y1 ⟨rfl, q9⟩; have QY : Hid (Q w y1) := hid (QV.out.trans q9); clear q9)
      go_ret
      exact ⟨rfl, QY.out⟩
    | true =>
      go_wp2_with (first | (go_at_call 69; refine (HI.out _ QV.out).mono ?_; rintro e9 y1 ⟨rfl, q9⟩; have QY : Hid (Q w y1) := hid (QV.out.trans q9); have Z1Y := hid (Z1V.out.on q9); have Z2Y := hid (Z2V.out.on q9); clear q9; have g0' := Z1Y.out.c 0 _ rfl; have g1' := Z1Y.out.c 1 _ rfl) | (refine wpl_loadg _ (by rfl) (by rfl) b1x (by rfl) [.int .i64 k, .string sh, x2, x3, x4, x5, x6, x7, x8, x9, x10, x11, x12, x13, x14, x15, x16, x17, x18, x19, x20, x21, .string ⟨#[]⟩] Z2Y.out (by rfl) ?_) | (refine wpl_buildg _ (by rfl) (by rfl) #[.int .i64 k, .string sh, .int .i64 0, .int .i64 0, .bool false, .int .i64 0, .int .i64 0, .string ⟨#[]⟩, .bool false, .int .i64 0, .int .i64 0, .int .i64 0, .string ⟨#[]⟩, .bool false, .int .i64 0, .slice none 0 0, .slice none 0 0, .int .i64 0, .int .i64 0, .int .i64 0, .slice none 0 0, .int .i64 0, .string ⟨#[]⟩] (by kernel_rfl) ?_) | (go_at_call 70; refine (HE.out _ QY.out).mono ?_; rintro e9 y2 ⟨rfl, q9⟩; have QY2 : Hid (Q w y2) := hid (QY.out.trans q9); clear q9))
      go_ret
      exact ⟨rfl, QY2.out⟩
end Go.Proofs.YtcgddnliiondoaaGreatDoor
