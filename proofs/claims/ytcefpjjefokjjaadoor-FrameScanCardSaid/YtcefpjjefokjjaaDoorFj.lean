/- Shortening; what comes in as rows of bytes; rows of numbers. -/
import Derived.Test.YtcefpjjefokjjaaDoorFi
namespace Go.Proofs.YtcefpjjefokjjaaDoor
open Go.RowKit
set_option linter.unusedVariables false
set_option linter.unusedSimpArgs false

set_option maxRecDepth 100000 in
set_option maxHeartbeats 2000000 in
theorem short_any (v : Value) (L : List UInt8) (n : Nat) (w : World) (hv : Sb w v L) (hn : n ≤ 1000) : Calls Tryd.prog 7 #[v, .int .i64 n] w fun e W' => (∃ v', e = .returned v' ∧ Sb w v' (L.take n)) ∧ W' = w := by
  have HV := hid hv
  obtain ⟨ao, cap, rfl, h1, h2⟩ := hv.s.len
  by_cases hl : n < L.length
  · obtain ⟨a, c, hr, hs⟩ := sb_to hv n (by omega)
    have r := hr.out
    have HS := hid hs
    have hl' : (n : Int) < (L.length : Int) := by omega
    clear hv hr hs
    go_enter Tryd.func7, Tryd.ntmps7
    go_wp2_with fail
    go_ret
    exact ⟨⟨_, rfl, HS.out⟩, rfl⟩
  · have hl' : ¬ (n : Int) < (L.length : Int) := by omega
    have HS : Hid (Sb w (.slice ao L.length cap) (L.take n)) := hid (by rw [List.take_of_length_le (by omega)]; exact HV.out)
    clear hv
    go_enter Tryd.func7, Tryd.ntmps7
    go_wp2_with fail
    go_ret
    exact ⟨⟨_, rfl, HS.out⟩, rfl⟩
/-- rows of bytes that came in -/
def Parts (W : World) (v : Value) (LL : List (List UInt8)) : Prop :=
  ∃ vs : List Value, vs.length = LL.length ∧ Sl ev 1 W v vs ∧ ∀ i (h : i < vs.length) (h' : i < LL.length), Sb W vs[i] LL[i]
theorem Parts.on {W W' : World} {v : Value} {LL : List (List UInt8)} (h : Parts W v LL) (q : Q W W') : Parts W' v LL := by
  obtain ⟨vs, h1, h2, h3⟩ := h
  exact ⟨vs, h1, h2.on q, fun i a b => (h3 i a b).on q⟩
theorem Parts.len {W : World} {v : Value} {LL : List (List UInt8)} (h : Parts W v LL) : ∃ ao cap, v = .slice ao LL.length cap ∧ LL.length ≤ cap ∧ cap ≤ maxLen := by
  obtain ⟨vs, h1, h2, h3⟩ := h
  rw [← h1]
  exact h2.len
theorem Parts.at {W : World} {ao : Option Addr} {n cap : Nat} {LL : List (List UInt8)} (h : Parts W (.slice ao n cap) LL) (i : Nat) (hi : i < LL.length) :
    ∃ g o x, ao = some ⟨g, o, none⟩ ∧ W.cell? ⟨g, o + i, none⟩ = some x ∧ Sb W x LL[i] := by
  obtain ⟨vs, h1, h2, h3⟩ := h
  obtain ⟨g, o, cap', e, hc⟩ := ev_cell h2 (by omega)
  cases e
  exact ⟨g, o, _, rfl, hc i (by omega), h3 i (by omega) hi⟩
/-- a number in a row of numbers -/
def ie (n : Nat) : List Value := [.int .i64 n]
theorem ie_len (n : Nat) : (ie n).length = 1 := rfl
theorem info3 : (Tryd.prog.info? 3).map (fun i => (i.zero, i.size, i.bytes)) = some (some (.int .i64 0), 1, 8) := by kernel_rfl
theorem ie_cell {w : World} {v : Value} {D : List Nat} (h : Sl ie 1 w v D) (h0 : 0 < D.length) : ∃ g o cap, v = .slice (some ⟨g, o, none⟩) D.length cap ∧ ∀ i (hi : i < D.length), w.cell? ⟨g, o + i, none⟩ = some (.int .i64 (D[i] : Nat)) := by
  obtain ⟨ao, cap, rfl, h1, h2, hc⟩ := h
  obtain ⟨g, o, rfl, hd⟩ := hc (by omega)
  refine ⟨g, o, cap, rfl, fun i hi => ?_⟩
  have := hd i (by omega) 0 (.int .i64 (D[i]'(by omega) : Nat)) rfl
  rw [show o + i * 1 + 0 = o + i by omega] at this
  exact this
/-- rows of other types have other blocks -/
theorem own_ne {α β : Type} {enc : α → List Value} {enc' : β → List Value} {e e' : TypeId} {k k' B B' : Nat} {W : World} {x o : Value} {L : List α} {M : List β} (hne : e ≠ e') (h1 : Own enc e k B W x L) (h2 : Own enc' e' k' B' W o M) : x.ownBlock = none ∨ x.ownBlock ≠ o.ownBlock := by
  rcases h1.2 with ⟨hv, _⟩ | ⟨g, cap, cur, hv, _, hg, _⟩
  · left; rw [hv]; rfl
  · right
    rcases h2.2 with ⟨hv2, _⟩ | ⟨g2, cap2, cur2, hv2, _, hg2, _⟩
    · rw [hv, hv2]
      intro e
      cases e
    · rw [hv, hv2]
      intro e
      have e' : g = g2 := Option.some.inj e
      subst e'
      rw [hg] at hg2
      exact hne (by injection hg2 with h; injection h)
theorem own_q {α : Type} {enc : α → List Value} {e : TypeId} {k : Nat} {w W W' : World} {o : Value} {L : List α} (q : Q w W) (ho : Own enc e k w.heap.size W o L) (hg : W.grownBy W' o.ownBlock) : Q w W' :=
  Below.grown q hg q.size (fun j hj => by have := (World.ownsRow.lt ho j hj).1; omega)
/-- the parts that count -/
def ps (k c : Nat) (LL : List (List UInt8)) : List (List UInt8) := (LL.take c).map (List.take k)
theorem ps_len (k c : Nat) (LL : List (List UInt8)) : (ps k c LL).length = min c LL.length := by simp [ps]
theorem ps_le (k c : Nat) (LL : List (List UInt8)) : ∀ P ∈ ps k c LL, P.length ≤ k := by
  intro P hP
  obtain ⟨L, _, rfl⟩ := List.mem_map.1 hP
  simp
  omega
theorem ps_at (k c : Nat) (LL : List (List UInt8)) (i : Nat) (hi : i < LL.length) (hc : i < c) : (ps k c LL)[i]'(by rw [ps_len]; omega) = LL[i].take k := by simp [ps]
/-- the file of the first of them -/
def fl (Ps : List (List UInt8)) (n : Nat) : List UInt8 := (Ps.take n).flatMap frm
theorem fl_len (Ps : List (List UInt8)) (n : Nat) : (fl Ps n).length = en Ps n := rfl
theorem fl_succ (Ps : List (List UInt8)) (n : Nat) (h : n < Ps.length) : fl Ps (n + 1) = fl Ps n ++ frm Ps[n] := by
  unfold fl
  rw [List.take_succ_eq_append_getElem h, List.flatMap_append]
  simp
theorem en_le (k : Nat) (Ps : List (List UInt8)) (hk : ∀ P ∈ Ps, P.length ≤ k) : ∀ n, en Ps n ≤ Ps.length * (8 + k) := by
  induction Ps with
  | nil => intro n; simp [en]
  | cons P Ps ih =>
    intro n
    have h1 := hk P (by simp)
    have h2 := ih (fun Q hQ => hk Q (by simp [hQ]))
    cases n with
    | zero => rw [en_zero]; omega
    | succ n =>
      rw [en_succ, List.length_cons, Nat.succ_mul]
      have := h2 n
      omega
/-- where each of them ends -/
def ends (Ps : List (List UInt8)) (n : Nat) : List Nat := (List.range n).map fun j => en Ps (j + 1)
theorem ends_len (Ps : List (List UInt8)) (n : Nat) : (ends Ps n).length = n := by simp [ends]
theorem ends_succ (Ps : List (List UInt8)) (n : Nat) : ends Ps (n + 1) = ends Ps n ++ [en Ps (n + 1)] := by simp [ends, List.range_succ]
theorem ends_at (Ps : List (List UInt8)) (n i : Nat) (h : i < n) : (ends Ps n)[i]'(by rw [ends_len]; exact h) = en Ps (i + 1) := by simp [ends]
end Go.Proofs.YtcefpjjefokjjaaDoor
