/- counterpanelaw2.CutAll: some values, none of them too great, in a slice of the call's own. -/
import Derived.Test.YtkhecmafhcdalaaDoorW3
import Derived.Laws.AppendOwn
namespace Go.Proofs.YtkhecmafhcdalaaDoor
open Go.RowKit
set_option linter.unusedVariables false
set_option linter.unusedSimpArgs false

def Cv.cells (x : Cv) : List Value := [.int .i64 x.k, .int .i64 x.n, .string x.t, .bool x.b, .int .i64 x.e]
def Cv.cut (x : Cv) : Cv := { x with t := cutT x.t }
def flat (l : List Cv) : List Value := l.flatMap fun x => x.cut.cells

theorem info30 : (Tryd.prog.info? 30).map (fun i => (i.zero, i.size, i.bytes)) = some (some (.agg #[.int .i64 0, .int .i64 0, .string ⟨#[]⟩, .bool false, .int .i64 0]), 5, 48) := by kernel_rfl

theorem own_on {W W' : World} {B n : Nat} {v : Value} {xs : List Value} (h : W.ownsRow B 30 5 v n xs) (q : Q W W') : W'.ownsRow B 30 5 v n xs := by
  obtain ⟨hl, h⟩ := h
  refine ⟨hl, ?_⟩
  rcases h with h | ⟨g, cap, cur, hv, hb, hg, h1, h2, h3, h4⟩
  · exact .inl h
  · have hlt : g < W.heap.size := by
      rcases Nat.lt_or_ge g W.heap.size with h' | h'
      · exact h'
      · rw [Array.getElem?_eq_none h'] at hg; cases hg
    exact .inr ⟨g, cap, cur, hv, hb, by rw [Below.block q g hlt]; exact hg, h1, h2, h3, h4⟩
theorem own_blk {W : World} {B n : Nat} {v : Value} {xs : List Value} (h : W.ownsRow B 30 5 v n xs) : ∀ k, v.ownBlock = some k → B ≤ k := by
  intro k hk
  obtain ⟨_, h⟩ := h
  rcases h with ⟨hv, _⟩ | ⟨g, cap, cur, hv, hg, _⟩
  · rw [hv] at hk; cases hk
  · rw [hv] at hk
    cases hk
    exact hg
theorem flat_succ (l : List Cv) (k : Nat) (h : k < l.length) : flat (l.take (k + 1)) = flat (l.take k) ++ (l.getD k cv0).cut.cells := by
  unfold flat
  rw [List.take_succ_eq_append_getElem h, List.flatMap_append]
  simp [List.getD_eq_getElem?_getD, List.getElem?_eq_getElem h]

set_option maxRecDepth 100000 in
set_option maxHeartbeats 4000000 in
theorem cutAll_row (b off len cap n : Nat) (l : List Cv) (w : World) (hn : (len ≤ 30 ∧ n = len) ∨ (30 < len ∧ n = 30)) (hm : (len : Int) ≤ 9223372036854775807) (hl : l.length = n)
    (hc : ∀ i, i < n → At5 w b (off + i * 5) (l.getD i cv0)) :
    Calls Tryd.prog 29 #[.slice (some ⟨b, off, none⟩) len cap, .int .i64 30] w fun x w' => ∃ v, x = .returned v ∧ w'.ownsRow w.heap.size 30 5 v n (flat l) ∧ Q w w' := by
  have HC := hid hc
  have HL := hid hl
  obtain ⟨i0, hi, hz⟩ := Option.map_eq_some_iff.1 info30
  simp only [Prod.mk.injEq] at hz
  obtain ⟨hz0, hz1, hz2⟩ := hz
  have HI := hid hi
  have HZ := hid (And.intro hz0 (And.intro hz1 hz2))
  clear hi hz0 hz1 hz2 hc hl
  have hn30 : n ≤ 30 := by omega
  have hnl : n ≤ len := by omega
  go_enter Tryd.func29, Tryd.ntmps29
  go_wp2
  go_loopw [5, 6] (fun v i W => ∃ k : Nat, k ≤ n ∧ i = .int .i64 k ∧ W.ownsRow w.heap.size 30 5 v k (flat (l.take k)) ∧ Q w W) (fun _ i _ => n - (intOf i).toNat)
  case atStart => exact ⟨0, Nat.zero_le _, rfl, World.ownsRow_nil _ _ _ _, Q.refl _⟩
  case round =>
    obtain ⟨k, hk, rfl, hown, hq⟩ := hrel
    by_cases hlt : k < n
    · have hkl : (k : Int) < (len : Int) := by omega
      have hk30 : (k : Int) < 30 := by omega
      have a5 := (HC.out k hlt).on hq
      have hF := hid (flat_succ l k (by have := HL.out; omega))
      generalize l.getD k cv0 = x at *
      obtain ⟨xk, xn, xt, xb, xe⟩ := x
      obtain ⟨c0, c1, c2, c3, c4⟩ := a5
      simp only at c0 c1 c2 c3 c4
      have HU := hid (fun W => cut_any2 xk xn xt xb xe W)
      unfold vv at HU
      have HOW := hid hown
      have HQ := hid hq
      clear hown hq hn
      go_wp2_with (first
        | (go_at_call 14; refine (HU.out _).mono ?_; rintro r w2 ⟨rfl, q2⟩)
        | (at_builtin; refine wpList_append_own _ rfl _ _ 43 rfl w.heap.size 30 i0 (.agg #[.int .i64 0, .int .i64 0, .string ⟨#[]⟩, .bool false, .int .i64 0]) 5 48 Tryd.underlying43 HI.out HZ.out.1 HZ.out.2.1 HZ.out.2.2 rfl (by decide) _ _ _ rfl ((own_on HOW.out q2).alloc _) ⟨w2.heap.size, 0, none⟩ 1 1 [.int .i64 xk, .int .i64 xn, .string (cutT xt), .bool xb, .int .i64 xe] rfl rfl ?c1 ?c2 ?c3 ?c4 ?c5 ?_))
      case c1 =>
        intro j u hj
        match j, hj with
        | 0, hj => simp at hj; subst hj; simp [Addr.add]
        | 1, hj => simp at hj; subst hj; simp [Addr.add]
        | 2, hj => simp at hj; subst hj; simp [Addr.add]
        | 3, hj => simp at hj; subst hj; simp [Addr.add]
        | 4, hj => simp at hj; subst hj; simp [Addr.add]
        | j + 5, hj => simp at hj
      case c2 =>
        intro u hu
        simp at hu
        rcases hu with rfl | rfl | rfl | rfl | rfl <;> rfl
      case c3 => unfold maxLen; omega
      case c4 => omega
      case c5 => have := (HQ.out.trans q2).size; simp; omega
      · intro v' w3 hown' hgrow _
        have HO2 : Hid (w3.ownsRow w.heap.size 30 5 v' (k + 1) (flat (l.take (k + 1)))) := by
          show World.ownsRow _ _ _ _ _ _ _
          rw [hF.out]
          exact hown'
        have HQ2 : Hid (Q w w3) := Below.grown ((HQ.out.trans q2).alloc _) hgrow (by have := (HQ.out.trans q2).size; simp; omega) (own_blk HOW.out)
        clear hown' hgrow
        go_wp2
        go_roundw
        case rel => exact ⟨k + 1, by omega, by go_num, HO2.out, HQ2.out⟩
        case measure => simp [intOf]; omega
    · have hkn : k = n := by omega
      subst hkn
      have HOW : Hid (wr.ownsRow w.heap.size 30 5 u5 k (flat l)) := by
        show World.ownsRow _ _ _ _ _ _ _
        have h := hown
        rw [List.take_of_length_le (by have := HL.out; omega)] at h
        exact h
      clear hown
      rcases hn with ⟨h1, h2⟩ | ⟨h1, h2⟩
      · have hkl : ¬ (k : Int) < (len : Int) := by omega
        clear h1 h2 hn30 hnl hlt
        go_wp2
        go_ret
        exact ⟨_, rfl, HOW.out, hq⟩
      · have hkl : (k : Int) < (len : Int) := by omega
        have hk3 : ¬ (k : Int) < 30 := by omega
        clear h1 h2 hn30 hnl hlt
        go_wp2
        go_ret
        exact ⟨_, rfl, HOW.out, hq⟩
end Go.Proofs.YtkhecmafhcdalaaDoor
