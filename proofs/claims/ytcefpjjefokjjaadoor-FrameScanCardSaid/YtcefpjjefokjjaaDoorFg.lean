/- frame.Scan. -/
import Derived.Test.YtcefpjjefokjjaaDoorFf
namespace Go.Proofs.YtcefpjjefokjjaaDoor
open Go.RowKit
set_option linter.unusedVariables false
set_option linter.unusedSimpArgs false

theorem info23 : (Tryd.prog.info? 23).map (fun i => (i.zero, i.size, i.bytes)) = some (some (.slice none 0 0), 1, 24) := by kernel_rfl
/-- records, each in memory of its own -/
structure Ro (B : Nat) (W : World) (v : Value) (LL : List (List UInt8)) : Prop where
  h : ∃ vs : List Value, vs.length = LL.length ∧ Own ev 23 1 B W v vs ∧ ∀ i (h : i < vs.length) (h' : i < LL.length), Own eb 5 1 B W vs[i] LL[i]
theorem Ro.on {B : Nat} {W W' : World} {v : Value} {LL : List (List UInt8)} (h : Ro B W v LL) (q : Q W W') : Ro B W' v LL := by
  obtain ⟨vs, h1, h2, h3⟩ := h.h
  exact ⟨vs, h1, h2.on q, fun i a b => (h3 i a b).on q⟩
theorem ro_nil (B : Nat) (W : World) : Ro B W (.slice none 0 0) [] := ⟨[], rfl, own_nil W, fun i h _ => absurd h (by simp)⟩
theorem own_apart {B B' : Nat} {W : World} {x o : Value} {L : List UInt8} {vs : List Value} (h1 : Own eb 5 1 B W x L) (h2 : Own ev 23 1 B' W o vs) : x.ownBlock = none ∨ x.ownBlock ≠ o.ownBlock := by
  rcases h1.2 with ⟨hv, _⟩ | ⟨g, cap, cur, hv, _, hg, _⟩
  · left; rw [hv]; rfl
  · right
    rcases h2.2 with ⟨hv2, _⟩ | ⟨g2, cap2, cur2, hv2, _, hg2, _⟩
    · rw [hv, hv2]
      intro e
      cases e
    · rw [hv, hv2]
      intro e
      have e' : g = g2 := Option.some.inj e
      subst e'
      rw [hg] at hg2
      cases hg2
theorem Ro.snoc {B : Nat} {W W' : World} {o o' x : Value} {LL : List (List UInt8)} {L : List UInt8} (h : Ro B W o LL) (hx : Own eb 5 1 B W x L)
    (hg : W.grownBy W' o.ownBlock) (vs : List Value) (h1 : vs.length = LL.length) (h2 : Own ev 23 1 B W o vs) (h3 : ∀ i (h : i < vs.length) (h' : i < LL.length), Own eb 5 1 B W vs[i] LL[i]) (ho : Own ev 23 1 B W' o' (vs ++ [x])) : Ro B W' o' (LL ++ [L]) := by
  refine ⟨vs ++ [x], by simp [h1], ho, fun i a b => ?_⟩
  by_cases hi : i < vs.length
  · rw [List.getElem_append_left hi, List.getElem_append_left (by omega)]
    have := h3 i hi (by omega)
    exact this.grown hg (own_apart this h2)
  · have hie : i = vs.length := by simp at a; omega
    subst hie
    rw [List.getElem_append_right (Nat.le_refl _), List.getElem_append_right (by omega)]
    simp only [Nat.sub_self, List.getElem_cons_zero, h1]
    exact hx.grown hg (own_apart hx h2)
/-- records -/
def Recs (W : World) (v : Value) (LL : List (List UInt8)) : Prop :=
  ∃ vs : List Value, vs.length = LL.length ∧ Sl ev 1 W v vs ∧ ∀ i (h : i < vs.length) (h' : i < LL.length), Sl eb 1 W vs[i] LL[i]
theorem Recs.on {W W' : World} {v : Value} {LL : List (List UInt8)} (h : Recs W v LL) (q : Q W W') : Recs W' v LL := by
  obtain ⟨vs, h1, h2, h3⟩ := h
  exact ⟨vs, h1, h2.on q, fun i a b => (h3 i a b).on q⟩
theorem Ro.recs {B : Nat} {W : World} {v : Value} {LL : List (List UInt8)} (h : Ro B W v LL) : Recs W v LL := by
  obtain ⟨vs, h1, h2, h3⟩ := h.h
  exact ⟨vs, h1, h2.sl ev_len (by omega), fun i a b => (h3 i a b).sl eb_len (by omega)⟩
theorem fst_e_no {w : World} {D : List UInt8} {e : Ending} (h : fst1 D = none) (he : Fst w D e) : e = .returned (.tuple #[.slice none 0 0, .bool false]) := by
  unfold Fst at he
  rw [h] at he
  exact he
theorem fst_e_yes {w : World} {D b : List UInt8} {e : Ending} (h : fst1 D = some b) (he : Fst w D e) : ∃ v', e = .returned (.tuple #[v', .bool true]) ∧ Sb w v' b := by
  unfold Fst at he
  rw [h] at he
  exact he
/-- how far the reading has come -/
structure Prg (D : List UInt8) (s : Nat) (LL : List (List UInt8)) : Prop where
  le : s ≤ D.length
  n : LL.length ≤ s
  a : LL ++ (scn (D.drop s)).1 = (scn D).1
  b : s + (scn (D.drop s)).2 = (scn D).2
theorem prg_zero (D : List UInt8) : Prg D 0 [] := ⟨Nat.zero_le _, Nat.le_refl _, by simp, by simp⟩
theorem Prg.end {D : List UInt8} {s : Nat} {LL : List (List UInt8)} (h : Prg D s LL) (hf : fst1 (D.drop s) = none) : LL = (scn D).1 ∧ s = (scn D).2 := by
  have h1 := h.a
  have h2 := h.b
  rw [scn_none hf] at h1 h2
  exact ⟨by simpa using h1, by simpa using h2⟩
theorem Prg.next {D : List UInt8} {s : Nat} {LL : List (List UInt8)} {b : List UInt8} (h : Prg D s LL) (hf : fst1 (D.drop s) = some b) : Prg D (s + (8 + b.length)) (LL ++ [b]) := by
  have h0 := (fst_len hf).1
  have h1 := h.a
  have h2 := h.b
  have h3 := h.n
  rw [List.length_drop] at h0
  rw [scn_some hf, List.drop_drop] at h1 h2
  refine ⟨by omega, by simp; omega, ?_, ?_⟩
  · rw [List.append_assoc]
    exact h1
  · rw [← h2]
    simp only
    omega
theorem one_lit {W : World} (a : Value) : ∀ j u, [a][j]? = some u → (W.alloc (.cells #[a] 23)).cell? ((⟨W.heap.size, 0, none⟩ : Addr).add j) = some u := news_new W [a] 23
set_option maxRecDepth 100000 in
set_option maxHeartbeats 4000000 in
theorem scan_any (v : Value) (D : List UInt8) (w : World) (ht : Tab w) (hv : Sb w v D) (hl : D.length ≤ 1099511627776) :
    Calls Tryd.prog 10 #[v] w fun e W' => ∃ v', e = .returned (.tuple #[v', .int .i64 ((scn D).2 : Nat)]) ∧ Recs W' v' (scn D).1 ∧ Q w W' := by
  have HT := hid ht
  have HV := hid hv
  obtain ⟨i0, hi, hz0, hz1, hz2⟩ := inf_of info23
  clear ht hv
  go_enter Tryd.func10, Tryd.ntmps10
  go_wp2_with fail
  go_loopw [2, 3, 4, 5] (fun z y o s W => z = .slice none 0 0 ∧ y = .int .i64 0 ∧ ∃ (n : Nat) (LL : List (List UInt8)), s = .int .i64 n ∧ Hid (Prg D n LL) ∧ Hid (Ro w.heap.size W o LL) ∧ Hid (Q w W)) (fun _ _ _ s _ => D.length - (intOf s).toNat)
  case atStart => exact ⟨rfl, rfl, 0, [], rfl, hid (prg_zero D), hid (ro_nil _ _), hid (Q.refl w)⟩
  case round =>
    obtain ⟨rfl, rfl, n, LL, rfl, HP, HR, HQ⟩ := hrel
    have hn := HP.out.le
    obtain ⟨a, c, hr, hs⟩ := sb_from HV.out n hn
    have rn := hr.out
    have HFI := hid (first_any (.slice a (D.length - n) c) (D.drop n) wr (HT.out.on HQ.out) (hs.on HQ.out))
    clear hr hs
    generalize D.length - n = ln at rn HFI
    cases hf : fst1 (D.drop n) with
    | none =>
      have HE := hid (HP.out.end hf)
      have HF0 := hid (fun e => fst_e_no (w := wr) (e := e) hf)
      clear hf
      go_wp2_with (go_at_call 16; refine HFI.out.mono ?_; rintro e9 w2 ⟨he9, hq9⟩; replace he9 := HF0.out _ he9; subst he9; have HQ2 : Hid (Q w w2) := hid (HQ.out.trans hq9); have HR2 := hid (HR.out.on hq9); clear hq9)
      go_ret2
      exact ⟨u4, by rw [← HE.out.2]; rfl, HE.out.1 ▸ HR2.out.recs, HQ2.out⟩
    | some b =>
      have HN := hid (HP.out.next hf)
      have HF0 := hid (fun e => fst_e_yes (w := wr) (e := e) hf)
      have hbl := (fst_len hf).2.2
      clear hf
      go_upto_region 4 with (go_at_call 16; refine HFI.out.mono ?_; rintro e9 w2 ⟨he9, hq9⟩; obtain ⟨v2, rfl, hs9⟩ := HF0.out _ he9; obtain ⟨a2, c2, rfl, _, _⟩ := hs9.s.len; have HQ2 : Hid (Q w w2) := hid (HQ.out.trans hq9); have HR2 := hid (HR.out.on hq9); have HC := hid (clone_any _ b w2 (hs9.on hq9) (by omega)); clear he9 hq9 hs9)
      go_upto_region 6 with fail
      have hsz := HN.out.le
      have hLL := HP.out.n
      go_upto_region 7 with (first
        | (go_at_call 17; refine HC.out.mono ?_; rintro e9 w3 ⟨v3, rfl, ho9, hq9⟩; obtain ⟨a3, c3, rfl, _, _⟩ := (ho9.sl eb_len (by omega)).len; have HX := hid ((ho9.mono (B' := w.heap.size) HQ2.out.size).alloc (.cells #[.slice a3 b.length c3] 23)); have HQ3 := hid ((HQ2.out.trans hq9).alloc (.cells #[.slice a3 b.length c3] 23)); have HR3 := hid (HR2.out.on (hq9.alloc (.cells #[.slice a3 b.length c3] 23))); clear ho9 hq9; obtain ⟨vs, hv1, hv2, hv3⟩ := HR3.out.h; have HV1 := hid hv1; have HO := hid hv2; have HV3 := hid hv3; have hvl : vs.length ≤ 1099511627776 := (by omega); clear hv1 hv2 hv3)
        | (at_builtin; refine wpList_append_own _ rfl _ _ 22 rfl w.heap.size 23 i0 (.slice none 0 0) 1 24 Tryd.underlying22 hi hz0 hz1 hz2 rfl (by decide) _ _ _ rfl HO.out ⟨w3.heap.size, 0, none⟩ 1 1 [.slice a3 b.length c3] rfl rfl (one_lit _) (by intro u hu; simp at hu; subst hu; rfl) (by unfold maxLen; omega) (by omega) HQ3.out.size ?_; intro v5 w5 hown hg _; have HR5 : Hid (Ro w.heap.size w5 v5 (LL ++ [b])) := hid (HR3.out.snoc HX.out hg vs HV1.out HO.out HV3.out (own_snoc hown)); have HQ5 : Hid (Q w w5) := hid (Below.grown HQ3.out hg HQ3.out.size (fun k hk => by have := (World.ownsRow.lt HO.out k hk).1; omega)); clear hown hg))
      clear HR3 HO HX HV1 HV3 HQ3 HR2 HQ2 HC
      go_wp2_with fail
      go_roundw
      case rel => exact ⟨rfl, rfl, n + (8 + b.length), LL ++ [b], by go_num, HN, HR5, HQ5⟩
      case measure => simp [intOf]; omega
end Go.Proofs.YtcefpjjefokjjaaDoor
