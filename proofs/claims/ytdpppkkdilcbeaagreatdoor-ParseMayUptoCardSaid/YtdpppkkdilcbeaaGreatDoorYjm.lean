/- Trees that come in, opened. -/
import Derived.Test.YtdpppkkdilcbeaaGreatDoorYam
import Derived.Test.YtdpppkkdilcbeaaGreatDoorRows
import Derived.ProofKit
import Derived.OpenShut
namespace Go.Proofs.YtdpppkkdilcbeaaGreatDoor
open Go.ChangeShapes Go.WideShapes Go.ChangeAt Go.RowKit
set_option linter.unusedVariables false
set_option linter.unusedSimpArgs false

theorem cells59 : Tryz.prog.cellsOf 59 = 5 := by kernel_rfl
theorem cells28' : Tryz.prog.cellsOf 28 = 7 := by kernel_rfl
theorem one_of {v u : Value} (h : [v] = [u]) : v = u := (List.cons.inj h).1
theorem bulk_mem {H : Type} {d : DataW H} : ∀ {l : List (DataW H)}, d ∈ l → Rows.uptoBulk d ≤ Rows.uptoBulkAll l
  | [], h => absurd h (by simp)
  | x :: xs, h => by
    rw [Rows.uptoBulkAll]
    rcases List.mem_cons.1 h with rfl | h
    · omega
    · have := bulk_mem h
      omega
theorem bulk_agg {H : Type} {d : DataW H} {l : List (DataW H)} (h : d ∈ l) : Rows.uptoBulk d ≤ Rows.uptoBulk (.agg l) := by
  rw [Rows.uptoBulk]
  have := bulk_mem h
  omega
theorem bulk_elem {H : Type} {d : DataW H} {l r : List (DataW H)} (h : d ∈ l) : Rows.uptoBulk d ≤ Rows.uptoBulk (.slice l r) := by
  rw [Rows.uptoBulk]
  have := bulk_mem h
  omega
theorem shs_mono {B C : Nat} (hBC : B ≤ C) : ∀ (x : Ex), Shs B x → Shs C x
  | .mk k n t b e rs ks, h => by
    rw [Shs] at h ⊢
    exact ⟨fun r hr => Nat.le_trans (h.1 r hr) hBC, go hBC ks h.2⟩
  where
  go {B C : Nat} (hBC : B ≤ C) : ∀ (ks : List Ex), Shs.ShsL B ks → Shs.ShsL C ks
  | [], _ => by rw [Shs.ShsL]; trivial
  | x :: xs, h => by
    rw [Shs.ShsL] at h ⊢
    exact ⟨shs_mono hBC x h.1, go hBC xs h.2⟩
theorem shsl_of {B : Nat} : ∀ (ks : List Ex), (∀ i (h : i < ks.length), Shs B ks[i]) → Shs.ShsL B ks
  | [], _ => by rw [Shs.ShsL]; trivial
  | x :: xs, h => by
    rw [Shs.ShsL]
    exact ⟨h 0 (by simp), shsl_of xs (fun i hi => h (i + 1) (by simpa using hi))⟩
set_option maxRecDepth 100000 in
theorem open_rf {H : Type} {enc : TypeId × Value → H} {W : World} {sp : Nat → Bool} {held : Bool} {fuel base : Nat} {cs : List Value} {x : DataW H × List MemPlace}
    (h : DataW.trod enc Tryz.prog W base sp held fuel 59 cs = some x) : ∃ y : Rf, cs = rf y ∧ y.1.length ≤ Rows.uptoBulk x.1 := by
  obtain ⟨xs, m, _, hx, hl, hlen, hf⟩ := DataW.trod_struct Tryz.underlying59 h
  rw [cells59] at hl
  have hlen' : xs.length = 5 := hlen
  match cs, hl with
  | [v0, v1, v2, v3, v4], _ =>
    have g0 := hf 0 _ rfl
    have g1 := hf 1 _ rfl
    have g2 := hf 2 _ rfl
    have g3 := hf 3 _ rfl
    have g4 := hf 4 _ rfl
    match xs, hlen' with
    | [y0, y1, y2, y3, y4], _ =>
      obtain ⟨t, e0, z0, _⟩ := DataW.trod_string Tryz.underlying9 g0
      obtain ⟨k, e1, _, _⟩ := DataW.trod_int Tryz.underlying2 g1
      obtain ⟨n, e2, _, _⟩ := DataW.trod_int Tryz.underlying2 g2
      obtain ⟨b, e3, _⟩ := DataW.trod_bool Tryz.underlying4 g3
      obtain ⟨c, e4, _⟩ := DataW.trod_bool Tryz.underlying4 g4
      have hb : t.data.toList.length ≤ Rows.uptoBulk x.1 := by
        have h1 : Rows.uptoBulk y0.1 ≤ Rows.uptoBulk x.1 := by rw [hx]; exact bulk_agg (by simp)
        rw [z0] at h1
        simp only [Rows.uptoBulk] at h1
        omega
      refine ⟨(t.data.toList, k, n, b, c), ?_, hb⟩
      have f0 : v0 = .string t := one_of e0
      have f1 : v1 = .int .i64 k := one_of e1
      have f2 : v2 = .int .i64 n := one_of e2
      have f3 : v3 = .bool b := one_of e3
      have f4 : v4 = .bool c := one_of e4
      rw [f0, f1, f2, f3, f4]
      rfl
theorem list_of {α : Type} (P : Nat → α → Prop) : ∀ n, (∀ i, i < n → ∃ x, P i x) → ∃ l : List α, l.length = n ∧ ∀ i (h : i < l.length), P i l[i]
  | 0, _ => ⟨[], rfl, fun i hi => absurd hi (by simp)⟩
  | n + 1, h => by
    obtain ⟨l, hl, hp⟩ := list_of P n (fun i hi => h i (by omega))
    obtain ⟨x, hx⟩ := h n (by omega)
    refine ⟨l ++ [x], by simp [hl], fun i hi => ?_⟩
    by_cases hin : i < l.length
    · rw [List.getElem_append_left hin]
      exact hp i hin
    · have hie : i = l.length := by simp at hi; omega
      subst hie
      simp
      rw [hl]
      exact hx
theorem add_plain (b o n : Nat) : (⟨b, o, none⟩ : Addr).add n = ⟨b, o + n, none⟩ := by
  unfold Addr.add
  by_cases h : n = 0
  · subst h; simp
  · simp [h]
theorem open_refs {H : Type} {enc : TypeId × Value → H} {W : World} {sp : Nat → Bool} {held : Bool} {fuel base : Nat} {v : Value} {z : DataW H × List MemPlace}
    (hf : DataW.trod enc Tryz.prog W base sp held fuel 25 [v] = some z) : ∃ L : List Rf, Sl rf 5 W v L ∧ ∀ r ∈ L, r.1.length ≤ Rows.uptoBulk z.1 := by
  rcases DataW.trod_slice Tryz.underlying25 hf with ⟨hcs, _⟩ | ⟨x, l, c, elems, rest, m, _, hcs, hz, hb, hl, hm, hlen, hel, _, _⟩
  · exact ⟨[], by rw [one_of hcs]; exact sl_nil W, fun r hr => absurd hr (by simp)⟩
  · have hv := one_of hcs
    subst hv
    have hcell : ∀ i, i < l → ∃ y : Rf, (∀ j u, (rf y)[j]? = some u → W.cell? ((x.add (i * 5)).add j) = some u) ∧ y.1.length ≤ Rows.uptoBulk z.1 := by
      intro i hi
      have hi' := hel i hi
      rw [cells59, List.getElem?_eq_getElem (by omega), Option.bind_eq_some_iff] at hi'
      obtain ⟨cs, h1, h2⟩ := hi'
      obtain ⟨y, rfl, hy⟩ := open_rf h2
      obtain ⟨_, _, h3⟩ := World.cells?_some h1
      refine ⟨y, fun j u hu => ?_, Nat.le_trans hy (by rw [hz]; exact bulk_elem (List.mem_map.2 ⟨_, List.getElem_mem _, rfl⟩))⟩
      have hj : j < 5 := by rw [← rf_len y]; exact (List.getElem?_eq_some_iff.1 hu).1
      rw [h3 j (by omega)]
      exact hu
    rcases Nat.eq_zero_or_pos l with rfl | hp
    · exact ⟨[], ⟨some x, c, rfl, Nat.zero_le _, hm, fun h => absurd h (by simp)⟩, fun r hr => absurd hr (by simp)⟩
    · obtain ⟨b, off, spot⟩ := x
      obtain ⟨c0, hc0, _⟩ := hcell 0 hp
      have hspot : spot = none := by simpa [Addr.add] using World.cell?_spot (hc0 0 _ rfl)
      subst hspot
      obtain ⟨L, hL, hP⟩ := list_of (fun i y => Ats rf W b (off + i * 5) y ∧ y.1.length ≤ Rows.uptoBulk z.1) l (fun i hi => by
        obtain ⟨y, g, gb⟩ := hcell i hi
        refine ⟨y, fun j u hu => ?_, gb⟩
        have := g j u hu
        rw [add_plain, add_plain] at this
        exact this)
      subst hL
      refine ⟨L, ⟨some ⟨b, off, none⟩, c, rfl, hl, hm, fun _ => ⟨b, off, rfl, fun i hi => (hP i hi).1⟩⟩, fun r hr => ?_⟩
      obtain ⟨i, hi, rfl⟩ := List.mem_iff_getElem.1 hr
      exact (hP i hi).2
theorem rdil_of {W : World} : ∀ (ks : List Ex) (b off : Nat), (∀ i (h : i < ks.length), ∃ c0 c1 c2 c3 c4 c5 c6, KidI W ks[i] b (off + i * 7) c0 c1 c2 c3 c4 c5 c6) → RdI.RdIL W ks b off
  | [], b, off, _ => by unfold RdI.RdIL; trivial
  | x :: xs, b, off, h => by
    unfold RdI.RdIL
    obtain ⟨c0, c1, c2, c3, c4, c5, c6, hk⟩ := h 0 (by simp)
    simp only [List.getElem_cons_zero, Nat.zero_mul, Nat.add_zero] at hk
    refine ⟨⟨c0, c1, c2, c3, c4, c5, c6, hk.g0, hk.g1, hk.g2, hk.g3, hk.g4, hk.g5, hk.g6, hk.rd⟩, rdil_of xs b (off + 7) (fun i hi => ?_)⟩
    obtain ⟨d0, d1, d2, d3, d4, d5, d6, hd⟩ := h (i + 1) (by simpa using hi)
    simp only [List.getElem_cons_succ] at hd
    rw [show off + (i + 1) * 7 = off + 7 + i * 7 by omega] at hd
    exact ⟨d0, d1, d2, d3, d4, d5, d6, hd⟩
set_option maxRecDepth 100000 in
/-- what is read of an api.Expr is a tree -/
theorem open_ex {H : Type} {enc : TypeId × Value → H} {W : World} {sp : Nat → Bool} {held : Bool} {base : Nat} : ∀ (fuel : Nat) (cs : List Value) (z : DataW H × List MemPlace),
    DataW.trod enc Tryz.prog W base sp held fuel 28 cs = some z → ∃ x : Ex, RdI W x (.agg cs.toArray) ∧ Shs (Rows.uptoBulk z.1) x := by
  intro fuel
  induction fuel using Nat.strongRecOn with
  | _ fuel ih =>
    intro cs z h
    obtain ⟨xs, m, hm0, hz, hl, hlen, hf⟩ := DataW.trod_struct Tryz.underlying28 h
    rw [cells28'] at hl
    have hlen' : xs.length = 7 := hlen
    match cs, hl with
    | [v0, v1, v2, v3, v4, v5, v6], _ =>
      have g0 := hf 0 _ rfl
      have g1 := hf 1 _ rfl
      have g2 := hf 2 _ rfl
      have g3 := hf 3 _ rfl
      have g4 := hf 4 _ rfl
      have g5 := hf 5 _ rfl
      have g6 := hf 6 _ rfl
      match xs, hlen' with
      | [y0, y1, y2, y3, y4, y5, y6], _ =>
        obtain ⟨k, e0, _, _⟩ := DataW.trod_int Tryz.underlying3 g0
        obtain ⟨n, e1, _, _⟩ := DataW.trod_int Tryz.underlying24 g1
        obtain ⟨t, e2, _, _⟩ := DataW.trod_string Tryz.underlying9 g2
        obtain ⟨b, e3, _⟩ := DataW.trod_bool Tryz.underlying4 g3
        obtain ⟨e, e4, _, _⟩ := DataW.trod_int Tryz.underlying3 g4
        obtain ⟨rs, hrs, brs0⟩ := open_refs (v := v5) g5
        have brs : ∀ r ∈ rs, r.1.length ≤ Rows.uptoBulk z.1 := fun r hr => Nat.le_trans (brs0 r hr) (by rw [hz]; exact bulk_agg (by simp))
        have b6 : Rows.uptoBulk y6.1 ≤ Rows.uptoBulk z.1 := by rw [hz]; exact bulk_agg (by simp)
        have f0 : v0 = .int .i64 k := one_of e0
        have f1 : v1 = .int .i64 n := one_of e1
        have f2 : v2 = .string t := one_of e2
        have f3 : v3 = .bool b := one_of e3
        have f4 : v4 = .int .i64 e := one_of e4
        subst f0 f1 f2 f3 f4
        have et : (⟨t.data.toList.toArray⟩ : ByteArray) = t := by
          apply ByteArray.ext
          simp
        rcases DataW.trod_slice (cs := [v6]) Tryz.underlying26 g6 with ⟨hcs, _⟩ | ⟨x, l, c, elems, rest, m2, hm2, hcs, hz6, hb, hle, hm, hlen2, hel, _, _⟩
        · have hv := one_of hcs
          subst hv
          refine ⟨.mk k n t.data.toList b e rs [], ?_, by rw [Shs, Shs.ShsL]; exact ⟨brs, trivial⟩⟩
          unfold RdI
          exact ⟨v5, _, by rw [et]; rfl, hrs, none, 0, rfl, Nat.le_refl _, Nat.zero_le _, fun h => absurd rfl h⟩
        · have hv := one_of hcs
          subst hv
          have hcell : ∀ i, i < l → ∃ y : Ex, ∃ c0 c1 c2 c3 c4 c5 c6, (∀ j u, ([c0, c1, c2, c3, c4, c5, c6] : List Value)[j]? = some u → W.cell? ((x.add (i * 7)).add j) = some u) ∧ RdI W y (.agg #[c0, c1, c2, c3, c4, c5, c6]) ∧ Shs (Rows.uptoBulk z.1) y := by
            intro i hi
            have hi' := hel i hi
            rw [cells28', List.getElem?_eq_getElem (by omega), Option.bind_eq_some_iff] at hi'
            obtain ⟨cs, h1, h2⟩ := hi'
            obtain ⟨y, hy, hsy0⟩ := ih m2 (by omega) cs _ h2
            have hsy : Shs (Rows.uptoBulk z.1) y := shs_mono (Nat.le_trans (Nat.le_trans (bulk_elem (List.mem_map.2 ⟨_, List.getElem_mem _, rfl⟩)) (Nat.le_of_eq (by rw [hz6]))) b6) y hsy0
            obtain ⟨hc1, hc2, h3⟩ := World.cells?_some h1
            have hcl : cs.length = 7 := by
              obtain ⟨_, _, _, _, hl7, _, _⟩ := DataW.trod_struct Tryz.underlying28 h2
              rw [hl7, cells28']
            match cs, hcl with
            | [c0, c1, c2, c3, c4, c5, c6], _ =>
              refine ⟨y, c0, c1, c2, c3, c4, c5, c6, fun j u hu => ?_, hy, hsy⟩
              have hj : j < 7 := (List.getElem?_eq_some_iff.1 hu).1
              rw [h3 j (by omega)]
              exact hu
          rcases Nat.eq_zero_or_pos l with rfl | hp
          · refine ⟨.mk k n t.data.toList b e rs [], ?_, by rw [Shs, Shs.ShsL]; exact ⟨brs, trivial⟩⟩
            unfold RdI
            exact ⟨v5, _, by rw [et]; rfl, hrs, some x, c, rfl, Nat.zero_le _, hm, fun h => absurd rfl h⟩
          · obtain ⟨bb, off, spot⟩ := x
            obtain ⟨_, q0, q1, q2, q3, q4, q5, q6, hc0, _⟩ := hcell 0 hp
            have hspot : spot = none := by simpa [Addr.add] using World.cell?_spot (hc0 0 _ rfl)
            subst hspot
            obtain ⟨L, hL, hP⟩ := list_of (fun i (y : Ex) => (∃ c0 c1 c2 c3 c4 c5 c6, KidI W y bb (off + i * 7) c0 c1 c2 c3 c4 c5 c6) ∧ Shs (Rows.uptoBulk z.1) y) l (fun i hi => by
              obtain ⟨y, c0, c1, c2, c3, c4, c5, c6, g, hy, hsy⟩ := hcell i hi
              have gg : ∀ j u, ([c0, c1, c2, c3, c4, c5, c6] : List Value)[j]? = some u → W.cell? ⟨bb, off + i * 7 + j, none⟩ = some u := fun j u hu => by
                have := g j u hu
                rw [add_plain, add_plain] at this
                exact this
              exact ⟨y, ⟨c0, c1, c2, c3, c4, c5, c6, gg 0 _ rfl, gg 1 _ rfl, gg 2 _ rfl, gg 3 _ rfl, gg 4 _ rfl, gg 5 _ rfl, gg 6 _ rfl, hy⟩, hsy⟩)
            subst hL
            refine ⟨.mk k n t.data.toList b e rs L, ?_, by rw [Shs]; exact ⟨brs, shsl_of L (fun i hi => (hP i hi).2)⟩⟩
            unfold RdI
            exact ⟨v5, _, by rw [et], hrs, some ⟨bb, off, none⟩, c, rfl, hle, hm, fun _ => ⟨bb, off, rfl, rdil_of L bb off (fun i hi => (hP i hi).1)⟩⟩
end Go.Proofs.YtdpppkkdilcbeaaGreatDoor
