/- counterpaneref5.EqExpr, walked. -/
import Derived.Test.YtcgddnliiondoaaGreatDoorKq09
import Derived.Deep.RegionHeld3
set_option linter.unusedVariables false
set_option linter.unusedSimpArgs false
set_option maxRecDepth 100000
set_option maxHeartbeats 8000000
namespace Go.Proofs.YtcgddnliiondoaaGreatDoor
open Go.RowKit
structure Rc (W : World) (b o : Nat) (sh : ByteArray) (row col : Int) (ra ca : Bool) : Prop where
  a0 : W.cell? ⟨b, o, none⟩ = some (.string sh)
  a1 : W.cell? ⟨b, o + 1, none⟩ = some (.int .i64 row)
  a2 : W.cell? ⟨b, o + 2, none⟩ = some (.int .i64 col)
  a3 : W.cell? ⟨b, o + 3, none⟩ = some (.bool ra)
  a4 : W.cell? ⟨b, o + 4, none⟩ = some (.bool ca)
theorem Sl.rc {W : World} {v : Value} {L : List Rf} (h : Sl rf 5 W v L) (hl : 0 < L.length) : ∃ b off cap, v = .slice (some ⟨b, off, none⟩) L.length cap ∧ L.length ≤ cap ∧ cap ≤ maxLen ∧ ∀ i (hi : i < L.length), Rc W b (off + i * 5) ⟨L[i].1.toArray⟩ L[i].2.1 L[i].2.2.1 L[i].2.2.2.1 L[i].2.2.2.2 := by
  obtain ⟨ao, cap, hv, h1, h2, h⟩ := h
  obtain ⟨b, off, rfl, hc⟩ := h hl
  exact ⟨b, off, cap, hv, h1, h2, fun i hi => ⟨hc i hi 0 _ rfl, hc i hi 1 _ rfl, hc i hi 2 _ rfl, hc i hi 3 _ rfl, hc i hi 4 _ rfl⟩⟩
theorem Rc.on {W W' : World} {b o : Nat} {sh : ByteArray} {row col : Int} {ra ca : Bool} (h : Rc W b o sh row col ra ca) (q : Q W W') : Rc W' b o sh row col ra ca := by
  have ce : ∀ {o : Nat} {c : Value}, W.cell? ⟨b, o, none⟩ = some c → W'.cell? ⟨b, o, none⟩ = some c := fun h => (q.cell (World.block_lt_of_cell? W ⟨b, _, none⟩ h)).trans h
  exact ⟨ce h.a0, ce h.a1, ce h.a2, ce h.a3, ce h.a4⟩
def KS (w W : World) (n : Nat) (b1 o1 c1 b3 o3 c3 i : Nat) (sh : ByteArray) (row col : Int) (ra ca : Bool) (sh' : ByteArray) (row' col' : Int) (ra' ca' : Bool) : Prop := W.cell? ⟨w.heap.size, 5, none⟩ = some (.slice (some ⟨b1, o1, none⟩) n c1) ∧ W.cell? ⟨w.heap.size + 1, 5, none⟩ = some (.slice (some ⟨b3, o3, none⟩) n c3) ∧ W.cell? ⟨b1, o1 + i * 5, none⟩ = some (.string sh) ∧ W.cell? ⟨b1, o1 + i * 5 + 1, none⟩ = some (.int .i64 row) ∧ W.cell? ⟨b1, o1 + i * 5 + 2, none⟩ = some (.int .i64 col) ∧ W.cell? ⟨b1, o1 + i * 5 + 3, none⟩ = some (.bool ra) ∧ W.cell? ⟨b1, o1 + i * 5 + 4, none⟩ = some (.bool ca) ∧ W.cell? ⟨b3, o3 + i * 5, none⟩ = some (.string sh') ∧ W.cell? ⟨b3, o3 + i * 5 + 1, none⟩ = some (.int .i64 row') ∧ W.cell? ⟨b3, o3 + i * 5 + 2, none⟩ = some (.int .i64 col') ∧ W.cell? ⟨b3, o3 + i * 5 + 3, none⟩ = some (.bool ra') ∧ W.cell? ⟨b3, o3 + i * 5 + 4, none⟩ = some (.bool ca')
theorem KS.on {w W W' : World} {n : Nat} {b1 o1 c1 b3 o3 c3 i : Nat} {sh : ByteArray} {row col : Int} {ra ca : Bool} {sh' : ByteArray} {row' col' : Int} {ra' ca' : Bool} (h : KS w W n b1 o1 c1 b3 o3 c3 i sh row col ra ca sh' row' col' ra' ca') (q : Q W W') : KS w W' n b1 o1 c1 b3 o3 c3 i sh row col ra ca sh' row' col' ra' ca' := by
  have ce : ∀ {b o : Nat} {c : Value}, W.cell? ⟨b, o, none⟩ = some c → W'.cell? ⟨b, o, none⟩ = some c := fun {b o c} h => (q.cell (World.block_lt_of_cell? W ⟨b, o, none⟩ h)).trans h
  obtain ⟨z0, z1, z2, z3, z4, z5, z6, z7, z8, z9, z10, z11⟩ := h
  exact ⟨ce z0, ce z1, ce z2, ce z3, ce z4, ce z5, ce z6, ce z7, ce z8, ce z9, ce z10, ce z11⟩
def KT (w W : World) (l b2 o2 c2 b4 o4 c4 i : Nat) (p0 p1 p2 p3 p4 p5 p6 r0 r1 r2 r3 r4 r5 r6 : Value) : Prop := W.cell? ⟨w.heap.size, 6, none⟩ = some (.slice (some ⟨b2, o2, none⟩) l c2) ∧ W.cell? ⟨w.heap.size + 1, 6, none⟩ = some (.slice (some ⟨b4, o4, none⟩) l c4) ∧ W.cell? ⟨b2, o2 + i * 7, none⟩ = some p0 ∧ W.cell? ⟨b2, o2 + i * 7 + 1, none⟩ = some p1 ∧ W.cell? ⟨b2, o2 + i * 7 + 2, none⟩ = some p2 ∧ W.cell? ⟨b2, o2 + i * 7 + 3, none⟩ = some p3 ∧ W.cell? ⟨b2, o2 + i * 7 + 4, none⟩ = some p4 ∧ W.cell? ⟨b2, o2 + i * 7 + 5, none⟩ = some p5 ∧ W.cell? ⟨b2, o2 + i * 7 + 6, none⟩ = some p6 ∧ W.cell? ⟨b4, o4 + i * 7, none⟩ = some r0 ∧ W.cell? ⟨b4, o4 + i * 7 + 1, none⟩ = some r1 ∧ W.cell? ⟨b4, o4 + i * 7 + 2, none⟩ = some r2 ∧ W.cell? ⟨b4, o4 + i * 7 + 3, none⟩ = some r3 ∧ W.cell? ⟨b4, o4 + i * 7 + 4, none⟩ = some r4 ∧ W.cell? ⟨b4, o4 + i * 7 + 5, none⟩ = some r5 ∧ W.cell? ⟨b4, o4 + i * 7 + 6, none⟩ = some r6
theorem KT.on {w W W' : World} {l b2 o2 c2 b4 o4 c4 i : Nat} {p0 p1 p2 p3 p4 p5 p6 r0 r1 r2 r3 r4 r5 r6 : Value} (h : KT w W l b2 o2 c2 b4 o4 c4 i p0 p1 p2 p3 p4 p5 p6 r0 r1 r2 r3 r4 r5 r6) (q : Q W W') : KT w W' l b2 o2 c2 b4 o4 c4 i p0 p1 p2 p3 p4 p5 p6 r0 r1 r2 r3 r4 r5 r6 := by
  have ce : ∀ {b o : Nat} {c : Value}, W.cell? ⟨b, o, none⟩ = some c → W'.cell? ⟨b, o, none⟩ = some c := fun {b o c} h => (q.cell (World.block_lt_of_cell? W ⟨b, o, none⟩ h)).trans h
  obtain ⟨z0, z1, z2, z3, z4, z5, z6, z7, z8, z9, z10, z11, z12, z13, z14, z15⟩ := h
  exact ⟨ce z0, ce z1, ce z2, ce z3, ce z4, ce z5, ce z6, ce z7, ce z8, ce z9, ce z10, ce z11, ce z12, ce z13, ce z14, ce z15⟩
theorem rf_mk (x : Rf) : x = (x.1, x.2.1, x.2.2.1, x.2.2.2.1, x.2.2.2.2) := rfl
theorem take_snoc' {α : Type} {l l' : List α} {i : Nat} (h : i < l.length) (h' : i < l'.length) (e : l.take i = l'.take i) (e' : l[i] = l'[i]) : l.take (i + 1) = l'.take (i + 1) := by
  rw [List.take_succ_eq_append_getElem h, List.take_succ_eq_append_getElem h', e, e']
set_option maxHeartbeats 16000000 in
theorem eq_body (k n : Int) (t : ByteArray) (b : Bool) (e : Int) (a1 : Option Addr) (l1 c1 : Nat) (a2 : Option Addr) (l2 c2 : Nat) (a3 : Option Addr) (c3 : Nat) (a4 : Option Addr) (c4 : Nat) (w : World) (rs rs' : List Rf) (ks ks' : List Ex)
    (h1 : Hid (rs.length = l1)) (h1' : Hid (rs'.length = l1)) (h2 : Hid (ks.length = l2)) (h2' : Hid (ks'.length = l2)) (room1 : l1 ≤ 9223372036854775807) (room2 : l2 ≤ 9223372036854775807)
    (HR : Hid (∀ i (hi : i < rs.length), ∃ b1 o1, a1 = some ⟨b1, o1, none⟩ ∧ Rc w b1 (o1 + i * 5) ⟨rs[i].1.toArray⟩ rs[i].2.1 rs[i].2.2.1 rs[i].2.2.2.1 rs[i].2.2.2.2))
    (HR' : Hid (∀ i (hi : i < rs'.length), ∃ b3 o3, a3 = some ⟨b3, o3, none⟩ ∧ Rc w b3 (o3 + i * 5) ⟨rs'[i].1.toArray⟩ rs'[i].2.1 rs'[i].2.2.1 rs'[i].2.2.2.1 rs'[i].2.2.2.2))
    (HK : Hid (∀ i (hi : i < ks.length) W, Q w W → ∃ b2 o2 p0 p1 p2 p3 p4 p5 p6, a2 = some ⟨b2, o2, none⟩ ∧ Kid W ks[i] b2 (o2 + i * 7) p0 p1 p2 p3 p4 p5 p6))
    (HK' : Hid (∀ i (hi : i < ks'.length) W, Q w W → ∃ b4 o4 r0 r1 r2 r3 r4 r5 r6, a4 = some ⟨b4, o4, none⟩ ∧ Kid W ks'[i] b4 (o4 + i * 7) r0 r1 r2 r3 r4 r5 r6))
    (IH : Hid (∀ i (hi : i < ks.length) (hi' : i < ks'.length) v v' W, Rd W ks[i] v → Rd W ks'[i] v' → Calls Tryz.prog 33 #[v, v'] W fun x W' => Ans (ks[i] = ks'[i]) x ∧ Q W W')) :
    Calls Tryz.prog 33 #[.agg #[.int .i64 k, .int .i64 n, .string t, .bool b, .int .i64 e, .slice a1 l1 c1, .slice a2 l2 c2], .agg #[.int .i64 k, .int .i64 n, .string t, .bool b, .int .i64 e, .slice a3 l1 c3, .slice a4 l2 c4]] w fun x w' => Ans (rs = rs' ∧ ks = ks') x ∧ Q w w' := by
  have HT := hid (Two.start w k n t b e (.slice a1 l1 c1) (.slice a2 l2 c2) k n t b e (.slice a3 l1 c3) (.slice a4 l2 c4) 40)
  go_enter Tryz.func33, Tryz.ntmps33
  go_wp2
  go_loopw [5] (fun z W' => ∃ i : Nat, i ≤ l1 ∧ z = .int .i64 (i : Int) ∧ Two w W' k n t b e (.slice a1 l1 c1) (.slice a2 l2 c2) k n t b e (.slice a3 l1 c3) (.slice a4 l2 c4) ∧ Hid (rs.take i = rs'.take i)) (fun z _ => l1 - (intOf z).toNat)
  case atStart => exact ⟨0, Nat.zero_le _, rfl, HT.out, rfl⟩
  case round =>
    obtain ⟨i, hi, rfl, hT, hA⟩ := hrel
    have c5 := hT.one.g5
    have c5' := hT.g5
    have c6 := hT.one.g6
    have c6' := hT.g6
    have HT2 := hid hT
    by_cases hlt : i < l1
    · have hlr : i < rs.length := by rw [h1.out]; exact hlt
      have hlr' : i < rs'.length := by rw [h1'.out]; exact hlt
      obtain ⟨b1, o1, rfl, H1⟩ := HR.out i hlr
      obtain ⟨b3, o3, rfl, H2⟩ := HR'.out i hlr'
      replace H1 := H1.on hT.one.q
      replace H2 := H2.on hT.one.q
      obtain ⟨x0, x1, x2, x3, x4⟩ := H1
      obtain ⟨y0, y1, y2, y3, y4⟩ := H2
      have HE : Hid ((rs[i] = rs'[i]) ↔ (rs[i].1 = rs'[i].1 ∧ rs[i].2.1 = rs'[i].2.1 ∧ rs[i].2.2.1 = rs'[i].2.2.1 ∧ rs[i].2.2.2.1 = rs'[i].2.2.2.1 ∧ rs[i].2.2.2.2 = rs'[i].2.2.2.2)) := hid (by
        constructor
        · intro h; rw [h]; exact ⟨rfl, rfl, rfl, rfl, rfl⟩
        · rintro ⟨g0, g1, g2, g3, g4⟩
          rw [rf_mk rs[i], rf_mk rs'[i], g0, g1, g2, g3, g4])
      have HNE : Hid (rs[i] ≠ rs'[i] → ¬ (rs = rs' ∧ ks = ks')) := hid (fun h ⟨g, _⟩ => h (by simp only [g]))
      have HTK : Hid (rs[i] = rs'[i] → rs.take (i + 1) = rs'.take (i + 1)) := hid (fun h => take_snoc' hlr hlr' hA.out h)
      generalize rs[i] = P at *
      generalize rs'[i] = P' at *
      obtain ⟨s0, row, col, ra, ca⟩ := P
      obtain ⟨s0', row', col', ra', ca'⟩ := P'
      simp only at x0 x1 x2 x3 x4 y0 y1 y2 y3 y4 HE
      obtain ⟨sh, hsh, lsh⟩ : ∃ sh : ByteArray, ⟨s0.toArray⟩ = sh ∧ sh.data.toList = s0 := ⟨_, rfl, rfl⟩
      obtain ⟨sh', hsh', lsh'⟩ : ∃ sh : ByteArray, ⟨s0'.toArray⟩ = sh ∧ sh.data.toList = s0' := ⟨_, rfl, rfl⟩
      rw [hsh] at x0
      rw [hsh'] at y0
      have HS0 : Hid (sh.data.toList = s0 ∧ sh'.data.toList = s0') := hid ⟨lsh, lsh'⟩
      clear hsh hsh' lsh lsh'
      have HKS : Hid (KS w wr l1 b1 o1 c1 b3 o3 c3 i sh row col ra ca sh' row' col' ra' ca') := hid ⟨c5, c5', x0, x1, x2, x3, x4, y0, y1, y2, y3, y4⟩
      clear hT hA hlr hlr'
      by_cases q0 : s0 = s0'
      · have es : sh = sh' := str_eq (by rw [HS0.out.1, HS0.out.2, q0])
        by_cases q1 : row = row'
        · by_cases q2 : col = col'
          · by_cases q3 : ra = ra'
            · by_cases q4 : ca = ca'
              · have HTA := hid (HTK.out (HE.out.2 ⟨q0, q1, q2, q3, q4⟩))
                subst es q1 q2 q3 q4
                clear HTK HE HNE HS0
                go_wp2_with fail
                go_region_held3 (fun W => W.cell? ⟨w.heap.size, 5, none⟩ = some (.slice (some ⟨b1, o1, none⟩) l1 c1) ∧ W.cell? ⟨w.heap.size + 1, 5, none⟩ = some (.slice (some ⟨b3, o3, none⟩) l1 c3) ∧ W.cell? ⟨b1, o1 + i * 5, none⟩ = some (.string sh) ∧ W.cell? ⟨b1, o1 + i * 5 + 1, none⟩ = some (.int .i64 row) ∧ W.cell? ⟨b1, o1 + i * 5 + 2, none⟩ = some (.int .i64 col) ∧ W.cell? ⟨b1, o1 + i * 5 + 3, none⟩ = some (.bool ra) ∧ W.cell? ⟨b1, o1 + i * 5 + 4, none⟩ = some (.bool ca) ∧ W.cell? ⟨b3, o3 + i * 5, none⟩ = some (.string sh) ∧ W.cell? ⟨b3, o3 + i * 5 + 1, none⟩ = some (.int .i64 row) ∧ W.cell? ⟨b3, o3 + i * 5 + 2, none⟩ = some (.int .i64 col) ∧ W.cell? ⟨b3, o3 + i * 5 + 3, none⟩ = some (.bool ra) ∧ W.cell? ⟨b3, o3 + i * 5 + 4, none⟩ = some (.bool ca)) (exact HKS.out.on (by repeat (first | exact Q.refl _ | refine Q.drewN ?_ _ | refine Q.drew ?_ | refine Q.alloc ?_ _ | refine Q.setCell ?_ (by simp) _))) (fail)
                all_goals go_wp2_with fail
                all_goals go_roundw
                all_goals first | exact ⟨i + 1, by omega, by go_num, HT2.out.on (by repeat (first | exact Q.refl _ | refine Q.drewN ?_ _ | refine Q.drew ?_ | refine Q.alloc ?_ _ | refine Q.setCell ?_ (by simp) _)), HTA⟩ | (simp [intOf]; omega)
              · have f : ca' = !ca := by cases ca <;> cases ca' <;> simp_all
                have HB := hid (HNE.out (fun h => q4 (HE.out.1 h).2.2.2.2))
                subst f
                subst es q1 q2 q3
                clear HTK HE HNE HS0
                go_wp2_with fail
                go_region_held3 (fun W => W.cell? ⟨w.heap.size, 5, none⟩ = some (.slice (some ⟨b1, o1, none⟩) l1 c1) ∧ W.cell? ⟨w.heap.size + 1, 5, none⟩ = some (.slice (some ⟨b3, o3, none⟩) l1 c3) ∧ W.cell? ⟨b1, o1 + i * 5, none⟩ = some (.string sh) ∧ W.cell? ⟨b1, o1 + i * 5 + 1, none⟩ = some (.int .i64 row) ∧ W.cell? ⟨b1, o1 + i * 5 + 2, none⟩ = some (.int .i64 col) ∧ W.cell? ⟨b1, o1 + i * 5 + 3, none⟩ = some (.bool ra) ∧ W.cell? ⟨b1, o1 + i * 5 + 4, none⟩ = some (.bool ca) ∧ W.cell? ⟨b3, o3 + i * 5, none⟩ = some (.string sh) ∧ W.cell? ⟨b3, o3 + i * 5 + 1, none⟩ = some (.int .i64 row) ∧ W.cell? ⟨b3, o3 + i * 5 + 2, none⟩ = some (.int .i64 col) ∧ W.cell? ⟨b3, o3 + i * 5 + 3, none⟩ = some (.bool ra) ∧ W.cell? ⟨b3, o3 + i * 5 + 4, none⟩ = some (.bool (!ca))) (exact HKS.out.on (by repeat (first | exact Q.refl _ | refine Q.drewN ?_ _ | refine Q.drew ?_ | refine Q.alloc ?_ _ | refine Q.setCell ?_ (by simp) _))) (fail)
                all_goals go_wp2_with fail
                all_goals go_ret
                all_goals exact ⟨Ans.no HB.out, HT2.out.one.q.trans (by repeat (first | exact Q.refl _ | refine Q.drewN ?_ _ | refine Q.drew ?_ | refine Q.alloc ?_ _ | refine Q.setCell ?_ (by simp) _))⟩
            · have f : ra' = !ra := by cases ra <;> cases ra' <;> simp_all
              have HB := hid (HNE.out (fun h => q3 (HE.out.1 h).2.2.2.1))
              subst f
              subst es q1 q2
              clear HTK HE HNE HS0
              go_wp2_with fail
              go_region_held3 (fun W => W.cell? ⟨w.heap.size, 5, none⟩ = some (.slice (some ⟨b1, o1, none⟩) l1 c1) ∧ W.cell? ⟨w.heap.size + 1, 5, none⟩ = some (.slice (some ⟨b3, o3, none⟩) l1 c3) ∧ W.cell? ⟨b1, o1 + i * 5, none⟩ = some (.string sh) ∧ W.cell? ⟨b1, o1 + i * 5 + 1, none⟩ = some (.int .i64 row) ∧ W.cell? ⟨b1, o1 + i * 5 + 2, none⟩ = some (.int .i64 col) ∧ W.cell? ⟨b1, o1 + i * 5 + 3, none⟩ = some (.bool ra) ∧ W.cell? ⟨b1, o1 + i * 5 + 4, none⟩ = some (.bool ca) ∧ W.cell? ⟨b3, o3 + i * 5, none⟩ = some (.string sh) ∧ W.cell? ⟨b3, o3 + i * 5 + 1, none⟩ = some (.int .i64 row) ∧ W.cell? ⟨b3, o3 + i * 5 + 2, none⟩ = some (.int .i64 col) ∧ W.cell? ⟨b3, o3 + i * 5 + 3, none⟩ = some (.bool (!ra)) ∧ W.cell? ⟨b3, o3 + i * 5 + 4, none⟩ = some (.bool ca')) (exact HKS.out.on (by repeat (first | exact Q.refl _ | refine Q.drewN ?_ _ | refine Q.drew ?_ | refine Q.alloc ?_ _ | refine Q.setCell ?_ (by simp) _))) (fail)
              all_goals go_wp2_with fail
              all_goals go_ret
              all_goals exact ⟨Ans.no HB.out, HT2.out.one.q.trans (by repeat (first | exact Q.refl _ | refine Q.drewN ?_ _ | refine Q.drew ?_ | refine Q.alloc ?_ _ | refine Q.setCell ?_ (by simp) _))⟩
          · have f : (col == col') = false := beq_no q2
            have HB := hid (HNE.out (fun h => q2 (HE.out.1 h).2.2.1))
            subst es q1
            clear HTK HE HNE HS0
            go_wp2_with fail
            go_region_held3 (fun W => W.cell? ⟨w.heap.size, 5, none⟩ = some (.slice (some ⟨b1, o1, none⟩) l1 c1) ∧ W.cell? ⟨w.heap.size + 1, 5, none⟩ = some (.slice (some ⟨b3, o3, none⟩) l1 c3) ∧ W.cell? ⟨b1, o1 + i * 5, none⟩ = some (.string sh) ∧ W.cell? ⟨b1, o1 + i * 5 + 1, none⟩ = some (.int .i64 row) ∧ W.cell? ⟨b1, o1 + i * 5 + 2, none⟩ = some (.int .i64 col) ∧ W.cell? ⟨b1, o1 + i * 5 + 3, none⟩ = some (.bool ra) ∧ W.cell? ⟨b1, o1 + i * 5 + 4, none⟩ = some (.bool ca) ∧ W.cell? ⟨b3, o3 + i * 5, none⟩ = some (.string sh) ∧ W.cell? ⟨b3, o3 + i * 5 + 1, none⟩ = some (.int .i64 row) ∧ W.cell? ⟨b3, o3 + i * 5 + 2, none⟩ = some (.int .i64 col') ∧ W.cell? ⟨b3, o3 + i * 5 + 3, none⟩ = some (.bool ra') ∧ W.cell? ⟨b3, o3 + i * 5 + 4, none⟩ = some (.bool ca')) (exact HKS.out.on (by repeat (first | exact Q.refl _ | refine Q.drewN ?_ _ | refine Q.drew ?_ | refine Q.alloc ?_ _ | refine Q.setCell ?_ (by simp) _))) (fail)
            all_goals go_wp2_with fail
            all_goals go_ret
            all_goals exact ⟨Ans.no HB.out, HT2.out.one.q.trans (by repeat (first | exact Q.refl _ | refine Q.drewN ?_ _ | refine Q.drew ?_ | refine Q.alloc ?_ _ | refine Q.setCell ?_ (by simp) _))⟩
        · have f : (row == row') = false := beq_no q1
          have HB := hid (HNE.out (fun h => q1 (HE.out.1 h).2.1))
          subst es
          clear HTK HE HNE HS0
          go_wp2_with fail
          go_region_held3 (fun W => W.cell? ⟨w.heap.size, 5, none⟩ = some (.slice (some ⟨b1, o1, none⟩) l1 c1) ∧ W.cell? ⟨w.heap.size + 1, 5, none⟩ = some (.slice (some ⟨b3, o3, none⟩) l1 c3) ∧ W.cell? ⟨b1, o1 + i * 5, none⟩ = some (.string sh) ∧ W.cell? ⟨b1, o1 + i * 5 + 1, none⟩ = some (.int .i64 row) ∧ W.cell? ⟨b1, o1 + i * 5 + 2, none⟩ = some (.int .i64 col) ∧ W.cell? ⟨b1, o1 + i * 5 + 3, none⟩ = some (.bool ra) ∧ W.cell? ⟨b1, o1 + i * 5 + 4, none⟩ = some (.bool ca) ∧ W.cell? ⟨b3, o3 + i * 5, none⟩ = some (.string sh) ∧ W.cell? ⟨b3, o3 + i * 5 + 1, none⟩ = some (.int .i64 row') ∧ W.cell? ⟨b3, o3 + i * 5 + 2, none⟩ = some (.int .i64 col') ∧ W.cell? ⟨b3, o3 + i * 5 + 3, none⟩ = some (.bool ra') ∧ W.cell? ⟨b3, o3 + i * 5 + 4, none⟩ = some (.bool ca')) (exact HKS.out.on (by repeat (first | exact Q.refl _ | refine Q.drewN ?_ _ | refine Q.drew ?_ | refine Q.alloc ?_ _ | refine Q.setCell ?_ (by simp) _))) (fail)
          all_goals go_wp2_with fail
          all_goals go_ret
          all_goals exact ⟨Ans.no HB.out, HT2.out.one.q.trans (by repeat (first | exact Q.refl _ | refine Q.drewN ?_ _ | refine Q.drew ?_ | refine Q.alloc ?_ _ | refine Q.setCell ?_ (by simp) _))⟩
      · have f : (sh.toList == sh'.toList) = false := str_no (by rw [HS0.out.1, HS0.out.2]; exact q0)
        have HB := hid (HNE.out (fun h => q0 (HE.out.1 h).1))
        clear HTK HE HNE HS0
        go_wp2_with fail
        go_region_held3 (fun W => W.cell? ⟨w.heap.size, 5, none⟩ = some (.slice (some ⟨b1, o1, none⟩) l1 c1) ∧ W.cell? ⟨w.heap.size + 1, 5, none⟩ = some (.slice (some ⟨b3, o3, none⟩) l1 c3) ∧ W.cell? ⟨b1, o1 + i * 5, none⟩ = some (.string sh) ∧ W.cell? ⟨b1, o1 + i * 5 + 1, none⟩ = some (.int .i64 row) ∧ W.cell? ⟨b1, o1 + i * 5 + 2, none⟩ = some (.int .i64 col) ∧ W.cell? ⟨b1, o1 + i * 5 + 3, none⟩ = some (.bool ra) ∧ W.cell? ⟨b1, o1 + i * 5 + 4, none⟩ = some (.bool ca) ∧ W.cell? ⟨b3, o3 + i * 5, none⟩ = some (.string sh') ∧ W.cell? ⟨b3, o3 + i * 5 + 1, none⟩ = some (.int .i64 row') ∧ W.cell? ⟨b3, o3 + i * 5 + 2, none⟩ = some (.int .i64 col') ∧ W.cell? ⟨b3, o3 + i * 5 + 3, none⟩ = some (.bool ra') ∧ W.cell? ⟨b3, o3 + i * 5 + 4, none⟩ = some (.bool ca')) (exact HKS.out.on (by repeat (first | exact Q.refl _ | refine Q.drewN ?_ _ | refine Q.drew ?_ | refine Q.alloc ?_ _ | refine Q.setCell ?_ (by simp) _))) (fail)
        all_goals go_wp2_with fail
        all_goals go_ret
        all_goals exact ⟨Ans.no HB.out, HT2.out.one.q.trans (by repeat (first | exact Q.refl _ | refine Q.drewN ?_ _ | refine Q.drew ?_ | refine Q.alloc ?_ _ | refine Q.setCell ?_ (by simp) _))⟩
    · have HRS : Hid (rs = rs') := by
        have := hA.out
        rw [List.take_of_length_le (by rw [h1.out]; omega), List.take_of_length_le (by rw [h1'.out]; omega)] at this
        exact this
      clear hT hA HR HR' h1 h1'
      go_wp2_with fail
      go_loopw [8] (fun z W' => ∃ i : Nat, i ≤ l2 ∧ z = .int .i64 (i : Int) ∧ Two w W' k n t b e (.slice a1 l1 c1) (.slice a2 l2 c2) k n t b e (.slice a3 l1 c3) (.slice a4 l2 c4) ∧ Hid (ks.take i = ks'.take i)) (fun z _ => l2 - (intOf z).toNat)
      case atStart => exact ⟨0, Nat.zero_le _, rfl, HT2.out, rfl⟩
      case round =>
        obtain ⟨j, hj, rfl, hT, hA⟩ := hrel
        have d6 := hT.one.g6
        have d6' := hT.g6
        have HT3 := hid hT
        by_cases hlt2 : j < l2
        · have hlk : j < ks.length := by rw [h2.out]; exact hlt2
          have hlk' : j < ks'.length := by rw [h2'.out]; exact hlt2
          obtain ⟨b2, o2, p0, p1, p2, p3, p4, p5, p6, rfl, P⟩ := HK.out j hlk _ hT.one.q
          obtain ⟨b4, o4, r0, r1, r2, r3, r4, r5, r6, rfl, R⟩ := HK'.out j hlk' _ hT.one.q
          have HC := hid (fun W (q : Q wr W) => IH.out j hlk hlk' _ _ W (Rd.on q _ _ P.rd) (Rd.on q _ _ R.rd))
          have HKT : Hid (KT w wr l2 b2 o2 c2 b4 o4 c4 j p0 p1 p2 p3 p4 p5 p6 r0 r1 r2 r3 r4 r5 r6) := hid ⟨d6, d6', P.g0, P.g1, P.g2, P.g3, P.g4, P.g5, P.g6, R.g0, R.g1, R.g2, R.g3, R.g4, R.g5, R.g6⟩
          have HNE : Hid (ks[j] ≠ ks'[j] → ¬ (rs = rs' ∧ ks = ks')) := hid (fun h ⟨_, g⟩ => h (by simp only [g]))
          have HTK : Hid (ks[j] = ks'[j] → ks.take (j + 1) = ks'.take (j + 1)) := hid (fun h => take_snoc' hlk hlk' hA.out h)
          generalize ks[j] = E1 at *
          generalize ks'[j] = E2 at *
          obtain ⟨-, -, -, -, -, -, -, -⟩ := P
          clear hT hA R
          go_wp2_with fail
          go_region_held3 (fun W => W.cell? ⟨w.heap.size, 6, none⟩ = some (.slice (some ⟨b2, o2, none⟩) l2 c2) ∧ W.cell? ⟨w.heap.size + 1, 6, none⟩ = some (.slice (some ⟨b4, o4, none⟩) l2 c4) ∧ W.cell? ⟨b2, o2 + j * 7, none⟩ = some p0 ∧ W.cell? ⟨b2, o2 + j * 7 + 1, none⟩ = some p1 ∧ W.cell? ⟨b2, o2 + j * 7 + 2, none⟩ = some p2 ∧ W.cell? ⟨b2, o2 + j * 7 + 3, none⟩ = some p3 ∧ W.cell? ⟨b2, o2 + j * 7 + 4, none⟩ = some p4 ∧ W.cell? ⟨b2, o2 + j * 7 + 5, none⟩ = some p5 ∧ W.cell? ⟨b2, o2 + j * 7 + 6, none⟩ = some p6 ∧ W.cell? ⟨b4, o4 + j * 7, none⟩ = some r0 ∧ W.cell? ⟨b4, o4 + j * 7 + 1, none⟩ = some r1 ∧ W.cell? ⟨b4, o4 + j * 7 + 2, none⟩ = some r2 ∧ W.cell? ⟨b4, o4 + j * 7 + 3, none⟩ = some r3 ∧ W.cell? ⟨b4, o4 + j * 7 + 4, none⟩ = some r4 ∧ W.cell? ⟨b4, o4 + j * 7 + 5, none⟩ = some r5 ∧ W.cell? ⟨b4, o4 + j * 7 + 6, none⟩ = some r6) (first | with_reducible exact HK9.out | exact HK9.out | exact HKT.out.on (by repeat (first | exact Q.refl _ | refine Q.drewN ?_ _ | refine Q.drew ?_)))
            (first | (go_at_call 33; refine (HC.out _ (by repeat (first | exact Q.refl _ | refine Q.drewN ?_ _ | refine Q.drew ?_))).mono ?_; rintro x9 w9 ⟨⟨rr, rfl, hrr⟩, q9⟩; have Q9 := hid ((show Q wr _ by repeat (first | exact Q.refl _ | refine Q.drewN ?_ _ | refine Q.drew ?_)).trans q9); have HK9 := hid (HKT.out.on Q9.out); have HRR := hid hrr; clear q9 hrr))
          cases rr
          · have HB := hid (HNE.out (fun h => by have := HRR.out.2 h; cases this))
            clear HNE HTK HRR
            go_wp2_with fail
            go_ret
            exact ⟨Ans.no HB.out, HT3.out.one.q.trans (by repeat (first | exact Q9.out | exact Q.refl _ | refine Q.drewN ?_ _ | refine Q.drew ?_))⟩
          · have HTA := hid (HTK.out (HRR.out.1 rfl))
            clear HNE HTK HRR
            go_wp2_with fail
            go_roundw
            case rel => exact ⟨j + 1, by omega, by go_num, HT3.out.on (by repeat (first | exact Q9.out | exact Q.refl _ | refine Q.drewN ?_ _ | refine Q.drew ?_)), HTA⟩
            case measure => simp [intOf]; omega
        · have HKS2 : Hid (rs = rs' ∧ ks = ks') := by
            have := hA.out
            rw [List.take_of_length_le (by rw [h2.out]; omega), List.take_of_length_le (by rw [h2'.out]; omega)] at this
            exact ⟨HRS.out, this⟩
          clear hT hA
          go_wp2_with fail
          go_ret
          exact ⟨Ans.yes HKS2.out, HT3.out.one.q⟩
end Go.Proofs.YtcgddnliiondoaaGreatDoor
