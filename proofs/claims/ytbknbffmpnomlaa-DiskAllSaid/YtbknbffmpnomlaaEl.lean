/- DiskAll, walked. -/
import Derived.Test.YtbknbffmpnomlaaEk
import Derived.Deep.CutRange
namespace Go.Proofs.Ytbknbffmpnomlaa
open Go.RowKit
set_option linter.unusedVariables false
set_option linter.unusedSimpArgs false
set_option maxRecDepth 100000 in
set_option maxHeartbeats 60000000 in
theorem all_any (w : World) (v : Value) (ops : List On) (hs : Sl eo 5 w v ops) (hv : ∀ o ∈ ops, Ov w o) : Calls Try.prog 3 #[v] w fun e W' => e = .returned (.bool true) ∧ Q w W' := by
  obtain ⟨ao, cap, rfl, h1, h2⟩ := hs.len
  have HS := hid hs
  have HV := hid hv
  have HBE := hid (begun_any w)
  clear hs hv
  go_enter Try.func3, Try.ntmps3
  go_upto_region 4 with (go_at_call 6; refine HBE.out.mono ?_; rintro e9 w1 ⟨rfl, hq⟩; have HQ1 := hid hq; clear hq HBE)
  have HNEW := hid (new_any w1)
  go_upto_region 6 with (go_at_call 7; refine HNEW.out.mono ?_; rintro e9 w2 ⟨rfl, hd1, hq1, hl1⟩; have HD2 := hid hd1; have HQ2 := hid hq1; have HL2 := hid hl1; clear hd1 hq1 hl1 HNEW)
  have HQ3 : Hid (Q w2 (w2.alloc (.cells #[.slice none 0 0, .int .i64 0] 29))) := hid ((Q.refl w2).alloc _)
  have HST : Hid (St (fun i => i = w1.heap.size) (fun i => i = w2.heap.size) w (w2.alloc (.cells #[.slice none 0 0, .int .i64 0] 29)) w1.heap.size 0 w2.heap.size Pd.new (.slice none 0 0) [] 0) := hid ⟨⟨HD2.out.on (fun i hi => by rw [hi]; exact HL2.out) HQ3.out, fun i hi => by rw [hi]; have := HL2.out; simp; omega, fun i hi => by rw [hi]; exact HQ1.out.size, wf_new, Nat.le_refl _, Nat.le_refl _, Nat.le_refl _, bd_new⟩,
    ⟨bk_new _ _ _, own_nil _, fun d hd => (by cases hd), fun d hd => (by cases hd), rfl, fun g hg => (by cases hg), fun d hd => (by cases hd), fun i hi => by rw [hi]; simp, fun i hi => by rw [hi]; exact Nat.le_trans HQ1.out.size HQ2.out.size⟩, fun i hi hj => by have := HL2.out; omega, (HQ1.out.trans (Q.trans (Q.refl _) HQ2.out)).alloc _, iv_new, Nat.le_refl _⟩
  generalize w2.alloc (.cells #[.slice none 0 0, .int .i64 0] 29) = w3 at HST ⊢
  clear HQ3
  go_wp2_with fail
  go_loopw [4, 5, 6] (fun d r i wr => ∃ (S T : Nat → Prop) (p n q : Nat) (P : Pd) (v : Value) (R : List Rn) (k : Nat), k ≤ ops.length ∧ k ≤ 40 ∧ i = .int .i64 k ∧ d = .pointer (some ⟨p, 0, none⟩) ∧ r = .pointer (some ⟨q, 0, none⟩) ∧ Hid (St S T w wr p n q P v R k)) (fun _ _ i _ => ops.length - (intOf i).toNat)
  case atStart => exact ⟨_, _, _, _, _, _, _, _, 0, Nat.zero_le _, Nat.zero_le _, rfl, rfl, rfl, HST⟩
  case round =>
    obtain ⟨S, T, p, n, q, P, v, R, k, hk, hk40, rfl, rfl, rfl, HT⟩ := hrel
    by_cases hlt : k < ops.length
    · by_cases hlt40 : k < 40
      · have hi : (k : Int) < (ops.length : Int) := by omega
        have hi40 : (k : Int) < 40 := by omega
        have HS2 := HS.out.on HT.out.q
        obtain ⟨g, off, cap', e, _, _, hat⟩ := HS2.at hlt
        injection e with e1 e2 e3
        subst e1 e3
        have hv := HV.out ops[k] (List.getElem_mem hlt)
        generalize ops[k] = o at hat hv
        obtain ⟨dk, dm, dx, dy, ⟨da, dn, dc⟩, dL⟩ := o
        have x0 : wr.cell? ⟨g, off + k * 5, none⟩ = some (.int .i64 dk) := hat 0 _ rfl
        have x1 : wr.cell? ⟨g, off + k * 5 + 1, none⟩ = some (.int .i64 dm) := hat 1 _ rfl
        have x2 : wr.cell? ⟨g, off + k * 5 + 2, none⟩ = some (.string dx) := hat 2 _ rfl
        have x3 : wr.cell? ⟨g, off + k * 5 + 3, none⟩ = some (.string dy) := hat 3 _ rfl
        have x4 : wr.cell? ⟨g, off + k * 5 + 4, none⟩ = some (.slice da dn dc) := hat 4 _ rfl
        have HVo := hid hv
        have hqa : Q wr (wr.alloc (.cells #[.int .i64 dk, .int .i64 dm, .string dx, .string dy, .slice da dn dc] 32)) := (Q.refl wr).alloc _
        have HTa := hid (HT.out.on hqa)
        have HOa := hid (bk_new wr 32 #[.int .i64 dk, .int .i64 dm, .string dx, .string dy, .slice da dn dc])
        have HSH := hid (short_any (sv ⟨da, dn, dc⟩) dL 20 _ (hv.b.on HTa.out.q) (by decide))
        clear hat hv HS2 hqa
        go_upto_region 11 with (first
          | (go_at_call 8; refine HSH.out.mono ?_; rintro e9 wb ⟨⟨vs, rfl, hsb⟩, hwb⟩; subst wb; have HSB := hid hsb; clear hsb HSH)
          | (at_builtin; refine wpl_appb rfl _ _ rfl wr.heap.size _ [] rfl (own_nil _) _ rfl (dL.take 20) HSB.out (by simp; omega) (by simp) ?_; intro vb wb hob hgb; have HOB := hid hob; have hqb := q_of_grown (Q.refl _) hgb; have HTb := hid (HTa.out.on hqb); have HO := hid (HOa.out.on hqb); clear hob hgb hqb HSB))
        obtain ⟨⟨ba, bn, bc⟩, rfl⟩ := own_sv HOB.out
        obtain ⟨B, hB⟩ : ∃ B, B = [] ++ dL.take 20 := ⟨_, rfl⟩
        rw [← hB] at HOB
        have hBl : B.length ≤ 20 := by rw [hB]; simp; omega
        clear hB x0 x1 x2 x3 x4
        have HOW : Hid (Own eb 5 1 w.heap.size wb (.slice ba bn bc) B) := hid (HOB.out.mono HT.out.q.size)
        obtain ⟨bao, bcap, e, hbc1, hbc2⟩ := (own_sb (e := 5) HOW.out).s.len
        injection e with e1 e2 e3
        subst e1 e2 e3
        clear hbc1 hbc2
        have HNB : Hid (∀ g, (Value.slice ba B.length bc).ownBlock = some g → ¬ S g ∧ ¬ T g) := hid (fun g hg => by
          have h1 := HOB.out.blk g hg
          exact ⟨fun h => by have := HT.out.d.lt g h; omega, fun h => by have := HT.out.r.lt g h; omega⟩)
        have z0 : wb.cell? ⟨wr.heap.size, 0, none⟩ = some (.int .i64 dk) := HO.out.c 0 _ rfl
        unfold sv
        clear HOB
        go_cut [38] from 37 to 37 (fun s W => s = .int .i64 dk ∧ Hid (W = wb))
        case first =>
          go_wp2_with fail
          go_meet
          exact ⟨rfl, hid rfl⟩
        case rest =>
          obtain ⟨rfl, hwc⟩ := hcut
          rw [hwc.out]
          clear hwc z0
          rename_i hkk
          refine hkk _ _ ?_
          clear hkk
          have z0 : wb.cell? ⟨wr.heap.size, 0, none⟩ = some (.int .i64 dk) := HO.out.c 0 _ rfl
          have z1 : wb.cell? ⟨wr.heap.size, 1, none⟩ = some (.int .i64 dm) := HO.out.c 1 _ rfl
          have z2 : wb.cell? ⟨wr.heap.size, 2, none⟩ = some (.string dx) := HO.out.c 2 _ rfl
          have z3 : wb.cell? ⟨wr.heap.size, 3, none⟩ = some (.string dy) := HO.out.c 3 _ rfl
          go_cut [4, 5, 9, 10] from 39 to 153 (fun d r c s W => ∃ p q : Nat, d = .pointer (some ⟨p, 0, none⟩) ∧ r = .pointer (some ⟨q, 0, none⟩) ∧ Hid (Bh w W p q k (.slice ba B.length bc) B))
          case first =>
            -- SWITCH
            by_cases hk0 : dk = 0
            · subst hk0
              have HOP : Hid (Calls Try.prog 9 #[.pointer (some ⟨p, 0, none⟩), .string dx, .slice ba B.length bc] wb fun e W' => (∃ v, e = .returned v) ∧ Ds (New S wb W') W' p (n + 1) (P.append dx B) ∧ Qp S wb W') := hid (append_any HTb.out.d.ds HTb.out.d.lt dx HVo.out.x ⟨ba, B.length, bc⟩ B (own_sb (e := 5) HOW.out) (fun g hg => ⟨HOW.out.lt g hg, (HNB.out g hg).1⟩) (by have := HTb.out.d.bm; omega) (by have := HTb.out.d.bu; omega) (by have := HTb.out.d.bn; omega) (by omega) (Nat.le_trans (HTb.out.d.bd.f dx) (by omega)))
              by_cases hB0 : B = []
              · subst hB0
                go_wp2_with (go_at_call 9; refine HOP.out.mono ?_; rintro e9 W1 ⟨⟨v9, rfl⟩, hd1, hq1⟩; have HDa := hid hd1; have HQa := hid hq1; clear hd1 hq1 HOP)
                go_meet
                have e0 : P.append dx [] = P := if_pos rfl
                rw [e0] at HDa
                exact ⟨p, q, rfl, rfl, hid (bh_same HTb.out HOW.out HNB.out HDa.out HQa.out (HTb.out.r.qp HTb.out.sep HQa.out) (Qp.refl T W1) HTb.out.d.wf (by omega) (by omega) (by omega) (bd20 HTb.out.d.bd) HTb.out.iv)⟩
              · have hB1 : (0 : Int) < (B.length : Int) := by have := List.length_pos_iff.2 hB0; omega
                go_upto_region 21 with (go_at_call 9; refine HOP.out.mono ?_; rintro e9 W1 ⟨⟨v9, rfl⟩, hd1, hq1⟩; have HDa := hid hd1; have HQa := hid hq1; clear hd1 hq1 HOP)
                have HR1 := hid (HTb.out.r.qp HTb.out.sep HQa.out)
                have HO1 := hid (HO.out.same (HQa.out.block _ HO.out.l (fun h => Nat.lt_irrefl _ (HT.out.d.lt _ h))))
                have HOW1 := hid (HOW.out.same (fun g hg => HQa.out.block g (HOW.out.lt g hg) (HNB.out g hg).1))
                have o0 : W1.cell? ⟨q, 0, none⟩ = some v := HR1.out.bk.c 0 _ rfl
                have y2 : W1.cell? ⟨wr.heap.size, 2, none⟩ = some (.string dx) := HO1.out.c 2 _ rfl
                clear z0 z1 z2 z3
                go_region_law (first
                  | (have hx6 := HQ6
                     clear hx6
                     refine step_done rfl _ _ rfl 0 v R rfl ((HR1.out.row.on HQ6.out).alloc _) ⟨0, dx, ⟨#[]⟩, ⟨xa, xn, xc⟩, [] ++ B⟩ _ rfl (bk_new _ _ _) (by have := HTb.out.l; omega) (Nat.zero_le _) ?_
                     intro v5 w5 ho5 hg5 hat5
                     have hmid := HR1.out.mid (HQ6.out.alloc _) hg5
                     have HA := hid (HR1.out.add (Nat.le_trans HTb.out.q.size HQa.out.size) (HQ6.out.alloc _) (HO6.out.alloc _) hBl ho5 hg5 hat5)
                     have f5 := hmid.f 0
                     have c5 : w5.cell? ⟨q, 0, none⟩ = some v := hmid.c 0 _ rfl
                     clear hmid ho5 hg5 hat5
                     obtain ⟨va5, vn5, vc5⟩ := v5
                     unfold sv at HA ⊢)
                  | (fail_if_success (have hx6 := HQ6)
                     refine step_appb rfl _ _ rfl W1.heap.size _ [] rfl (own_nil _) _ rfl B ((own_sb (e := 5) HOW1.out).on ((Q.refl _).drew)) (by simp; omega) (by simp) ?_
                     intro v6 w6 ho6 hg6
                     obtain ⟨xa, xn, xc⟩ := v6
                     have HO6 := hid ho6
                     have hq6 : Q W1 w6 := q_of_grown ((Q.refl W1).drew) hg6
                     have HQ6 := hid hq6
                     have o06 : w6.cell? ⟨q, 0, none⟩ = some v := (HR1.out.bk.on hq6).c 0 _ rfl
                     have o06a : (w6.alloc (.cells #[.int .i64 0, .string dx, .string ⟨#[]⟩, .slice xa xn xc] 36)).cell? ⟨q, 0, none⟩ = some v := ((HR1.out.bk.on hq6).on ((Q.refl w6).alloc _)).c 0 _ rfl
                     have y26 : w6.cell? ⟨wr.heap.size, 2, none⟩ = some (.string dx) := (HO1.out.on hq6).c 2 _ rfl
                     clear ho6 hg6 hq6
                     unfold sv))
                all_goals (go_wp2_with fail)
                all_goals go_meet
                all_goals exact ⟨p, q, rfl, rfl, hid (bh_put HTb.out HOW.out HNB.out HDa.out HQa.out HA.out.1 (append_s P dx B) HA.out.2 (HTb.out.d.wf.append dx B) (by have := ms_append P dx B; omega) (by have := ms_append P dx B; omega) (by omega) ((HTb.out.d.bd.append dx B).mono (by omega)) (by rw [List.map_append]; exact HTb.out.iv.append dx ⟨#[]⟩ B hB0))⟩
            by_cases hk1 : dk = 1
            · subst hk1
              have HOP := hid (create_any HTb.out.d.ds HTb.out.d.lt dx HVo.out.x (by have := HTb.out.d.bm; omega) (by have := HTb.out.d.bu; omega) (by have := HTb.out.d.bn; omega))
              go_upto_region 24 with (go_at_call 10; refine HOP.out.mono ?_; rintro e9 W1 ⟨⟨v9, rfl⟩, hd1, hq1⟩; have HDa := hid hd1; have HQa := hid hq1; clear hd1 hq1 HOP)
              have HR1 := hid (HTb.out.r.qp HTb.out.sep HQa.out)
              have HO1 := hid (HO.out.same (HQa.out.block _ HO.out.l (fun h => Nat.lt_irrefl _ (HT.out.d.lt _ h))))
              have o0 : W1.cell? ⟨q, 0, none⟩ = some v := HR1.out.bk.c 0 _ rfl
              have o0a : (W1.alloc (.cells #[.int .i64 1, .string dx, .string ⟨#[]⟩, .slice none 0 0] 36)).cell? ⟨q, 0, none⟩ = some v := (HR1.out.bk.on ((Q.refl W1).alloc _)).c 0 _ rfl
              have y2 : W1.cell? ⟨wr.heap.size, 2, none⟩ = some (.string dx) := HO1.out.c 2 _ rfl
              clear z0 z1 z2 z3
              go_region_law (refine step_done rfl _ _ rfl 0 v R rfl ((HR1.out.row.alloc _).on ((Q.refl _).drew)) ⟨1, dx, ⟨#[]⟩, nl, []⟩ _ rfl ((bk_new W1 36 _).on ((Q.refl _).drew)) (by have := HTb.out.l; omega) (Nat.zero_le _) ?_
                             intro v5 w5 ho5 hg5 hat5
                             have hmid := HR1.out.mid (((Q.refl W1).alloc _).drew) hg5
                             have HA := hid (HR1.out.add (Nat.le_trans HTb.out.q.size HQa.out.size) (((Q.refl W1).alloc _).drew) (own_nil _) (Nat.zero_le _) ho5 hg5 hat5)
                             have f5 := hmid.f 0
                             have c5 : w5.cell? ⟨q, 0, none⟩ = some v := hmid.c 0 _ rfl
                             clear hmid ho5 hg5 hat5
                             obtain ⟨va5, vn5, vc5⟩ := v5
                             unfold sv at HA ⊢)
              all_goals (go_wp2_with fail)
              all_goals go_meet
              all_goals exact ⟨p, q, rfl, rfl, hid (bh_put HTb.out HOW.out HNB.out HDa.out HQa.out HA.out.1 rfl HA.out.2 (HTb.out.d.wf.create dx) (by have := ms_create P dx; omega) (by have := ms_create P dx; omega) (by omega) ((bd20 HTb.out.d.bd).create dx) (by rw [List.map_append]; exact HTb.out.iv.create dx ⟨#[]⟩ []))⟩
            by_cases hk2 : dk = 2
            · subst hk2
              have HOP := hid (rename_any HTb.out.d.ds HTb.out.d.lt dx HVo.out.x dy HVo.out.y (by have := HTb.out.d.bm; omega) (by have := HTb.out.d.bu; omega) (by have := HTb.out.d.bn; omega))
              go_upto_region 27 with (go_at_call 11; refine HOP.out.mono ?_; rintro e9 W1 ⟨⟨v9, rfl⟩, hd1, hq1⟩; have HDa := hid hd1; have HQa := hid hq1; clear hd1 hq1 HOP)
              have HR1 := hid (HTb.out.r.qp HTb.out.sep HQa.out)
              have HO1 := hid (HO.out.same (HQa.out.block _ HO.out.l (fun h => Nat.lt_irrefl _ (HT.out.d.lt _ h))))
              have o0 : W1.cell? ⟨q, 0, none⟩ = some v := HR1.out.bk.c 0 _ rfl
              have o0a : (W1.alloc (.cells #[.int .i64 2, .string dx, .string dy, .slice none 0 0] 36)).cell? ⟨q, 0, none⟩ = some v := (HR1.out.bk.on ((Q.refl W1).alloc _)).c 0 _ rfl
              have y2 : W1.cell? ⟨wr.heap.size, 2, none⟩ = some (.string dx) := HO1.out.c 2 _ rfl
              have y3 : W1.cell? ⟨wr.heap.size, 3, none⟩ = some (.string dy) := HO1.out.c 3 _ rfl
              clear z0 z1 z2 z3
              go_region_law (refine step_done rfl _ _ rfl 0 v R rfl ((HR1.out.row.alloc _).on ((Q.refl _).drew)) ⟨2, dx, dy, nl, []⟩ _ rfl ((bk_new W1 36 _).on ((Q.refl _).drew)) (by have := HTb.out.l; omega) (Nat.zero_le _) ?_
                             intro v5 w5 ho5 hg5 hat5
                             have hmid := HR1.out.mid (((Q.refl W1).alloc _).drew) hg5
                             have HA := hid (HR1.out.add (Nat.le_trans HTb.out.q.size HQa.out.size) (((Q.refl W1).alloc _).drew) (own_nil _) (Nat.zero_le _) ho5 hg5 hat5)
                             have f5 := hmid.f 0
                             have c5 : w5.cell? ⟨q, 0, none⟩ = some v := hmid.c 0 _ rfl
                             clear hmid ho5 hg5 hat5
                             obtain ⟨va5, vn5, vc5⟩ := v5
                             unfold sv at HA ⊢)
              all_goals (go_wp2_with fail)
              all_goals go_meet
              all_goals exact ⟨p, q, rfl, rfl, hid (bh_put HTb.out HOW.out HNB.out HDa.out HQa.out HA.out.1 (rename_s P dx dy) HA.out.2 (HTb.out.d.wf.rename dx dy) (by have := ms_rename P dx dy; omega) (by have := ms_rename P dx dy; omega) (by omega) ((bd20 HTb.out.d.bd).rename dx dy) (by rw [List.map_append]; exact HTb.out.iv.rename dx dy []))⟩
            by_cases hk3 : dk = 3
            · subst hk3
              have HOP := hid (remove_any HTb.out.d.ds HTb.out.d.lt dx HVo.out.x (by have := HTb.out.d.bm; omega) (by have := HTb.out.d.bu; omega) (by have := HTb.out.d.bn; omega))
              go_upto_region 30 with (go_at_call 12; refine HOP.out.mono ?_; rintro e9 W1 ⟨⟨v9, rfl⟩, hd1, hq1⟩; have HDa := hid hd1; have HQa := hid hq1; clear hd1 hq1 HOP)
              have HR1 := hid (HTb.out.r.qp HTb.out.sep HQa.out)
              have HO1 := hid (HO.out.same (HQa.out.block _ HO.out.l (fun h => Nat.lt_irrefl _ (HT.out.d.lt _ h))))
              have o0 : W1.cell? ⟨q, 0, none⟩ = some v := HR1.out.bk.c 0 _ rfl
              have o0a : (W1.alloc (.cells #[.int .i64 3, .string dx, .string ⟨#[]⟩, .slice none 0 0] 36)).cell? ⟨q, 0, none⟩ = some v := (HR1.out.bk.on ((Q.refl W1).alloc _)).c 0 _ rfl
              have y2 : W1.cell? ⟨wr.heap.size, 2, none⟩ = some (.string dx) := HO1.out.c 2 _ rfl
              clear z0 z1 z2 z3
              go_region_law (refine step_done rfl _ _ rfl 0 v R rfl ((HR1.out.row.alloc _).on ((Q.refl _).drew)) ⟨3, dx, ⟨#[]⟩, nl, []⟩ _ rfl ((bk_new W1 36 _).on ((Q.refl _).drew)) (by have := HTb.out.l; omega) (Nat.zero_le _) ?_
                             intro v5 w5 ho5 hg5 hat5
                             have hmid := HR1.out.mid (((Q.refl W1).alloc _).drew) hg5
                             have HA := hid (HR1.out.add (Nat.le_trans HTb.out.q.size HQa.out.size) (((Q.refl W1).alloc _).drew) (own_nil _) (Nat.zero_le _) ho5 hg5 hat5)
                             have f5 := hmid.f 0
                             have c5 : w5.cell? ⟨q, 0, none⟩ = some v := hmid.c 0 _ rfl
                             clear hmid ho5 hg5 hat5
                             obtain ⟨va5, vn5, vc5⟩ := v5
                             unfold sv at HA ⊢)
              all_goals (go_wp2_with fail)
              all_goals go_meet
              all_goals exact ⟨p, q, rfl, rfl, hid (bh_put HTb.out HOW.out HNB.out HDa.out HQa.out HA.out.1 rfl HA.out.2 (HTb.out.d.wf.remove dx) (by have := ms_remove P dx; omega) (by have := ms_remove P dx; omega) (by omega) ((bd20 HTb.out.d.bd).remove dx) (by rw [List.map_append]; exact HTb.out.iv.remove dx ⟨#[]⟩ []))⟩
            by_cases hk4 : dk = 4
            · subst hk4
              have HOP := hid (sync_any HTb.out.d.ds)
              go_upto_region 33 with (go_at_call 13; refine HOP.out.mono ?_; rintro e9 W1 ⟨⟨v9, rfl⟩, hd1, hq1⟩; have HDa := hid hd1; have HQa := hid hq1; clear hd1 hq1 HOP)
              have HR1 := hid (HTb.out.r.qp HTb.out.sep HQa.out)
              have HU := hid (runits_any W1 q P.s v R HR1.out.bk (HR1.out.row.sl er_len (by decide)) (by have := HTb.out.l; omega) (rb_n HR1.out.rb))
              have c1 : W1.cell? ⟨q, 1, none⟩ = some (.int .i64 P.s) := HR1.out.bk.c 1 _ rfl
              have f1 := HR1.out.bk.f 1
              clear z0 z1 z2 z3
              go_wp2_with (go_at_call 14; refine HU.out.mono ?_; rintro e9 w1 ⟨rfl, hw1⟩; subst w1)
              go_meet
              exact ⟨p, q, rfl, rfl, hid (bh_same HTb.out HOW.out HNB.out (HDa.out.more (fun i hi => .inl hi)) HQa.out (P' := P.sync) (by have := HR1.out.sync (ru (R.map Rn.p)); rw [← HTb.out.iv.u] at this; rw [← HTb.out.iv.u]; exact this) ((Qp.refl T W1).set 1 _ (.inl HR1.out.tq)) HTb.out.d.wf.sync (Nat.le_add_right _ _) (Nat.zero_le _) (by omega) ((bd20 HTb.out.d.bd).sync) HTb.out.iv.sync)⟩
            have HOP := hid (cut_any HTb.out.d.ds HTb.out.d.lt HTb.out.d.wf dm HVo.out.m1 HVo.out.m2 (by have := HTb.out.d.bm; omega) (by have := HTb.out.d.bn; omega) (by have := HTb.out.d.bu; omega) (fun x => Nat.le_trans (HTb.out.d.bd.f x) (by omega)) (fun m hm => Nat.le_trans (HTb.out.d.bd.m m hm) (by omega)))
            go_upto_region 13 with (go_at_call 15; refine HOP.out.mono ?_; rintro e9 W1 ⟨qd, n', rfl, hd1, hn1, hq1⟩; have HDa := hid hd1; have HQa := hid hq1; have HNa := hid hn1; clear hd1 hq1 hn1 HOP)
            have HR1 := hid (HTb.out.r.on HQa.out)
            have y1 : W1.cell? ⟨wr.heap.size, 1, none⟩ = some (.int .i64 dm) := (HO.out.on HQa.out).c 1 _ rfl
            have HRC := hid (rcut_any W1 q P.s dm v R HR1.out.bk (HR1.out.row.sl er_len (by decide)) (by have := HTb.out.l; omega) HR1.out.rb (P.near dm) (by rw [← HTb.out.iv.u]; exact HTb.out.iv.s) (near_eq HTb.out.iv dm))
            go_upto_region 14 with (go_at_call 16; refine HRC.out.mono ?_; rintro e9 W2 ⟨qo, Tn, k', n2, rfl, hc, hm, hk'⟩; obtain ⟨ov, hst2⟩ := st_cut HTb.out (by omega) HDa.out HNa.out HQa.out hc hm hk'; have HST2 := hid hst2; have HQ2 := hid (Q.trans HQa.out (Q.trans (Q.refl _) hc.q)); have HQ12 := hid hc.q; clear hst2 hc hm hk' HRC)
            have HS1 := hid (same_of HST2.out (by omega))
            go_upto_region 16 with (first
              | (go_at_call 17; refine HS1.out.mono ?_; rintro e9 W3 ⟨rfl, hq⟩; have HQ3 := hid hq; have HS2m := hid (same_of (HTb.out.on (Q.trans HQ2.out (Q.trans (Q.refl _) hq))) (by omega)); clear hq HS1)
              | (go_at_call 17; refine HS2m.out.mono ?_; rintro e9 W4 ⟨rfl, hq⟩; have HQ4 := hid (Q.trans HQ3.out (Q.trans (Q.refl _) hq)); clear hq))
            have HQb4 := hid (Q.trans HQ2.out (Q.trans (Q.refl _) HQ4.out))
            have y14 : W4.cell? ⟨wr.heap.size, 1, none⟩ = some (.int .i64 dm) := (HO.out.on HQb4.out).c 1 _ rfl
            clear z0 z1 z2 z3 y1
            by_cases hev : Int.tmod dm 2 = 0
            · go_wp2_with fail
              go_meet
              exact ⟨qd, qo, rfl, rfl, hid ⟨_, _, _, _, _, _, HST2.out.on HQ4.out, HOW.out.on HQb4.out, fun g hg => ⟨fun hx => by have := HOW.out.lt g hg; have := hx.1; omega, fun hx => by
                rcases hx with hx | hx
                · exact (HNB.out g hg).2 hx
                · have := HOW.out.lt g hg
                  have := HQa.out.size
                  omega⟩⟩⟩
            · go_wp2_with fail
              go_meet
              exact ⟨p, q, rfl, rfl, hid ⟨_, _, _, _, _, _, (HTb.out.on HQb4.out).up, HOW.out.on HQb4.out, HNB.out⟩⟩
          case rest =>
            obtain ⟨p2, q2, rfl, rfl, HBH⟩ := hcut
            clear z0 z1 z2 z3
            obtain ⟨S2, T2, n2, P2, v2, R2, hst, hob, hnb⟩ := HBH.out
            have HST2 := hid hst
            have HNB2 := hid hnb
            have HGB2 := hid (hob.blk)
            have HC0 : Hid (0 < B.length → ∃ g cur, ba = some ⟨g, 0, none⟩ ∧ Bk wc 5 g cur ∧ ∀ j, 0 ≤ j → j < B.length → cur[j]? = some (.int .u8 (B.getD j 0).toNat)) := hid (fun hl => by
              obtain ⟨g, cap, cur, e, hb, hc⟩ := own_bytes hob hl
              injection e with e1 e2 e3
              exact ⟨g, cur, e1, hb, hc⟩)
            clear hst hob hnb
            go_wp2_with fail
            go_loopw [11] (fun j wr2 => ∃ k2 : Nat, k2 ≤ B.length ∧ j = .int .i64 k2 ∧ Hid (Qp (fun g => (Value.slice ba B.length bc).ownBlock = some g) wc wr2) ∧ Hid (k2 < B.length → ∃ g cur, ba = some ⟨g, 0, none⟩ ∧ Bk wr2 5 g cur ∧ ∀ j, k2 ≤ j → j < B.length → cur[j]? = some (.int .u8 (B.getD j 0).toNat))) (fun j _ => B.length - (intOf j).toNat)
            case atStart => exact ⟨0, Nat.zero_le _, rfl, hid (Qp.refl _ _), HC0⟩
            case round =>
              obtain ⟨k2, hk2, rfl, HQB, HCB⟩ := hrel
              by_cases hlt2 : k2 < B.length
              · obtain ⟨g2, cur, rfl, hbk, hcc⟩ := HCB.out hlt2
                have hi2 : (k2 : Int) < (B.length : Int) := by omega
                have y0 := hbk.c k2 _ (hcc k2 (Nat.le_refl _) hlt2)
                have y1 := hbk.f k2
                have HBK := hid hbk
                have HCC := hid hcc
                clear hbk hcc
                generalize (B.getD k2 0).toNat = b0 at y0
                go_wp2_with fail
                refine ⟨⟨k2 + 1, by omega, by go_num, hid (HQB.out.set k2 _ (.inl rfl)), hid (fun hl => ⟨g2, _, rfl, HBK.out.put k2 _, fun j h1 h2 => by rw [Array.getElem?_setIfInBounds_ne (by omega)]; exact HCC.out j (by omega) h2⟩)⟩, ?_⟩
                simp [intOf]
                omega
              · obtain rfl : k2 = B.length := by omega
                have hst3 := HST2.out.bq HNB2.out HGB2.out HQB.out
                have HSM := hid (same_of hst3 (by omega))
                have HST3 := hid hst3
                clear hst3
                go_wp2_with (go_at_call 17; refine HSM.out.mono ?_; rintro e9 w9 ⟨rfl, hq⟩; have HQ9 := hid hq; clear hq HSM)
                refine ⟨⟨S2, T2, p2, n2, q2, P2, v2, R2, k + 1, by omega, by omega, by go_num, rfl, rfl, hid (HST3.out.on HQ9.out)⟩, ?_⟩
                simp [intOf]
                omega
      · obtain rfl : k = 40 := by omega
        have hi : (40 : Int) < (ops.length : Int) := by omega
        go_wp2_with fail
        go_ret
        exact ⟨rfl, HT.out.q⟩
    · obtain rfl : k = ops.length := by omega
      go_wp2_with fail
      go_ret
      exact ⟨rfl, HT.out.q⟩
end Go.Proofs.Ytbknbffmpnomlaa
