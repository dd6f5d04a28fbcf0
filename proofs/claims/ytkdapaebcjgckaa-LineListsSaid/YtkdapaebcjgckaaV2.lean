/- counterpanelaw3.lists: two lists of operations, transformed behind one another: the walk. -/
import Derived.Test.YtkdapaebcjgckaaV0
import Derived.Deep.CutBlock
namespace Go.Proofs.Ytkdapaebcjgckaa
open Go.RowKit
set_option linter.unusedVariables false
set_option linter.unusedSimpArgs false

set_option maxRecDepth 100000 in
set_option maxHeartbeats 4000000 in
theorem lists_any (va vb : Value) (A B : List Ax.Ln) (w : World) (ha : Sl w va A) (hb : Sl w vb B) (hA : A.length ≤ 6) (hB : B.length ≤ 6) :
    Calls Try.prog 17 #[va, vb] w fun e w' => ∃ v1 v2, e = .returned (.tuple #[v1, v2]) ∧ Sl w' v1 (listsX A B).1 ∧ Sl w' v2 (listsX A B).2 ∧ Q w w' := by
  obtain ⟨i0, hi, hz⟩ := Option.map_eq_some_iff.1 info23
  simp only [Prod.mk.injEq] at hz
  obtain ⟨hz0, hz1, hz2⟩ := hz
  have HI := hid hi
  have HZ := hid (And.intro hz0 (And.intro hz1 hz2))
  have HA := hid ha
  have HB := hid hb
  clear hi hz0 hz1 hz2 ha hb
  go_enter Try.func17, Try.ntmps17
  go_wp2
  go_loopw [6, 7, 8] (fun o r s W => ∃ (n : Nat) (O R : List Ax.Ln), n ≤ A.length ∧ s = .int .i64 n ∧ W.ownsRow w.heap.size 23 3 o O.length (flat O) ∧ Sl W r R ∧ Q w W ∧ O.length ≤ n ∧ R.length ≤ 6 ∧ Hid ((A.take n).foldl stO ([], B) = (O, R))) (fun _ _ s _ => A.length - (intOf s).toNat)
  case atStart => exact ⟨0, [], B, Nat.zero_le _, rfl, World.ownsRow_nil _ _ _ _, HB.out, Q.refl _, by simp, hB, rfl⟩
  case round =>
    obtain ⟨n, O, R, hn, rfl, hown, hr, hq, hO, hR, hF⟩ := hrel
    have HOW := hid hown
    have HR := hid hr
    have HQ := hid hq
    clear hown hr hq
    by_cases hlt : n < A.length
    · have hlt' : (n : Int) < (A.length : Int) := by omega
      obtain ⟨w0, rfl⟩ : ∃ w0, w0 = wr := ⟨wr, rfl⟩
      obtain ⟨g, off, cap, rfl, hc⟩ := (HA.out.on HQ.out).at hlt
      have hF1 := hid (fold_succ stO ([], B) A n hlt)
      rw [hF.out] at hF1
      generalize A[n] = x at *
      obtain ⟨xk, xa, xt⟩ := x
      obtain ⟨c0, c1, c2⟩ := hc
      simp only at c0 c1 c2
      go_wp2
      clear c0 c1 c2
      have HBX := hid (bw_new w0 xk xa xt)
      go_loopw [10, 11, 12] (fun o v s W => ∃ (j : Nat) (x : Ax.Ln) (ok : Bool) (nx : List Ax.Ln), j ≤ R.length ∧ s = .int .i64 j ∧ o = .bool ok ∧ Q w0 W ∧ Bw W w0.heap.size x ∧ W.ownsRow (w0.heap.size + 1) 23 3 v nx.length (flat nx) ∧ nx.length ≤ j ∧ Hid ((R.take j).foldl stp (⟨xk, xa, xt⟩, true, []) = (x, ok, nx))) (fun _ _ s _ => R.length - (intOf s).toNat)
      case atStart => exact ⟨0, ⟨xk, xa, xt⟩, true, [], Nat.zero_le _, rfl, rfl, (Q.refl _).alloc _, HBX.out, World.ownsRow_nil _ _ _ _, by simp, rfl⟩
      case round =>
        clear HBX
        obtain ⟨j, x, ok, nx, hj, rfl, rfl, hq1, hbw, hown1, hnx, hz⟩ := hrel
        have HQ1 := hid hq1
        have HBW := hid hbw
        have HOW1 := hid hown1
        have hbl : w0.heap.size + 1 ≤ wr.heap.size := hbw.l.lt
        clear hq1 hbw hown1
        by_cases hjl : j < R.length
        · have hjl' : (j : Int) < (R.length : Int) := by omega
          obtain ⟨g2, off2, cap2, rfl, hc2⟩ := (HR.out.on HQ1.out).at hjl
          have hF2 := hid (fold_succ stp (⟨xk, xa, xt⟩, true, []) R j hjl)
          rw [hz.out] at hF2
          generalize R[j] = y at *
          obtain ⟨yk, ya, yt⟩ := y
          cases ok
          · rw [stp_no] at hF2
            obtain ⟨c0, c1, c2⟩ := hc2
            simp only at c0 c1 c2
            go_wp2_with (at_builtin; refine wpList_append_own _ rfl _ _ 35 rfl (w0.heap.size + 1) 23 i0 (.agg #[.int .i64 0, .int .i64 0, .int .i64 0]) 3 24 Try.underlying35 HI.out HZ.out.1 HZ.out.2.1 HZ.out.2.2 rfl (by decide) _ _ _ rfl (HOW1.out.alloc _) ⟨wr.heap.size, 0, none⟩ 1 1 [.int .i64 yk, .int .i64 ya, .int .i64 yt] rfl rfl ?d1 ?d2 ?d3 ?d4 ?d5 ?_)
            case d1 =>
              intro j u hj
              match j, hj with
              | 0, hj => simp at hj; subst hj; simp [Addr.add]
              | 1, hj => simp at hj; subst hj; simp [Addr.add]
              | 2, hj => simp at hj; subst hj; simp [Addr.add]
              | j + 3, hj => simp at hj
            case d2 =>
              intro u hu
              simp at hu
              rcases hu with rfl | rfl | rfl <;> rfl
            case d3 => unfold maxLen; omega
            case d4 => omega
            case d5 => simp; omega
            · intro v5 w5 hown5 hgrow5 _
              have HO5 : Hid (w5.ownsRow (w0.heap.size + 1) 23 3 v5 (nx ++ [Ax.Ln.mk yk ya yt]).length (flat (nx ++ [Ax.Ln.mk yk ya yt]))) := by
                show World.ownsRow _ _ _ _ _ _ _
                rw [flat_snoc, List.length_append]
                exact hown5
              have HB5 : Hid (Below (w0.heap.size + 1) wr w5) := Below.grown ((Below.refl _ wr).alloc hbl _) hgrow5 (by simp; omega) (own_blk HOW1.out)
              clear hown5 hgrow5 c0 c1 c2
              go_wp2
              go_roundw
              case rel => exact ⟨j + 1, x, false, nx ++ [Ax.Ln.mk yk ya yt], by omega, by go_num, rfl, Below.trans HQ1.out (Below.mono HB5.out (by omega)), HBW.out.on HB5.out, HO5.out, by simp; omega, hF2⟩
              case measure => simp [intOf]; omega
          · obtain ⟨x0, x1, x2⟩ := x
            have HJ : Hid (∀ W, Q wr W → (W.cell? ⟨w0.heap.size, 0, none⟩ = some (.int .i64 x0) ∧ W.cell? ⟨w0.heap.size, 1, none⟩ = some (.int .i64 x1) ∧ W.cell? ⟨w0.heap.size, 2, none⟩ = some (.int .i64 x2) ∧ W.cell? ⟨g2, off2 + j * 3, none⟩ = some (.int .i64 yk) ∧ W.cell? ⟨g2, off2 + j * 3 + 1, none⟩ = some (.int .i64 ya) ∧ W.cell? ⟨g2, off2 + j * 3 + 2, none⟩ = some (.int .i64 yt))) := fun W q => ⟨(HBW.out.onQ q).l.c0, (HBW.out.onQ q).l.c1, (HBW.out.onQ q).l.c2, (hc2.on q).c0, (hc2.on q).c1, (hc2.on q).c2⟩
            clear hc2
            obtain ⟨q0, e0⟩ : ∃ q0, trK yk ya yt x0 x1 x2 false = q0 := ⟨_, rfl⟩
            obtain ⟨q1, e1⟩ : ∃ q1, trA yk ya yt x0 x1 x2 false = q1 := ⟨_, rfl⟩
            obtain ⟨q2, e2⟩ : ∃ q2, trT yk ya yt x0 x1 x2 false = q2 := ⟨_, rfl⟩
            obtain ⟨qb, e3⟩ : ∃ qb, trB yk ya yt x0 x1 x2 false = qb := ⟨_, rfl⟩
            obtain ⟨p0, f0⟩ : ∃ p0, trK x0 x1 x2 yk ya yt true = p0 := ⟨_, rfl⟩
            obtain ⟨p1, f1⟩ : ∃ p1, trA x0 x1 x2 yk ya yt true = p1 := ⟨_, rfl⟩
            obtain ⟨p2, f2⟩ : ∃ p2, trT x0 x1 x2 yk ya yt true = p2 := ⟨_, rfl⟩
            obtain ⟨pb, f3⟩ : ∃ pb, trB x0 x1 x2 yk ya yt true = pb := ⟨_, rfl⟩
            have HT1 := hid (fun W => transform_tup yk ya yt x0 x1 x2 false W)
            have HT2 := hid (fun W => transform_tup x0 x1 x2 yk ya yt true W)
            rw [e0, e1, e2, e3] at HT1
            rw [f0, f1, f2, f3] at HT2
            have EY : Hid (trL ⟨yk, ya, yt⟩ ⟨x0, x1, x2⟩ false = ⟨q0, q1, q2⟩ ∧ trb ⟨yk, ya, yt⟩ ⟨x0, x1, x2⟩ false = qb) := ⟨by unfold trL; rw [← e0, ← e1, ← e2], e3⟩
            have EX : Hid (trL ⟨x0, x1, x2⟩ ⟨yk, ya, yt⟩ true = ⟨p0, p1, p2⟩ ∧ trb ⟨x0, x1, x2⟩ ⟨yk, ya, yt⟩ true = pb) := ⟨by unfold trL; rw [← f0, ← f1, ← f2], f3⟩
            clear e0 e1 e2 e3 f0 f1 f2 f3
            go_upto_region 13 with fail
            obtain ⟨c0, c1, c2, d0, d1, d2⟩ := HJ.out wr (Q.refl _)
            have z0 : w0.heap.size < wr.heap.size := by omega
            have zg : g2 < wr.heap.size := World.block_lt_of_cell? wr ⟨g2, off2 + j * 3, none⟩ d0
            go_cut [13, 14] from 43 to 51 (fun P o W => ∃ b, P = .pointer (some ⟨b, 0, none⟩) ∧ o = .bool qb ∧ Q wr W ∧ Lb W b q0 q1 q2)
            case first =>
              go_region_with (first
                | (go_at_call 13; refine (HT1.out _).mono ?_; rintro r w4 ⟨rfl, q4⟩; first | (have p4 : Q wr w4 := Q.trans (Q.drew (Q.refl wr)) q4; clear q4) | (have p4 : Q wr w4 := Q.trans (Q.drew (Q.alloc (Q.refl wr) (.cells #[.int .i64 0, .int .i64 0, .int .i64 0] 23))) q4; have N4 := hid ((bw_new wr 0 0 0).onQ (Q.trans (Q.drew (Q.refl _)) q4)); clear q4; have n0 := N4.out.l.c0; have n1 := N4.out.l.c1; have n2 := N4.out.l.c2; have m0 := N4.out.f0; have m1 := N4.out.f1; have m2 := N4.out.f2)))
              all_goals go_wp2_with fail
              all_goals go_meet
              all_goals first
                | (with_reducible exact ⟨_, rfl, rfl, p4.alloc _, lb_new _ _ _ _⟩)
                | exact ⟨wr.heap.size, rfl, rfl, below_set3 p4 (Nat.le_refl _) q0 q1 q2, (bw_set3 N4.out q0 q1 q2).l⟩
            case rest =>
              obtain ⟨b13, rfl, rfl, qA, lA⟩ := hcut
              obtain ⟨wd, rfl⟩ : ∃ wd, wd = wc := ⟨wc, rfl⟩
              have QA := hid qA
              have LA := hid lA
              have JD := HJ.out wd qA
              obtain ⟨c0, c1, c2, d0, d1, d2⟩ := JD
              have z0 : w0.heap.size < wd.heap.size := by have := qA.size; omega
              have zg : g2 < wd.heap.size := World.block_lt_of_cell? wd ⟨g2, off2 + j * 3, none⟩ d0
              clear qA lA
              go_upto_region 14 with fail
              go_cut [15, 16] from 52 to 60 (fun P o W => ∃ b, P = .pointer (some ⟨b, 0, none⟩) ∧ wd.heap.size ≤ b ∧ o = .bool pb ∧ Q wd W ∧ Lb W b p0 p1 p2)
              case first =>
                go_region_with (first
                  | (go_at_call 13; refine (HT2.out _).mono ?_; rintro r w5 ⟨rfl, q4⟩; first | (have p5 : Q wd w5 := Q.trans (Q.drew (Q.refl wd)) q4; have sz : wd.heap.size ≤ w5.heap.size := Below.size p5; clear q4) | (have p5 : Q wd w5 := Q.trans (Q.drew (Q.alloc (Q.refl wd) (.cells #[.int .i64 0, .int .i64 0, .int .i64 0] 23))) q4; have N4 := hid ((bw_new wd 0 0 0).onQ (Q.trans (Q.drew (Q.refl _)) q4)); clear q4; have n0 := N4.out.l.c0; have n1 := N4.out.l.c1; have n2 := N4.out.l.c2; have m0 := N4.out.f0; have m1 := N4.out.f1; have m2 := N4.out.f2)))
                all_goals go_wp2_with fail
                all_goals go_meet
                all_goals first
                  | (with_reducible exact ⟨_, rfl, sz, rfl, p5.alloc _, lb_new _ _ _ _⟩)
                  | exact ⟨wd.heap.size, rfl, Nat.le_refl _, rfl, below_set3 p5 (Nat.le_refl _) p0 p1 p2, (bw_set3 N4.out p0 p1 p2).l⟩
              case rest =>
                obtain ⟨b15, rfl, hb15, rfl, qB, lB⟩ := hcut
                have QC := hid (QA.out.trans qB)
                have LB := hid lB
                replace LA := hid (LA.out.on qB)
                have BW := hid (HBW.out.onQ QC.out)
                have OW := hid (own_on HOW1.out QC.out)
                have hbc : w0.heap.size + 1 ≤ wc.heap.size := by have := QC.out.size; omega
                have hb15' : wr.heap.size ≤ b15 := by have := QA.out.size; omega
                have zb := LB.out.lt
                clear c0 c1 c2 d0 d1 d2 qB lB z0 zg
                have a0 := LA.out.c0
                have a1 := LA.out.c1
                have a2 := LA.out.c2
                cases qb
                · rw [stp_gone EY.out.2, EX.out.1, EX.out.2] at hF2
                  have r0 := LB.out.c0
                  have r1 := LB.out.c1
                  have r2 := LB.out.c2
                  have s0 := BW.out.l.c0
                  have s1 := BW.out.l.c1
                  have s2 := BW.out.l.c2
                  have t0 := BW.out.f0
                  have t1 := BW.out.f1
                  have t2 := BW.out.f2
                  go_wp2_with fail
                  go_roundw
                  case rel => exact ⟨j + 1, ⟨p0, p1, p2⟩, pb, nx, by omega, by go_num, rfl, below_set3 (Below.trans HQ1.out (Below.mono QC.out (by omega))) (Nat.le_refl _) p0 p1 p2, bw_set3 BW.out p0 p1 p2, own_set3 (b := w0.heap.size) OW.out (by omega) p0 p1 p2, by omega, hF2⟩
                  case measure => simp [intOf]; omega
                · rw [stp_yes EY.out.2, EX.out.1, EX.out.2, EY.out.1] at hF2
                  go_wp2_with (at_builtin; refine wpList_append_own _ rfl _ _ 35 rfl (w0.heap.size + 1) 23 i0 (.agg #[.int .i64 0, .int .i64 0, .int .i64 0]) 3 24 Try.underlying35 HI.out HZ.out.1 HZ.out.2.1 HZ.out.2.2 rfl (by decide) _ _ _ rfl (OW.out.alloc _) ⟨wc.heap.size, 0, none⟩ 1 1 [.int .i64 q0, .int .i64 q1, .int .i64 q2] rfl rfl ?f1 ?f2 ?f3 ?f4 ?f5 ?_)
                  case f1 =>
                    intro j u hj
                    match j, hj with
                    | 0, hj => simp at hj; subst hj; simp [Addr.add]
                    | 1, hj => simp at hj; subst hj; simp [Addr.add]
                    | 2, hj => simp at hj; subst hj; simp [Addr.add]
                    | j + 3, hj => simp at hj
                  case f2 =>
                    intro u hu
                    simp at hu
                    rcases hu with rfl | rfl | rfl <;> rfl
                  case f3 => unfold maxLen; omega
                  case f4 => omega
                  case f5 => simp; omega
                  · intro v6 w6 hown6 hgrow6 _
                    have HO6 : Hid (w6.ownsRow (w0.heap.size + 1) 23 3 v6 (nx ++ [Ax.Ln.mk q0 q1 q2]).length (flat (nx ++ [Ax.Ln.mk q0 q1 q2]))) := by
                      show World.ownsRow _ _ _ _ _ _ _
                      rw [flat_snoc, List.length_append]
                      exact hown6
                    have HB6 : Hid (Below (w0.heap.size + 1) wc w6) := Below.grown ((Below.refl _ wc).alloc hbc _) hgrow6 (by simp; omega) (own_blk OW.out)
                    have B6 := hid (BW.out.on HB6.out)
                    have L6 := hid ((LB.out.alloc _).grown hgrow6 (fun r hr => by have := own_lt HOW1.out r hr; omega))
                    clear hown6 hgrow6 a0 a1 a2
                    have r0 := L6.out.c0
                    have r1 := L6.out.c1
                    have r2 := L6.out.c2
                    have s0 := B6.out.l.c0
                    have s1 := B6.out.l.c1
                    have s2 := B6.out.l.c2
                    have t0 := B6.out.f0
                    have t1 := B6.out.f1
                    have t2 := B6.out.f2
                    go_wp2_with fail
                    go_roundw
                    case rel => exact ⟨j + 1, Ax.Ln.mk p0 p1 p2, pb, nx ++ [Ax.Ln.mk q0 q1 q2], by omega, by go_num, rfl, below_set3 (Below.trans (Below.trans HQ1.out (Below.mono QC.out (by omega))) (Below.mono HB6.out (by omega))) (Nat.le_refl _) p0 p1 p2, bw_set3 B6.out p0 p1 p2, own_set3 (b := w0.heap.size) HO6.out (by omega) p0 p1 p2, by simp; omega, hF2⟩
                    case measure => simp [intOf]; omega
        · have hjl' : ¬ (j : Int) < (R.length : Int) := by omega
          obtain ⟨x0, x1, x2⟩ := x
          have hz2 : Hid (R.foldl stp (⟨xk, xa, xt⟩, true, []) = (⟨x0, x1, x2⟩, ok, nx)) := by
            show _ = _
            rw [← hz.out, List.take_of_length_le (by omega)]
          have hnx6 : nx.length ≤ 6 := by omega
          obtain ⟨ao2, cap2, rfl⟩ := HR.out.len
          have OW := hid (own_on HOW.out HQ1.out)
          cases ok
          · have hF3 : Hid ((A.take (n + 1)).foldl stO ([], B) = (O, nx)) := by
              show _ = _
              rw [hF1.out]
              unfold stO
              simp only [hz2.out]
              simp
            go_wp2_with fail
            go_roundw
            case rel => exact ⟨n + 1, O, nx, by omega, by go_num, OW.out, sl_own HOW1.out, HQ.out.trans HQ1.out, by omega, hnx6, hF3⟩
            case measure => simp [intOf]; omega
          · have hF3 : Hid ((A.take (n + 1)).foldl stO ([], B) = (O ++ [⟨x0, x1, x2⟩], nx)) := by
              show _ = _
              rw [hF1.out]
              unfold stO
              simp only [hz2.out]
              simp
            have s0 := HBW.out.l.c0
            have s1 := HBW.out.l.c1
            have s2 := HBW.out.l.c2
            have hqs := (HQ.out.trans HQ1.out).size
            go_wp2_with (at_builtin; refine wpList_append_own _ rfl _ _ 35 rfl w.heap.size 23 i0 (.agg #[.int .i64 0, .int .i64 0, .int .i64 0]) 3 24 Try.underlying35 HI.out HZ.out.1 HZ.out.2.1 HZ.out.2.2 rfl (by decide) _ _ _ rfl (OW.out.alloc _) ⟨wr.heap.size, 0, none⟩ 1 1 [.int .i64 x0, .int .i64 x1, .int .i64 x2] rfl rfl ?h1 ?h2 ?h3 ?h4 ?h5 ?_)
            case h2 => exact ⟨rfl, rfl, rfl⟩
            case h3 => unfold maxLen; omega
            case h4 => omega
            case h5 => first | omega | (simp; omega)
            · intro v7 w7 hown7 hgrow7 _
              have HO7 : Hid (w7.ownsRow w.heap.size 23 3 v7 (O ++ [Ax.Ln.mk x0 x1 x2]).length (flat (O ++ [Ax.Ln.mk x0 x1 x2]))) := by
                show World.ownsRow _ _ _ _ _ _ _
                rw [flat_snoc, List.length_append]
                exact hown7
              have HQ7 : Hid (Q w w7) := Below.grown ((HQ.out.trans HQ1.out).alloc _) hgrow7 (by simp; omega) (own_blk OW.out)
              have HN7 := hid (sl_own (own_grown (HOW1.out.alloc _) hgrow7 (fun r hr => by have := own_lt HOW.out r hr; omega)))
              clear hown7 hgrow7 s0 s1 s2
              go_wp2_with fail
              go_roundw
              case rel => exact ⟨n + 1, O ++ [⟨x0, x1, x2⟩], nx, by omega, by go_num, HO7.out, HN7.out, HQ7.out, by simp; omega, hnx6, hF3⟩
              case measure => simp [intOf]; omega
    · have hlt' : ¬ (n : Int) < (A.length : Int) := by omega
      have HE : Hid (listsX A B = (O, R)) := by
        show _ = _
        unfold listsX
        rw [← hF.out, List.take_of_length_le (by omega)]
      obtain ⟨ao, cap, rfl⟩ := HA.out.len
      go_wp2
      go_ret2
      exact ⟨_, _, rfl, by rw [HE.out]; exact sl_own HOW.out, by rw [HE.out]; exact HR.out, HQ.out⟩
end Go.Proofs.Ytkdapaebcjgckaa
