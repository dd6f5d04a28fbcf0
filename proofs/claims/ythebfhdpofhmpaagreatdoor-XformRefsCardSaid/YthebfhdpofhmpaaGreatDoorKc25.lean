/- rewrite's scale: weigh, walked; rewrite.fitsApart of any tre. -/
import Derived.Test.YthebfhdpofhmpaaGreatDoorKc24
import Derived.Test.YthebfhdpofhmpaaGreatDoorKc10
import Derived.Test.YthebfhdpofhmpaaGreatDoorKc12
import Derived.Test.YthebfhdpofhmpaaGreatDoorKc02
import Derived.Test.YthebfhdpofhmpaaGreatDoorKc11
set_option linter.unusedVariables false
set_option linter.unusedSimpArgs false
set_option maxRecDepth 100000
set_option maxHeartbeats 8000000
namespace Go.Proofs.YthebfhdpofhmpaaGreatDoor
open Go.RowKit
set_option maxHeartbeats 2000000 in
theorem weigh_any (b o n cap : Nat) (xs : List Ex) (W : World) (hr : Rd.RdL W xs b o) (hl : xs.length = n) (hn : 0 < n) (hp : Pl W b) (hc : n ≤ cap) (hcm : cap ≤ maxLen) (hnb : nodes.nodesL xs ≤ 1000) (hwb : wt.wtL xs ≤ 2147483647) :
    Calls Tryz.prog 87 #[.slice (some ⟨b, o, none⟩) n cap, .func (.func 88) #[] #[]] W fun e W' => (∃ mv, e = .returned (.tuple #[mv, .bool true])) ∧ Q W W' := by
  have hnm : n ≤ 1000 := by have := len_nl xs; omega
  have q1 : Q W ((W.alloc (.map #[] 0)).alloc (.cells #[.func (.func 88) #[] #[], .map (some W.heap.size), .slice none 0 0, .bool false] 167)) := ((Q.refl W).alloc _).alloc _
  have HB := hid (begin_any W.heap.size (W.heap.size + 1) W.heap.size b o n cap _ _ [] [] _ (sc_start W (.func (.func 88) #[] #[])) hn hnm (hp.on q1) hp.lt (by simp))
  have HX := hid (fun (w2 : World) (v2 : Value) (q : Qp (fun i => W.heap.size ≤ i) ((W.alloc (.map #[] 0)).alloc (.cells #[.func (.func 88) #[] #[], .map (some W.heap.size), .slice none 0 0, .bool false] 167)) w2) => li_start (v2 := v2) hr hl hp hc hcm hnb hwb ((Qp.of q1).trans q))
  have HR := hid (And.intro hr (And.intro hl (And.intro hp hwb)))
  clear hr hl hp hc hcm hnb hwb q1
  have hmm := @run_makeMap Tryz.prog
  go_enter Tryz.func87, Tryz.ntmps87
  go_wp2_with (go_at_call 104; refine HB.out.mono ?_; rintro e w2 ⟨⟨u, rfl⟩, q2, v2, s2⟩; have R2 := hid (HX.out w2 v2 q2 s2); clear q2 s2)
  clear HB HX hmm
  go_loopw [12] (fun _ wr => ∃ kk, WR W (W.heap.size + 1) W.heap.size (b, o, n) kk wr) (fun _ wr => Classical.epsilon (fun kk => WR W (W.heap.size + 1) W.heap.size (b, o, n) kk wr ∧ ∀ j, WR W (W.heap.size + 1) W.heap.size (b, o, n) j wr → kk ≤ j))
  case atStart => exact ⟨_, R2.out⟩
  case round =>
    have hmu := mu_ex hrel
    obtain ⟨K, hK⟩ : ∃ K, Classical.epsilon (fun kk => WR W (W.heap.size + 1) W.heap.size (b, o, n) kk wr ∧ ∀ j, WR W (W.heap.size + 1) W.heap.size (b, o, n) j wr → kk ≤ j) = K := ⟨_, rfl⟩
    rw [hK] at hmu
    have HK := hid hK
    clear hK hrel R2
    obtain ⟨⟨S, T, es, v, hli, hms, hes⟩, _⟩ := hmu
    have HL := hid hli
    cases S with
    | nil =>
      obtain ⟨ao, cp, hv, _⟩ := (hli.sc.ow.sl encO_len (by omega)).len
      simp only [List.reverse_nil, List.length_nil] at hv
      subst hv
      have c1 := hli.sc.c1
      have c2 := hli.sc.c2
      have c3 := hli.sc.c3
      obtain ⟨tt, hget, hle⟩ : ∃ tt : Int, getS es (b, o, n) = some (tt, true, false) ∧ tt ≤ 2147483647 := by
        obtain ⟨sm, hsm⟩ := Option.isSome_iff_exists.1 hes
        rcases hli.ei.cl _ _ hsm with ⟨ys, a1, a2, rfl⟩ | ⟨_, y, hy, _⟩
        · obtain ⟨hr, hl, _, hwb⟩ := HR.out
          have e : ys = xs := rdl_det (a2.trans hl.symm) a1 hr
          exact ⟨_, hsm, by rw [e]; exact hwb⟩
        · exact absurd hy (by simp)
      have hpl : Pl wr b := HR.out.2.2.1.blk (hli.q.block b HR.out.2.2.1.lt (by have := HR.out.2.2.1.lt; omega))
      have qa : Q wr (wr.alloc (.cells #[.pointer (some ⟨b, o, none⟩), .int .i64 (n : Int)] 150)) := (Q.refl wr).alloc _
      have c1a := (hli.sc.on qa).c1
      have c3a := (hli.sc.on qa).c3
      have rl : (Instr.lookup 142 (.map (some W.heap.size)) (.agg #[.pointer (some ⟨b, o, none⟩), .int .i64 (n : Int)]) false).run Tryz.prog (wr.alloc (.cells #[.pointer (some ⟨b, o, none⟩), .int .i64 (n : Int)] 150)).drew = .ok (.agg #[.int .i64 tt, .bool true, .bool false]) (wr.alloc (.cells #[.pointer (some ⟨b, o, none⟩), .int .i64 (n : Int)] 150)).drew := by
        have sd := hli.sc.on qa.drew
        have := sd.mp.lookup (b, o, n) false (hpl.on qa.drew) (fun e he => (sd.pl e he).1)
        rw [hget] at this
        exact this
      have rf0 : ∀ w, (Instr.field 169 (.agg #[.int .i64 tt, .bool true, .bool false]) 0).run Tryz.prog w = .ok (.int .i64 tt) w := fun w => by kernel_rfl
      have HQ : Hid (Q W (wr.alloc (.cells #[.pointer (some ⟨b, o, none⟩), .int .i64 (n : Int)] 150)).drew) := hid ((hli.q.q (fun i hi => by omega)).trans qa.drew)
      have HP := hid (fun V => place_eq b o n cap V hn hnm)
      clear hli hms hes hget hpl qa
      go_wp2_with fail
      apply wp_region_det
      · go_region_with (go_at_call 91; refine (HP.out _).mono ?_; rintro e w7 ⟨rfl, rfl⟩; unfold pkV)
        all_goals exact And.intro rfl (And.intro rfl rfl)
      go_wp2_with fail
      refine bodyPost_ret (v := .tuple #[.map (some W.heap.size), .bool true]) (by simp [results, Tryz.results87, go_sem]) rfl ?_
      exact ⟨⟨_, rfl⟩, HQ.out⟩
    | cons x S =>
      obtain ⟨g, cp, hv, _⟩ := (show ScA wr W.heap.size (W.heap.size + 1) W.heap.size (.func (.func 88) #[] #[]) v es (S.reverse ++ [x]) by have := hli.sc; rw [List.reverse_cons] at this; exact this).last
      subst hv
      have c2 := hli.sc.c2
      have HC := hid (li_step hli (b, o, n) hes)
      have HMS := hid hms
      clear hli hms hes
      go_wp2_with (go_at_call 105; refine HC.out.mono ?_; rintro e w5 ⟨⟨u, rfl⟩, kk, r5, l5⟩; have R5 := hid r5; have L5 := hid l5; clear r5 l5)
      go_roundw
      case rel => exact ⟨_, R5.out⟩
      case measure =>
        rw [HK.out]
        have h1 := (mu_ex (P := fun kk => WR W (W.heap.size + 1) W.heap.size (b, o, n) kk w5) ⟨_, R5.out⟩).2 _ R5.out
        have h2 := L5.out
        have h3 := HMS.out
        omega
set_option maxHeartbeats 1000000 in
theorem fits_all (x : Ex) (r : Nat) (c0 c1 c2 c3 c4 c5 c6 : Value) (W : World) (hk : Kid W x r 0 c0 c1 c2 c3 c4 c5 c6) (hp : Pl W r) (hn : nodes x ≤ 1000) (hw : wt x ≤ 2147483647) :
    Calls Tryz.prog 60 #[.slice (some ⟨r, 0, none⟩) 1 1] W fun e W' => e = .returned (.bool true) ∧ Q W W' := by
  by_cases h : nodes x ≤ 200
  · exact fits_apart x r c0 c1 c2 c3 c4 c5 c6 W hk h
  have HC := hid (pCount_any x _ W hk.rd)
  rw [show min (nodes x) 201 = 201 by omega] at HC
  obtain ⟨g0, g1, g2, g3, g4, g5, g6, hrd⟩ := hk
  have hr : Rd.RdL W [x] r 0 := by
    unfold Rd.RdL
    exact ⟨⟨c0, c1, c2, c3, c4, c5, c6, g0, g1, g2, g3, g4, g5, g6, hrd⟩, by unfold Rd.RdL; trivial⟩
  have HW := hid (fun V (q : Q W V) => weigh_any r 0 1 1 [x] V (hr.on q) rfl (by omega) (hp.on q) (Nat.le_refl _) (by unfold maxLen; omega) (by rw [nl_one]; exact hn) (by rw [wtL_cons, wtL_nil]; omega))
  clear hn hw hr hp h
  go_enter Tryz.func60, Tryz.ntmps60
  go_wp2_with (first | (go_at_call 86; refine HC.out.mono ?_; rintro e w1 ⟨rfl, q1⟩; have Q1 := hid q1; clear q1) | (go_at_call 87; refine (HW.out _ (by repeat (first | exact Q1.out | with_reducible refine Q.alloc ?_ _ | with_reducible refine Q.drew ?_))).mono ?_; rintro e w2 ⟨⟨mv, rfl⟩, q2⟩; have Q2 := hid q2; clear q2))

  go_ret
  exact ⟨rfl, Q1.out.trans Q2.out⟩
theorem Ow.shape {W : World} {x : Ex} {v : Value} {lo hi : Nat} (h : Ow W x v lo hi) : ∃ k n t b e a1 l1 c1 a2 l2 c2, v = .agg #[.int .i64 k, .int .i64 n, .string t, .bool b, .int .i64 e, .slice a1 l1 c1, .slice a2 l2 c2] := (Ow.rdg (g := fun _ => True) x v lo hi (fun _ _ _ => trivial) h).shape
theorem md_keep {w w6 w7 : World} {pm b o2 o5 : Nat} {v v2 v5 : Value} (hm : w.cell? ⟨pm, 0, none⟩ = some v) (hne : pm ≠ b) (q6 : Q w w6) (q7 : Q (w6.setCell ⟨b, o2, none⟩ v2) w7) : (w7.setCell ⟨b, o5, none⟩ v5).cell? ⟨pm, 0, none⟩ = some v := by
  have h6 : w6.cell? ⟨pm, 0, none⟩ = some v := (q6.cell (World.block_lt_of_cell? w ⟨pm, 0, none⟩ hm)).trans hm
  have h6' : (w6.setCell ⟨b, o2, none⟩ v2).cell? ⟨pm, 0, none⟩ = some v := (World.cell?_setCell_other _ _ _ _ (by intro e; injection e with e; exact hne e.symm)).trans h6
  have h7 : w7.cell? ⟨pm, 0, none⟩ = some v := (q7.cell (World.block_lt_of_cell? _ ⟨pm, 0, none⟩ h6')).trans h6'
  exact (World.cell?_setCell_other _ _ _ _ (by intro e; injection e with e; exact hne e.symm)).trans h7
theorem CI.round {W0 Ws : World} {x : Ex} {r n1 wb pm : Nat} {W w1 w2 w3 : World} {X : Nat → Prop} {ov : Value} {S : List Pd} {b o : Nat} {k n : Int} {t : List UInt8} {bb : Bool} {e : Int} {rs : List Rf} {ks : List Ex} {c5 c6 rv : Value} {ao : Option Addr} {cap : Nat}
    (h : CI W0 Ws x r n1 wb pm W X ov S ((b, o, 1, [.mk k n t bb e rs ks]) :: S))
    (hn : Nd W b o (.int .i64 k) (.int .i64 n) (.string ⟨t.toArray⟩) (.bool bb) (.int .i64 e) c5 c6)
    (q1 : Q W w1) (q2 : Q (w1.setCell ⟨b, o + 2, none⟩ (.string ⟨t.toArray⟩)) w2) (hr : OwR w2 rv rs (w1.setCell ⟨b, o + 2, none⟩ (.string ⟨t.toArray⟩)).heap.size w2.heap.size)
    (q3 : Q (w2.setCell ⟨b, o + 5, none⟩ rv) w3) (hcap : ks.length ≤ cap) (hmx : cap ≤ maxLen)
    (hk : ks ≠ [] → ∃ kb, ao = some ⟨kb, 0, none⟩ ∧ (w2.setCell ⟨b, o + 5, none⟩ rv).heap.size ≤ kb ∧ kb < w3.heap.size ∧ Pl w3 kb ∧ PdL W0 w3 ks kb 0) :
    ∃ T3, CI W0 Ws x r n1 wb pm (w3.setCell ⟨b, o + 6, none⟩ (.slice ao ks.length cap)) X ov S T3 ∧ wgtP T3 < wgtP ((b, o, 1, [.mk k n t bb e rs ks]) :: S) ∧ ((ks.length = 0 ∧ T3 = S) ∨ ∃ kb ks', 0 < ks.length ∧ ao = some ⟨kb, 0, none⟩ ∧ ks.length = ks'.length ∧ T3 = (kb, 0, cap, ks') :: S) := by
  have hb : b < W.heap.size := hn.pl.lt
  have s1 := q1.size
  have s2 := q2.size
  have s3 := q3.size
  have e1 : (w1.setCell ⟨b, o + 2, none⟩ (.string ⟨t.toArray⟩)).heap.size = w1.heap.size := by simp [World.setCell]
  have e2 : (w2.setCell ⟨b, o + 5, none⟩ rv).heap.size = w2.heap.size := by simp [World.setCell]
  rw [e1] at s2 hr
  rw [e2] at s3 hk
  have c1 : Ch7 W w1 b o := (Ch7.refl W b o).q' hb q1
  have c2 : Ch7 W w2 b o := (c1.set 2 (by omega) _).q' hb q2
  have c3 : Ch7 W w3 b o := (c2.set 5 (by omega) rv).q' hb q3
  have n3 := ((((((hn.on q1).set2 (.string ⟨t.toArray⟩)).on q2).set5 rv).on q3).set6 (.slice ao ks.length cap))
  refine h.node (m := w2.heap.size) (c3.set 6 (by omega) _) n3 ?_ (by simp [World.setCell]; omega) hcap hmx (fun hne => ?_)
  · refine (hr.mono s1 (Nat.le_refl _)).on (fun i h1 h2 => ?_)
    refine Bs.of ?_
    rw [Below.heap_setCell _ _ _ _ (fun e => by simp at e; omega), Q.block q3 (by omega), Below.heap_setCell _ _ _ _ (fun e => by simp at e; omega)]
  · obtain ⟨kb, k1, k2, k3, k4, k5⟩ := hk hne
    refine ⟨kb, k1, k2, by simp [World.setCell]; exact k3, k4.set _ _ _, k5.on (fun j _ _ => ?_)⟩
    exact World.cell?_setCell_other _ _ _ _ (by intro e; injection e with e; omega)
theorem wt_sn : ∀ x : Ex, Sn x → wt x ≤ 1040096 * (nodes x : Int)
  | .mk k n t b e rs ks, h => by
    unfold Sn at h
    obtain ⟨h1, h2, _, _, h5⟩ := h
    have := go ks h5
    rw [wt, nodes]
    omega
  where
  go : ∀ xs : List Ex, Sn.SnL xs → wt.wtL xs ≤ 1040096 * (nodes.nodesL xs : Int)
  | [], _ => by rw [wt.wtL, nodes.nodesL]; omega
  | x :: xs, h => by
    unfold Sn.SnL at h
    rw [wt.wtL, nodes.nodesL]
    have := wt_sn x h.1
    have := go xs h.2
    omega
set_option maxHeartbeats 4000000 in
theorem copied_all (x : Ex) (v : Value) (W : World) (hx : Rd W x v) (hs : Sn x) (hk : nodes x ≤ 1000) :
    Calls Tryz.prog 41 #[v] W fun e W' => ∃ v', e = .returned v' ∧ Q W W' ∧ ∃ lo hi, W.heap.size ≤ lo ∧ hi ≤ W'.heap.size ∧ Ow W' x v' lo hi := by
  obtain ⟨k, n, t, b, e, a1, l1, c1, a2, l2, c2, rfl⟩ := hx.shape
  have HST := hid (fun w2 => copied_start x _ _ _ _ _ _ _ W w2 hx hs hk)
  have HF : Hid (Calls Tryz.prog 60 #[.slice (some ⟨W.heap.size + 1 + 1, 0, none⟩) 1 1] (((W.alloc (.cells #[.int .i64 k, .int .i64 n, .string t, .bool b, .int .i64 e, .slice a1 l1 c1, .slice a2 l2 c2] 35)).alloc (.cells #[.int .i64 0, .int .i64 0, .string ⟨#[]⟩, .bool false, .int .i64 0, .slice none 0 0, .slice none 0 0] 35)).alloc (.cells #[.int .i64 k, .int .i64 n, .string t, .bool b, .int .i64 e, .slice a1 l1 c1, .slice a2 l2 c2] 35)) fun e9 W' => e9 = .returned (.bool true) ∧ Q (((W.alloc (.cells #[.int .i64 k, .int .i64 n, .string t, .bool b, .int .i64 e, .slice a1 l1 c1, .slice a2 l2 c2] 35)).alloc (.cells #[.int .i64 0, .int .i64 0, .string ⟨#[]⟩, .bool false, .int .i64 0, .slice none 0 0, .slice none 0 0] 35)).alloc (.cells #[.int .i64 k, .int .i64 n, .string t, .bool b, .int .i64 e, .slice a1 l1 c1, .slice a2 l2 c2] 35)) W') := by
    have n1 := nd_new ((W.alloc (.cells #[.int .i64 k, .int .i64 n, .string t, .bool b, .int .i64 e, .slice a1 l1 c1, .slice a2 l2 c2] 35)).alloc (.cells #[.int .i64 0, .int .i64 0, .string ⟨#[]⟩, .bool false, .int .i64 0, .slice none 0 0, .slice none 0 0] 35)) (.int .i64 k) (.int .i64 n) (.string t) (.bool b) (.int .i64 e) (.slice a1 l1 c1) (.slice a2 l2 c2) 35
    rw [show ((W.alloc (.cells #[.int .i64 k, .int .i64 n, .string t, .bool b, .int .i64 e, .slice a1 l1 c1, .slice a2 l2 c2] 35)).alloc (.cells #[.int .i64 0, .int .i64 0, .string ⟨#[]⟩, .bool false, .int .i64 0, .slice none 0 0, .slice none 0 0] 35)).heap.size = W.heap.size + 1 + 1 by simp] at n1
    exact fits_all x (W.heap.size + 1 + 1) _ _ _ _ _ _ _ _ ⟨n1.g0, n1.g1, n1.g2, n1.g3, n1.g4, n1.g5, n1.g6, Rd.on ((((Q.refl _).alloc _).alloc _).alloc _) _ _ hx⟩ (by obtain ⟨_, _, _, _, _, _, _, zp⟩ := n1; exact zp) hk (by have := wt_sn x hs; omega)
  clear hx hs hk
  go_enter Tryz.func41, Tryz.ntmps41
  go_wp2_with (first
    | (go_at_call 60; refine HF.out.mono ?_; rintro e9 w2 ⟨rfl, q2⟩; obtain ⟨Ws, M, T0, hM1, hM2, he⟩ := HST.out w2 q2; have HE := hid he; clear he q2)
    | (go_at_call 61; refine HE.out.mono ?_; rintro e9 w4 ⟨⟨u, rfl⟩, X4, ov4, ci4⟩; have C4 := hid ci4; clear ci4)
    | (go_at_call 62; refine (next_ci C4.out).mono ?_; rintro e9 w5 ⟨v5, rfl, cr5⟩; have R5 := hid cr5; clear cr5))
  go_loopw [6, 7, 8] (fun v _ _ wr => ∃ kk, CR W Ws x (W.heap.size + 1 + 1) M (w2.heap.size + 1) w2.heap.size kk v wr) (fun v _ _ wr => Classical.epsilon (fun kk => CR W Ws x (W.heap.size + 1 + 1) M (w2.heap.size + 1) w2.heap.size kk v wr ∧ ∀ j, CR W Ws x (W.heap.size + 1 + 1) M (w2.heap.size + 1) w2.heap.size j v wr → kk ≤ j))
  case atStart => exact ⟨_, R5.out⟩
  case round =>
    have hmu := mu_ex hrel
    obtain ⟨K, hK⟩ : ∃ K, Classical.epsilon (fun kk => CR W Ws x (W.heap.size + 1 + 1) M (w2.heap.size + 1) w2.heap.size kk u6 wr ∧ ∀ j, CR W Ws x (W.heap.size + 1 + 1) M (w2.heap.size + 1) w2.heap.size j u6 wr → kk ≤ j) = K := ⟨_, rfl⟩
    rw [hK] at hmu
    have HKK := hid hK
    clear hK
    obtain ⟨⟨X, ov, S, hcr⟩, _⟩ := hmu
    clear hrel HST HF HE
    rcases hcr with ⟨rfl, hk0, ci⟩ | ⟨b', o, y, rfl, hkk, ci⟩
    · have ow := ci.prm.done
      unfold Ow.OwL at ow
      obtain ⟨m, ⟨d0, d1, d2, d3, d4, d5, d6, g0, g1, g2, g3, g4, g5, g6, hx⟩, hm⟩ := ow
      unfold Ow.OwL at hm
      obtain ⟨k', n', t', b1', e', a1', l1', c1', a2', l2', c2', hsh⟩ := hx.shape
      simp only [Value.agg.injEq, Array.mk.injEq, List.cons.injEq, and_true] at hsh
      obtain ⟨rfl, rfl, rfl, rfl, rfl, rfl, rfl⟩ := hsh
      have tb := T0.out.blk (ci.kp (W.heap.size + 1) (by omega) (by omega) (by omega))
      obtain ⟨z0, z1, z2, z3, z4, z5, z6, zf⟩ := tb
      have y0 := zf 0
      have y1 := zf 1
      have y2 := zf 2
      have y3 := zf 3
      have y4 := zf 4
      have y5 := zf 5
      have y6 := zf 6
      have HO := hid hx
      have HC := hid ci
      have HMM := hid hm
      clear hx ci hm zf HKK
      simp only [Nat.zero_add] at g1 g2 g3 g4 g5 g6
      go_wp2_with fail
      refine bodyPost_ret (v := .agg #[.int .i64 k', .int .i64 n', .string t', .bool b1', .int .i64 e', .slice a1' l1' c1', .slice a2' l2' c2']) (by simp [results, Tryz.results41, go_sem, z0, z1, z2, z3, z4, z5, z6]) rfl ?_
      have QF : Qx (W.heap.size + 1) wr (((((((wr.setCell ⟨W.heap.size + 1, 0, none⟩ (.int .i64 k')).setCell ⟨W.heap.size + 1, 1, none⟩ (.int .i64 n')).setCell ⟨W.heap.size + 1, 2, none⟩ (.string t')).setCell ⟨W.heap.size + 1, 3, none⟩ (.bool b1')).setCell ⟨W.heap.size + 1, 4, none⟩ (.int .i64 e')).setCell ⟨W.heap.size + 1, 5, none⟩ (.slice a1' l1' c1')).setCell ⟨W.heap.size + 1, 6, none⟩ (.slice a2' l2' c2')) := (((((((Qx.refl _ _).own _ _).own _ _).own _ _).own _ _).own _ _).own _ _).own _ _
      refine ⟨_, rfl, ⟨QF.os.trans HC.out.q.os, QF.tape.trans HC.out.q.tape, QF.output.trans HC.out.q.output, Nat.le_trans HC.out.q.size QF.size, fun i hi => (QF.block i (Nat.lt_of_lt_of_le hi HC.out.q.size) (fun e => by have := Option.some.inj e; omega)).trans (Q.block HC.out.q hi)⟩, M, m, by omega, Nat.le_trans HMM.out QF.size, Ow.on _ _ _ _ (fun i h1 h2 => Bs.of (QF.block i (by have := HMM.out; omega) (fun e => by have := Option.some.inj e; omega))) HO.out⟩
    · have hp := ci.pd _ (List.mem_cons_self ..)
      have hpd := hp.pd
      unfold PdL at hpd
      obtain ⟨⟨d0, d1, d2, d3, d4, d5, d6, g0, g1, g2, g3, g4, g5, g6, hy⟩, _⟩ := hpd
      have hsn := hp.sn _ (List.mem_cons_self ..)
      have hb0 : W.heap.size ≤ b' ∧ w2.heap.size ≠ b' := by
        have h1 := hp.at_
        have h2 := ci.lo
        simp only at h1
        omega
      cases y with
      | mk k' n' t' bb' e' rs ks =>
        unfold Rd at hy
        obtain ⟨rv, kv, hv, hr, ao, cap, hkv, hc1, hc2, hk3⟩ := hy
        simp only [Value.agg.injEq, Array.mk.injEq, List.cons.injEq, and_true] at hv
        obtain ⟨rfl, rfl, rfl, rfl, rfl, rfl, rfl⟩ := hv
        subst hkv
        obtain ⟨ar, cr, rfl, hr1, hr2⟩ := hr.len
        unfold Sn at hsn
        have HN : Hid (Nd wr b' o _ _ _ _ _ _ _) := hid ⟨g0, g1, g2, g3, g4, g5, g6, hp.pl⟩
        have HCI := hid ci
        have HR := hid hr
        have HK3 := hid hk3
        have HSN := hid hsn
        have HKW := hid hkk
        have HCL := hid (clone_any ⟨t'.toArray⟩ wr (by rw [size_mk]; omega))
        have HMD := hid ci.md
        clear hp ci hr hk3 hsn hkk T0 C4 R5
        simp only at g0 g1 g2 g3 g4 g5 g6
        go_wp2_with (first
          | (go_at_call 25; refine HCL.out.mono ?_; rintro e9 w6 ⟨rfl, q6⟩; have Q6 := hid q6; have N6 := hid (HN.out.on q6); clear q6; obtain ⟨z0, z1, z2, z3, z4, z5, z6, zp⟩ := N6.out; have y2 := zp.frozen (o + 2); have QA : Hid (Q W (w6.setCell ⟨b', o + 2, none⟩ (.string ⟨t'.toArray⟩))) := hid ((HCI.out.q.trans Q6.out).setCell hb0.1 _); clear zp)
          | (go_at_call 63; refine (copiedRefs_any rs _ _ (HR.out.on QA.out) HSN.out.2.1 HSN.out.2.2.1).mono ?_; rintro e9 w7 ⟨v7, rfl, or7, q7⟩; have N7 := hid ((N6.out.set2 _).on q7); clear z0 z1 z2 z3 z4 z5 z6 y2; obtain ⟨z0, z1, z2, z3, z4, z5, z6, zp⟩ := N7.out; have y5 := zp.frozen (o + 5); clear zp; obtain ⟨a7, l7, c7, rfl⟩ := or7.shape; have QB : Hid (Q W (w7.setCell ⟨b', o + 5, none⟩ (.slice a7 l7 c7))) := hid ((QA.out.trans q7).setCell hb0.1 _); have MB : Hid ((w7.setCell ⟨b', o + 5, none⟩ (.slice a7 l7 c7)).cell? ⟨w2.heap.size, 0, none⟩ = some (.bool true)) := hid (md_keep HMD.out hb0.2 Q6.out q7); have O7 := hid or7; have Q7 := hid q7; clear or7 q7)
          | (go_at_call 64; refine (of_ci w2.heap.size ao ks cap W _ QB.out MB.out HSN.out.2.2.2.1 HK3.out).mono ?_; rintro e9 w8 ⟨ao8, cap8, rfl, q8, hc8, hm8, hk8⟩; have N8 := hid ((N7.out.set5 (.slice a7 l7 c7)).on q8); clear z0 z1 z2 z3 z4 z5 z6 y5; obtain ⟨z0, z1, z2, z3, z4, z5, z6, zp⟩ := N8.out; have y6 := zp.frozen (o + 6); clear zp; have R8 := hid (HCI.out.round HN.out Q6.out Q7.out O7.out q8 hc8 hm8 hk8); clear q8 hc8 hm8 hk8)
          | (go_at_call 61; obtain ⟨T3, ci9, hlt9, hk9⟩ := R8.out; refine (enter_ci ci9 HSN.out.2.2.2.1 hk9).mono ?_; rintro e9 w10 ⟨⟨u, rfl⟩, X10, ov10, ci10⟩; have C10 := hid ci10; have L9 := hid hlt9; clear ci9 hlt9 hk9 ci10 R8)
          | (go_at_call 62; refine (next_ci C10.out).mono ?_; rintro e9 w11 ⟨v11, rfl, cr11⟩; have R11 := hid cr11; clear cr11))
        go_roundw
        case rel => exact ⟨_, R11.out⟩
        case measure =>
          rw [HKK.out]
          have h1 := (mu_ex (P := fun kk => CR W Ws x (W.heap.size + 1 + 1) M (w2.heap.size + 1) w2.heap.size kk v11 w11) ⟨_, R11.out⟩).2 _ R11.out
          have h2 := L9.out
          have h3 := HKW.out
          omega
theorem copied_any (x : Ex) (v : Value) (W : World) (hx : Rd W x v) (hs : Sn x) (hk : nodes x ≤ 200) :
    Calls Tryz.prog 41 #[v] W fun e W' => ∃ v', e = .returned v' ∧ Q W W' ∧ ∃ lo hi, W.heap.size ≤ lo ∧ hi ≤ W'.heap.size ∧ Ow W' x v' lo hi := copied_all x v W hx hs (by omega)
def hit (hm on : List UInt8) : List Rf → Bool
  | [] => false
  | r :: _ => decide (orT r.1 hm = on)
def lostE : Ex := .mk 4 0 [] false 1 [] []
def chg (hm on : List UInt8) (mb : Rf → Bool) (mr : Rf → Rf) : Ex → Ex
  | .mk k n t b e rs ks => if (hit hm on rs && !rs.all mb) = true then lostE else .mk k n t b e (if hit hm on rs = true then rs.map mr else rs) (chgL ks)
  where
  chgL : List Ex → List Ex
  | [] => []
  | x :: xs => chg hm on mb mr x :: chgL xs
theorem chgL_map (hm on : List UInt8) (mb : Rf → Bool) (mr : Rf → Rf) : ∀ ks : List Ex, chg.chgL hm on mb mr ks = ks.map (chg hm on mb mr)
  | [] => by rw [chg.chgL, List.map_nil]
  | x :: xs => by rw [chg.chgL, List.map_cons, chgL_map hm on mb mr xs]
theorem Ow.OwL.kid {V : World} : ∀ (l1 : List Ex) (x : Ex) (l2 : List Ex) (b off lo hi : Nat), Ow.OwL V (l1 ++ x :: l2) b off lo hi →
    ∃ lo1 hi1 d0 d1 d2 d3 d4 d5 d6, lo ≤ lo1 ∧ lo1 ≤ hi1 ∧ hi1 ≤ hi ∧ V.cell? ⟨b, off + l1.length * 7, none⟩ = some d0 ∧ V.cell? ⟨b, off + l1.length * 7 + 1, none⟩ = some d1 ∧ V.cell? ⟨b, off + l1.length * 7 + 2, none⟩ = some d2 ∧ V.cell? ⟨b, off + l1.length * 7 + 3, none⟩ = some d3 ∧ V.cell? ⟨b, off + l1.length * 7 + 4, none⟩ = some d4 ∧ V.cell? ⟨b, off + l1.length * 7 + 5, none⟩ = some d5 ∧ V.cell? ⟨b, off + l1.length * 7 + 6, none⟩ = some d6 ∧ Ow V x (.agg #[d0, d1, d2, d3, d4, d5, d6]) lo1 hi1 ∧
      ∀ (V' : World) (x' : Ex) (c0 c1 c2 c3 c4 c5 c6 : Value), V'.cell? ⟨b, off + l1.length * 7, none⟩ = some c0 → V'.cell? ⟨b, off + l1.length * 7 + 1, none⟩ = some c1 → V'.cell? ⟨b, off + l1.length * 7 + 2, none⟩ = some c2 → V'.cell? ⟨b, off + l1.length * 7 + 3, none⟩ = some c3 → V'.cell? ⟨b, off + l1.length * 7 + 4, none⟩ = some c4 → V'.cell? ⟨b, off + l1.length * 7 + 5, none⟩ = some c5 → V'.cell? ⟨b, off + l1.length * 7 + 6, none⟩ = some c6 → Ow V' x' (.agg #[c0, c1, c2, c3, c4, c5, c6]) lo1 hi1 →
        (∀ j, j < off + l1.length * 7 ∨ off + l1.length * 7 + 7 ≤ j → V'.cell? ⟨b, j, none⟩ = V.cell? ⟨b, j, none⟩) → (∀ i, lo ≤ i → i < hi → ¬ (lo1 ≤ i ∧ i < hi1) → Bs V V' i) → Ow.OwL V' (l1 ++ x' :: l2) b off lo hi
  | [], x, l2, b, off, lo, hi, h => by
    rw [List.nil_append] at h
    unfold Ow.OwL at h
    obtain ⟨m, ⟨d0, d1, d2, d3, d4, d5, d6, g0, g1, g2, g3, g4, g5, g6, hx⟩, hr⟩ := h
    have e : off + ([] : List Ex).length * 7 = off := by simp
    rw [e]
    refine ⟨lo, m, d0, d1, d2, d3, d4, d5, d6, Nat.le_refl _, Ow.le _ _ _ _ hx, Ow.OwL.le _ _ _ _ _ hr, g0, g1, g2, g3, g4, g5, g6, hx, ?_⟩
    intro V' x' c0 c1 c2 c3 c4 c5 c6 f0 f1 f2 f3 f4 f5 f6 hx' hc hb
    rw [List.nil_append]
    unfold Ow.OwL
    exact ⟨m, ⟨c0, c1, c2, c3, c4, c5, c6, f0, f1, f2, f3, f4, f5, f6, hx'⟩, hr.on (fun i h1 h2 => hb i (by have := Ow.le _ _ _ _ hx; omega) h2 (by omega)) (fun j h1 h2 => hc j (.inr h1))⟩
  | y :: l1, x, l2, b, off, lo, hi, h => by
    rw [List.cons_append] at h
    unfold Ow.OwL at h
    obtain ⟨m, ⟨e0, e1, e2, e3, e4, e5, e6, y0, y1, y2, y3, y4, y5, y6, hy⟩, hr⟩ := h
    obtain ⟨lo1, hi1, d0, d1, d2, d3, d4, d5, d6, a1, a2, a3, g0, g1, g2, g3, g4, g5, g6, hx, hput⟩ := Ow.OwL.kid l1 x l2 b (off + 7) m hi hr
    have e : off + (y :: l1).length * 7 = off + 7 + l1.length * 7 := by simp only [List.length_cons]; omega
    have hm := Ow.le _ _ _ _ hy
    rw [e]
    refine ⟨lo1, hi1, d0, d1, d2, d3, d4, d5, d6, by omega, a2, a3, g0, g1, g2, g3, g4, g5, g6, hx, ?_⟩
    intro V' x' c0 c1 c2 c3 c4 c5 c6 f0 f1 f2 f3 f4 f5 f6 hx' hc hb
    rw [List.cons_append]
    unfold Ow.OwL
    exact ⟨m, ⟨e0, e1, e2, e3, e4, e5, e6, (hc _ (by omega)).trans y0, (hc _ (by omega)).trans y1, (hc _ (by omega)).trans y2, (hc _ (by omega)).trans y3, (hc _ (by omega)).trans y4, (hc _ (by omega)).trans y5, (hc _ (by omega)).trans y6, Ow.on _ _ _ _ (fun i h1 h2 => hb i h1 (by omega) (by omega)) hy⟩, hput V' x' c0 c1 c2 c3 c4 c5 c6 f0 f1 f2 f3 f4 f5 f6 hx' hc (fun i h1 h2 h3 => hb i (by omega) h2 h3)⟩
structure Chd (W W' : World) (p o lo hi : Nat) : Prop where
  q : Qp (fun i => i = p ∨ (lo ≤ i ∧ i < hi)) W W'
  c : ∀ j, j < o ∨ o + 7 ≤ j → W'.cell? ⟨p, j, none⟩ = W.cell? ⟨p, j, none⟩
structure Kc (hm on : List UInt8) (mb : Rf → Bool) (mr : Rf → Rf) (V V' : World) (ks : List Ex) (i g m hi : Nat) : Prop where
  ow : Ow.OwL V' ((ks.take i).map (chg hm on mb mr) ++ ks.drop i) g 0 m hi
  pl : Pl V' g
  q : Qp (fun j => j = g ∨ (m ≤ j ∧ j < hi)) V V'
theorem Kc.kid {hm on : List UInt8} {mb : Rf → Bool} {mr : Rf → Rf} {V V' : World} {ks : List Ex} {i g m hi : Nat} (h : Kc hm on mb mr V V' ks i g m hi) (hi' : i < ks.length) (hg : g < m) (hs : hi ≤ V.heap.size) :
    ∃ lo1 hi1 d0 d1 d2 d3 d4 d5 d6, m ≤ lo1 ∧ hi1 ≤ hi ∧ Nd V' g (i * 7) d0 d1 d2 d3 d4 d5 d6 ∧ Ow V' ks[i] (.agg #[d0, d1, d2, d3, d4, d5, d6]) lo1 hi1 ∧
      ∀ V'' c0 c1 c2 c3 c4 c5 c6, Nd V'' g (i * 7) c0 c1 c2 c3 c4 c5 c6 → Ow V'' (chg hm on mb mr ks[i]) (.agg #[c0, c1, c2, c3, c4, c5, c6]) lo1 hi1 → Chd V' V'' g (i * 7) lo1 hi1 → Kc hm on mb mr V V'' ks (i + 1) g m hi := by
  have ow := h.ow
  have hl : ((ks.take i).map (chg hm on mb mr)).length = i := by rw [List.length_map, List.length_take]; omega
  rw [List.drop_eq_getElem_cons hi'] at ow
  obtain ⟨lo1, hi1, d0, d1, d2, d3, d4, d5, d6, a1, a2, a3, g0, g1, g2, g3, g4, g5, g6, hx, hput⟩ := Ow.OwL.kid _ _ _ _ _ _ _ ow
  rw [hl, Nat.zero_add] at g0 g1 g2 g3 g4 g5 g6
  refine ⟨lo1, hi1, d0, d1, d2, d3, d4, d5, d6, a1, a3, ⟨g0, g1, g2, g3, g4, g5, g6, h.pl⟩, hx, ?_⟩
  intro V'' c0 c1 c2 c3 c4 c5 c6 hn hx' hc
  have hsz := h.q.size
  refine ⟨?_, hn.pl, h.q.after hc.q (fun j h1 h2 => by omega)⟩
  have := hput V'' (chg hm on mb mr ks[i]) c0 c1 c2 c3 c4 c5 c6 (by rw [hl, Nat.zero_add]; exact hn.g0) (by rw [hl, Nat.zero_add]; exact hn.g1) (by rw [hl, Nat.zero_add]; exact hn.g2) (by rw [hl, Nat.zero_add]; exact hn.g3) (by rw [hl, Nat.zero_add]; exact hn.g4) (by rw [hl, Nat.zero_add]; exact hn.g5) (by rw [hl, Nat.zero_add]; exact hn.g6) hx' (by rw [hl, Nat.zero_add]; exact hc.c) (fun j h1 h2 h3 => Bs.of (hc.q.block j (by omega) (fun e => by omega)))
  rw [List.take_succ_eq_append_getElem hi', List.map_append, List.append_assoc]
  exact this
theorem Rl.put {V V' : World} {g i : Nat} {L : List Rf} {r' : Rf} (h : Rl V g L) (hi : i < L.length) (m : Mvd V V' g (i * 5) r') : Rl V' g (L.set i r') := by
  refine ⟨m.pl, fun k hk => ?_⟩
  rw [List.length_set] at hk
  rw [Nat.zero_add]
  by_cases e : i = k
  · subst e
    rw [List.getElem_set_self]
    exact m.at_
  · rw [List.getElem_set_ne e]
    intro j u hu
    have hj : j < 5 := by rw [← rf_len L[k]]; exact (List.getElem?_eq_some_iff.1 hu).1
    rw [m.c _ (by omega)]
    have := h.at_ k hk j u hu
    rw [Nat.zero_add] at this
    exact this
structure Rfc (mr : Rf → Rf) (W V : World) (rs : List Rf) (i g : Nat) : Prop where
  rl : Rl V g ((rs.take i).map mr ++ rs.drop i)
  q : Qp (fun j => j = g) W V
theorem Rfc.step {mr : Rf → Rf} {W V V' : World} {rs : List Rf} {i g : Nat} (h : Rfc mr W V rs i g) (hi : i < rs.length) (m : Mvd V V' g (i * 5) (mr rs[i])) : Rfc mr W V' rs (i + 1) g := by
  refine ⟨?_, h.q.trans m.q⟩
  have hl : ((rs.take i).map mr).length = i := by rw [List.length_map, List.length_take]; omega
  have := h.rl.put (i := i) (r' := mr rs[i]) (by rw [List.length_append, hl, List.length_drop]; omega) m
  rw [List.set_append_right _ _ (by omega), hl, Nat.sub_self, List.drop_eq_getElem_cons hi, List.set_cons_zero] at this
  rw [List.take_succ_eq_append_getElem hi, List.map_append, List.append_assoc]
  exact this
theorem Rfc.at_ {mr : Rf → Rf} {W V : World} {rs : List Rf} {i g : Nat} (h : Rfc mr W V rs i g) (hi : i < rs.length) : Ats rf V g (i * 5) rs[i] := by
  have hl : ((rs.take i).map mr).length = i := by rw [List.length_map, List.length_take]; omega
  have := h.rl.at_ i (by rw [List.length_append, hl, List.length_drop]; omega)
  rw [Nat.zero_add, List.getElem_append_right (by omega)] at this
  simpa [Nat.min_eq_left (Nat.le_of_lt hi)] using this
theorem Nd.all7 {W : World} {p o : Nat} {c0 c1 c2 c3 c4 c5 c6 : Value} (h : Nd W p o c0 c1 c2 c3 c4 c5 c6) (d0 d1 d2 d3 d4 d5 d6 : Value) : Nd (((((((W.setCell ⟨p, o, none⟩ d0).setCell ⟨p, o + 1, none⟩ d1).setCell ⟨p, o + 2, none⟩ d2).setCell ⟨p, o + 3, none⟩ d3).setCell ⟨p, o + 4, none⟩ d4).setCell ⟨p, o + 5, none⟩ d5).setCell ⟨p, o + 6, none⟩ d6) p o d0 d1 d2 d3 d4 d5 d6 := by
  have ot : ∀ (V : World) (i j : Nat) (d : Value), i ≠ j → (V.setCell ⟨p, i, none⟩ d).cell? ⟨p, j, none⟩ = V.cell? ⟨p, j, none⟩ := fun V i j d hj => World.cell?_setCell_other _ _ _ _ (off_ne hj)
  have sm : ∀ (V : World) (i : Nat) (d c : Value), V.cell? ⟨p, i, none⟩ = some c → (V.setCell ⟨p, i, none⟩ d).cell? ⟨p, i, none⟩ = some d := fun V i d c h => World.cell?_setCell_same _ _ _ h
  refine ⟨?_, ?_, ?_, ?_, ?_, ?_, ?_, ((((((h.pl.set _ _ _).set _ _ _).set _ _ _).set _ _ _).set _ _ _).set _ _ _).set _ _ _⟩
  · rw [ot _ _ _ _ (by omega), ot _ _ _ _ (by omega), ot _ _ _ _ (by omega), ot _ _ _ _ (by omega), ot _ _ _ _ (by omega), ot _ _ _ _ (by omega)]
    exact sm _ _ _ _ h.g0
  · rw [ot _ _ _ _ (by omega), ot _ _ _ _ (by omega), ot _ _ _ _ (by omega), ot _ _ _ _ (by omega), ot _ _ _ _ (by omega)]
    exact sm _ _ _ c1 (by rw [ot _ _ _ _ (by omega)]; exact h.g1)
  · rw [ot _ _ _ _ (by omega), ot _ _ _ _ (by omega), ot _ _ _ _ (by omega), ot _ _ _ _ (by omega)]
    exact sm _ _ _ c2 (by rw [ot _ _ _ _ (by omega), ot _ _ _ _ (by omega)]; exact h.g2)
  · rw [ot _ _ _ _ (by omega), ot _ _ _ _ (by omega), ot _ _ _ _ (by omega)]
    exact sm _ _ _ c3 (by rw [ot _ _ _ _ (by omega), ot _ _ _ _ (by omega), ot _ _ _ _ (by omega)]; exact h.g3)
  · rw [ot _ _ _ _ (by omega), ot _ _ _ _ (by omega)]
    exact sm _ _ _ c4 (by rw [ot _ _ _ _ (by omega), ot _ _ _ _ (by omega), ot _ _ _ _ (by omega), ot _ _ _ _ (by omega)]; exact h.g4)
  · rw [ot _ _ _ _ (by omega)]
    exact sm _ _ _ c5 (by rw [ot _ _ _ _ (by omega), ot _ _ _ _ (by omega), ot _ _ _ _ (by omega), ot _ _ _ _ (by omega), ot _ _ _ _ (by omega)]; exact h.g5)
  · exact sm _ _ _ c6 (by rw [ot _ _ _ _ (by omega), ot _ _ _ _ (by omega), ot _ _ _ _ (by omega), ot _ _ _ _ (by omega), ot _ _ _ _ (by omega), ot _ _ _ _ (by omega)]; exact h.g6)
structure Cd (hm on : List UInt8) (mb : Rf → Bool) (mr : Rf → Rf) (W W' : World) (x : Ex) (p o lo hi : Nat) : Prop where
  ex : ∃ c0 c1 c2 c3 c4 c5 c6, Nd W' p o c0 c1 c2 c3 c4 c5 c6 ∧ Ow W' (chg hm on mb mr x) (.agg #[c0, c1, c2, c3, c4, c5, c6]) lo hi
  ch : Chd W W' p o lo hi
theorem cd_lost {hm on : List UInt8} {mb : Rf → Bool} {mr : Rf → Rf} {W V : World} {k n : Int} {t : List UInt8} {b : Bool} {e : Int} {rs : List Rf} {ks : List Ex} {p o lo hi : Nat} {c0 c1 c2 c3 c4 c5 c6 : Value}
    (hc : Chd W V p o lo hi) (hn : Nd V p o c0 c1 c2 c3 c4 c5 c6) (hl : (hit hm on rs && !rs.all mb) = true) (hle : lo ≤ hi) :
    Cd hm on mb mr W (((((((V.setCell ⟨p, o, none⟩ (.int .i64 4)).setCell ⟨p, o + 1, none⟩ (.int .i64 0)).setCell ⟨p, o + 2, none⟩ (.string ⟨#[]⟩)).setCell ⟨p, o + 3, none⟩ (.bool false)).setCell ⟨p, o + 4, none⟩ (.int .i64 1)).setCell ⟨p, o + 5, none⟩ (.slice none 0 0)).setCell ⟨p, o + 6, none⟩ (.slice none 0 0)) (.mk k n t b e rs ks) p o lo hi := by
  refine ⟨⟨_, _, _, _, _, _, _, hn.all7 _ _ _ _ _ _ _, ?_⟩, ?_⟩
  · rw [chg, if_pos hl]
    unfold lostE Ow
    exact ⟨_, _, lo, rfl, ⟨Nat.le_refl _, none, 0, rfl, Nat.le_refl _, Nat.zero_le _, fun h => absurd h (by simp)⟩, hle, none, 0, rfl, Nat.le_refl _, Nat.zero_le _, fun h => absurd rfl h⟩
  · refine ⟨((((((hc.q.set _ _ (.inl (.inl rfl))).set _ _ (.inl (.inl rfl))).set _ _ (.inl (.inl rfl))).set _ _ (.inl (.inl rfl))).set _ _ (.inl (.inl rfl))).set _ _ (.inl (.inl rfl))).set _ _ (.inl (.inl rfl)), fun j hj => ?_⟩
    rw [World.cell?_setCell_other _ _ _ _ (off_ne (by omega)), World.cell?_setCell_other _ _ _ _ (off_ne (by omega)), World.cell?_setCell_other _ _ _ _ (off_ne (by omega)), World.cell?_setCell_other _ _ _ _ (off_ne (by omega)), World.cell?_setCell_other _ _ _ _ (off_ne (by omega)), World.cell?_setCell_other _ _ _ _ (off_ne (by omega)), World.cell?_setCell_other _ _ _ _ (off_ne (by omega))]
    exact hc.c j hj
theorem cd_leaf {hm on : List UInt8} {mb : Rf → Bool} {mr : Rf → Rf} {W V : World} {k n : Int} {t : List UInt8} {b : Bool} {e : Int} {rs : List Rf} {p o lo m hi cap : Nat} {rv : Value} {ao : Option Addr}
    (hc : Chd W V p o lo hi) (hn : Nd V p o (.int .i64 k) (.int .i64 n) (.string ⟨t.toArray⟩) (.bool b) (.int .i64 e) rv (.slice ao 0 cap)) (hcm : cap ≤ maxLen) (hl : (hit hm on rs && !rs.all mb) = false)
    (hr : OwR V rv (if hit hm on rs = true then rs.map mr else rs) lo m) (hm' : m ≤ hi) : Cd hm on mb mr W V (.mk k n t b e rs []) p o lo hi := by
  refine ⟨⟨_, _, _, _, _, _, _, hn, ?_⟩, hc⟩
  rw [chg, if_neg (by rw [hl]; simp), chg.chgL]
  unfold Ow
  exact ⟨_, _, m, rfl, hr, hm', ao, cap, rfl, Nat.zero_le _, hcm, fun h => absurd rfl h⟩
theorem cd_kids {hm on : List UInt8} {mb : Rf → Bool} {mr : Rf → Rf} {W V V' : World} {k n : Int} {t : List UInt8} {b : Bool} {e : Int} {rs : List Rf} {ks : List Ex} {p o lo m m' hi cap g : Nat} {rv : Value}
    (hc : Chd W V p o lo hi) (hn : Nd V p o (.int .i64 k) (.int .i64 n) (.string ⟨t.toArray⟩) (.bool b) (.int .i64 e) rv (.slice (some ⟨g, 0, none⟩) ks.length cap)) (hcl : ks.length ≤ cap) (hcm : cap ≤ maxLen) (hl : (hit hm on rs && !rs.all mb) = false)
    (hr : OwR V rv (if hit hm on rs = true then rs.map mr else rs) lo m) (h1 : m ≤ g) (h2 : g < m') (h3 : m' ≤ hi) (hs : hi ≤ W.heap.size) (hp : p < lo ∨ hi ≤ p) (K : Kc hm on mb mr V V' ks ks.length g m' hi) : Cd hm on mb mr W V' (.mk k n t b e rs ks) p o lo hi := by
  have hsz := hc.q.size
  have h0 := hr.1
  have ow := K.ow
  rw [List.take_length, List.drop_length, List.append_nil] at ow
  refine ⟨⟨_, _, _, _, _, _, _, hn.blk (K.q.block p hn.pl.lt (fun e => by omega)), ?_⟩, ⟨hc.q.after K.q (fun i hi' e => by omega), fun j hj => (World.cell?_of_block (K.q.block p hn.pl.lt (fun e => by omega))).trans (hc.c j hj)⟩⟩
  rw [chg, if_neg (by rw [hl]; simp), chgL_map]
  unfold Ow
  refine ⟨_, _, m, rfl, hr.on (fun i p1 p2 => Bs.of (K.q.block i (by omega) (fun e => by omega))), by omega, some ⟨g, 0, none⟩, cap, by rw [List.length_map], by rw [List.length_map]; exact hcl, hcm, fun _ => ⟨g, m', rfl, h1, h2, K.pl, ow⟩⟩
theorem kc_start {hm on : List UInt8} {mb : Rf → Bool} {mr : Rf → Rf} {V : World} {ks : List Ex} {g m hi : Nat} (h : Ow.OwL V ks g 0 m hi) (hp : Pl V g) : Kc hm on mb mr V V ks 0 g m hi :=
  ⟨by rw [List.take_zero, List.map_nil, List.nil_append, List.drop_zero]; exact h, hp, Qp.refl _ _⟩
set_option maxHeartbeats 4000000 in
theorem change_no0 (home on : ByteArray) (pr pl : Nat) (rows : Bool) (k a t : Int)
    (k' n' : Int) (t' : List UInt8) (b' : Bool) (e' : Int) (rs : List Rf) (ks : List Ex) (W : World) (p o lo hi m : Nat) (rv : Value) (ao : Option Addr) (cap : Nat)
    (HN : Hid (Nd W p o (.int .i64 k') (.int .i64 n') (.string ⟨t'.toArray⟩) (.bool b') (.int .i64 e') rv (.slice ao ks.length cap))) (HR : Hid (OwR W rv rs lo m)) (HM : Hid (m ≤ hi)) (HC : Hid (ks.length ≤ cap ∧ cap ≤ maxLen))
    (HSZ : Hid (hi ≤ W.heap.size)) (HPO : Hid (p < lo ∨ hi ≤ p)) (HLV : Hid (Lv W pr pl rows k a t)) (HPP : Hid ((pr < lo ∨ hi ≤ pr) ∧ (pl < lo ∨ hi ≤ pl) ∧ pr ≠ p ∧ pl ≠ p))
    (hrs : rs = []) (hks : ks = [])  :
    Calls Tryz.prog 43 #[.pointer (some ⟨p, o, none⟩), .string home, .string on, .func (.func 77) #[] #[.pointer (some ⟨pr, 0, none⟩), .pointer (some ⟨pl, 0, none⟩)]] W fun e W' => (∃ u, e = .returned u) ∧ Cd home.data.toList on.data.toList (mvB rows k a t) (mvR rows k a t) W W' (.mk k' n' t' b' e' rs ks) p o lo hi := by
  subst hrs
  subst hks
  obtain ⟨_, ar, cr, hrv, _⟩ := HR.out
  simp only [List.length_nil] at hrv
  subst hrv
  obtain ⟨g0, g1, g2, g3, g4, g5, g6, _⟩ := HN.out
  have HNV := HN
  have HLVV := HLV
  have HCV : Hid (Chd W W p o lo hi) := hid ⟨Qp.refl _ _, fun _ _ => rfl⟩
  have HL : Hid ((hit home.data.toList on.data.toList [] && !([] : List Rf).all (mvB rows k a t)) = false) := hid rfl
  have HRV : Hid (OwR W (.slice ar 0 cr) (if hit home.data.toList on.data.toList [] = true then ([] : List Rf).map (mvR rows k a t) else []) lo m) := hid (by rw [if_neg (by simp [hit])]; exact HR.out)
  have HE : Hid (cap ≤ maxLen ∧ m ≤ hi) := hid ⟨HC.out.2, HM.out⟩
  go_enter Tryz.func43, Tryz.ntmps43
  go_wp2_with fail
  go_loopw [56, 9] (fun x _ V' => x = .int .i64 0 ∧ V' = W) (fun _ _ _ => 0)
  case atStart => exact ⟨rfl, rfl⟩
  case round =>
    obtain ⟨rfl, rfl⟩ := hrel
    obtain ⟨z0, z1, z2, z3, z4, z5, z6, _⟩ := HNV.out
    go_wp2_with fail
    refine bodyPost_end (v := .tuple #[]) (by simp [results, Tryz.results43, go_sem]) rfl ?_
    exact ⟨⟨_, rfl⟩, cd_leaf HCV.out HNV.out HE.out.1 HL.out HRV.out HE.out.2⟩
set_option maxHeartbeats 4000000 in
theorem change_nok (home on : ByteArray) (pr pl : Nat) (rows : Bool) (k a t : Int)
    (k' n' : Int) (t' : List UInt8) (b' : Bool) (e' : Int) (rs : List Rf) (ks : List Ex) (W : World) (p o lo hi m : Nat) (rv : Value) (ao : Option Addr) (cap : Nat)
    (HN : Hid (Nd W p o (.int .i64 k') (.int .i64 n') (.string ⟨t'.toArray⟩) (.bool b') (.int .i64 e') rv (.slice ao ks.length cap))) (HR : Hid (OwR W rv rs lo m)) (HM : Hid (m ≤ hi)) (HC : Hid (ks.length ≤ cap ∧ cap ≤ maxLen))
    (HSZ : Hid (hi ≤ W.heap.size)) (HPO : Hid (p < lo ∨ hi ≤ p)) (HLV : Hid (Lv W pr pl rows k a t)) (HPP : Hid ((pr < lo ∨ hi ≤ pr) ∧ (pl < lo ∨ hi ≤ pl) ∧ pr ≠ p ∧ pl ≠ p))
    (gk mk' : Nat) (hao : ao = some ⟨gk, 0, none⟩) (HKL : Hid (m ≤ gk ∧ gk < mk' ∧ mk' ≤ hi ∧ Pl W gk ∧ Ow.OwL W ks gk 0 mk' hi))
    (IH : Hid (∀ (i : Nat) (h : i < ks.length) (W : World) (p o : Nat) (c0 c1 c2 c3 c4 c5 c6 : Value) (lo hi : Nat), Nd W p o c0 c1 c2 c3 c4 c5 c6 → Ow W ks[i] (.agg #[c0, c1, c2, c3, c4, c5, c6]) lo hi → hi ≤ W.heap.size → (p < lo ∨ hi ≤ p) → Lv W pr pl rows k a t → (pr < lo ∨ hi ≤ pr) → (pl < lo ∨ hi ≤ pl) → pr ≠ p → pl ≠ p →
      Calls Tryz.prog 43 #[.pointer (some ⟨p, o, none⟩), .string home, .string on, .func (.func 77) #[] #[.pointer (some ⟨pr, 0, none⟩), .pointer (some ⟨pl, 0, none⟩)]] W fun e W' => (∃ u, e = .returned u) ∧ Cd home.data.toList on.data.toList (mvB rows k a t) (mvR rows k a t) W W' ks[i] p o lo hi))
    (hrs : rs = [])  :
    Calls Tryz.prog 43 #[.pointer (some ⟨p, o, none⟩), .string home, .string on, .func (.func 77) #[] #[.pointer (some ⟨pr, 0, none⟩), .pointer (some ⟨pl, 0, none⟩)]] W fun e W' => (∃ u, e = .returned u) ∧ Cd home.data.toList on.data.toList (mvB rows k a t) (mvR rows k a t) W W' (.mk k' n' t' b' e' rs ks) p o lo hi := by
  subst hrs
  subst hao
  have hroom : ks.length ≤ 9223372036854775807 := by have h := HC.out; unfold maxLen at h; omega
  obtain ⟨_, ar, cr, hrv, _⟩ := HR.out
  simp only [List.length_nil] at hrv
  subst hrv
  obtain ⟨g0, g1, g2, g3, g4, g5, g6, _⟩ := HN.out
  have HNV := HN
  have HLVV := HLV
  have HCV : Hid (Chd W W p o lo hi) := hid ⟨Qp.refl _ _, fun _ _ => rfl⟩
  have HL : Hid ((hit home.data.toList on.data.toList [] && !([] : List Rf).all (mvB rows k a t)) = false) := hid rfl
  have HRV : Hid (OwR W (.slice ar 0 cr) (if hit home.data.toList on.data.toList [] = true then ([] : List Rf).map (mvR rows k a t) else []) lo m) := hid (by rw [if_neg (by simp [hit])]; exact HR.out)
  have HE : Hid (m ≤ gk ∧ gk < mk' ∧ mk' ≤ hi ∧ ks.length ≤ cap ∧ cap ≤ maxLen ∧ lo ≤ m) := hid ⟨HKL.out.1, HKL.out.2.1, HKL.out.2.2.1, HC.out.1, HC.out.2, HR.out.1⟩
  have HK0 : Hid (Kc home.data.toList on.data.toList (mvB rows k a t) (mvR rows k a t) W W ks 0 gk mk' hi) := hid (kc_start HKL.out.2.2.2.2 HKL.out.2.2.2.1)
  go_enter Tryz.func43, Tryz.ntmps43
  go_wp2_with fail
  go_loopw [56, 9] (fun x _ V' => ∃ i : Nat, i ≤ ks.length ∧ x = .int .i64 (i : Int) ∧ Hid (Kc home.data.toList on.data.toList (mvB rows k a t) (mvR rows k a t) (W) V' ks i gk mk' hi)) (fun x _ _ => ks.length - (intOf x).toNat)
  case atStart => exact ⟨0, Nat.zero_le _, rfl, HK0⟩
  case round =>
    obtain ⟨i, hik, rfl, hK⟩ := hrel
    have HNr := hid (HNV.out.blk (hK.out.q.block p HNV.out.pl.lt (fun e => by have := HE.out; have := HPO.out; omega)))
    obtain ⟨z0, z1, z2, z3, z4, z5, z6, _⟩ := HNr.out
    by_cases hlt : i < ks.length
    · obtain ⟨lo1, hi1, d0, d1, d2, d3, d4, d5, d6, b1, b2, b3, b4, b5⟩ := hK.out.kid hlt HE.out.2.1 (Nat.le_trans HSZ.out HCV.out.q.size)
      have HI := hid (IH.out i hlt wr gk (i * 7) d0 d1 d2 d3 d4 d5 d6 lo1 hi1 b3 b4 (by have := hK.out.q.size; have := HCV.out.q.size; have := HSZ.out; omega) (.inl (by have := HE.out; omega)) (HLVV.out.blk (hK.out.q.block pr HLVV.out.lt.1 (fun e => by have := HE.out; have := HPP.out; omega)) (hK.out.q.block pl HLVV.out.lt.2 (fun e => by have := HE.out; have := HPP.out; omega))) (by have := HE.out; have := HPP.out; omega) (by have := HE.out; have := HPP.out; omega) (by have := HE.out; have := HPP.out; omega) (by have := HE.out; have := HPP.out; omega))
      have HB5 := hid b5
      clear b1 b2 b3 b4 b5
      go_wp2_with (go_at_call 43; refine HI.out.mono ?_; rintro e9 w9 ⟨⟨u9, rfl⟩, cd9⟩; obtain ⟨f0, f1, f2, f3, f4, f5, f6, n9, o9⟩ := cd9.ex; have K9 := hid (HB5.out w9 f0 f1 f2 f3 f4 f5 f6 n9 o9 cd9.ch); clear cd9 n9 o9)
      go_roundw
      case rel => exact ⟨i + 1, by omega, by go_num, K9⟩
      case measure => simp [intOf]; omega
    · have hK2 : Hid (Kc home.data.toList on.data.toList (mvB rows k a t) (mvR rows k a t) (W) wr ks ks.length gk mk' hi) := by
        have : i = ks.length := by omega
        subst this
        exact hK
      clear hK
      go_wp2_with fail
      refine bodyPost_end (v := .tuple #[]) (by simp [results, Tryz.results43, go_sem]) rfl ?_
      exact ⟨⟨_, rfl⟩, cd_kids HCV.out HNV.out HE.out.2.2.2.1 HE.out.2.2.2.2.1 HL.out HRV.out HE.out.1 HE.out.2.1 HE.out.2.2.1 HSZ.out HPO.out hK2.out⟩
set_option maxHeartbeats 4000000 in
theorem change_nh0 (home on : ByteArray) (pr pl : Nat) (rows : Bool) (k a t : Int)
    (k' n' : Int) (t' : List UInt8) (b' : Bool) (e' : Int) (rs : List Rf) (ks : List Ex) (W : World) (p o lo hi m : Nat) (rv : Value) (ao : Option Addr) (cap : Nat)
    (HN : Hid (Nd W p o (.int .i64 k') (.int .i64 n') (.string ⟨t'.toArray⟩) (.bool b') (.int .i64 e') rv (.slice ao ks.length cap))) (HR : Hid (OwR W rv rs lo m)) (HM : Hid (m ≤ hi)) (HC : Hid (ks.length ≤ cap ∧ cap ≤ maxLen))
    (HSZ : Hid (hi ≤ W.heap.size)) (HPO : Hid (p < lo ∨ hi ≤ p)) (HLV : Hid (Lv W pr pl rows k a t)) (HPP : Hid ((pr < lo ∨ hi ≤ pr) ∧ (pl < lo ∨ hi ≤ pl) ∧ pr ≠ p ∧ pl ≠ p))
    (r0 : Rf) (rs' : List Rf) (HRS : Hid (rs = r0 :: rs'))
    (HH : Hid (orT r0.1 home.data.toList ≠ on.data.toList))
    (hks : ks = [])  :
    Calls Tryz.prog 43 #[.pointer (some ⟨p, o, none⟩), .string home, .string on, .func (.func 77) #[] #[.pointer (some ⟨pr, 0, none⟩), .pointer (some ⟨pl, 0, none⟩)]] W fun e W' => (∃ u, e = .returned u) ∧ Cd home.data.toList on.data.toList (mvB rows k a t) (mvR rows k a t) W W' (.mk k' n' t' b' e' rs ks) p o lo hi := by
  subst hks
  obtain ⟨_, ar, cr, hrv, hr1, hr2, hr3⟩ := HR.out
  subst hrv
  have hpos : (0 : Int) < (rs.length : Int) := by rw [HRS.out, List.length_cons]; omega
  obtain ⟨g, rfl, hg1, hg2, hg3, hg4⟩ := hr3 (by omega)
  have hs0 : W.cell? ⟨g, 0, none⟩ = some (.string ⟨r0.1.toArray⟩) := by
    have h0 := hg4 0 (by omega) 0 (.string ⟨r0.1.toArray⟩) (by
      have : rs[0]'(by omega) = r0 := by
        have h := HRS.out
        subst h
        rfl
      rw [this]
      rfl)
    simpa using h0
  have HG : Hid (lo ≤ g ∧ g < m ∧ m ≤ hi ∧ lo ≤ m) := hid ⟨hg1, hg2, HM.out, HR.out.1⟩
  have HO := hid (fun b W => or_any b ⟨r0.1.toArray⟩ home W)
  have hroomr : rs.length ≤ 9223372036854775807 := by unfold maxLen at hr2; omega
  obtain ⟨g0, g1, g2, g3, g4, g5, g6, _⟩ := HN.out
  have hplt : p < W.heap.size := HN.out.pl.lt
  have hglt : g < W.heap.size := hg3.lt
  have qa : Q W (W.alloc (.cells #[.string ⟨r0.1.toArray⟩, .string home] 9)) := (Q.refl _).alloc _
  have HNA := hid (HN.out.on qa)
  have HLA := hid (HLV.out.blk (Q.block qa HLV.out.lt.1) (Q.block qa HLV.out.lt.2))
  have HCA : Hid (Chd W (W.alloc (.cells #[.string ⟨r0.1.toArray⟩, .string home] 9)) p o lo hi) := hid ⟨Qp.of qa, fun j _ => qa.cell HN.out.pl.lt⟩
  have HE : Hid (cap ≤ maxLen ∧ m ≤ hi) := hid ⟨HC.out.2, HM.out⟩
  have hf : (orT r0.1 home.data.toList == on.toList) = false := by rw [(hid (toL on)).out, beq_eq_false_iff_ne]; exact HH.out
  have hh : hit home.data.toList on.data.toList rs = false := by rw [HRS.out]; simp only [hit]; exact decide_eq_false HH.out
  have HNV := HNA
  have HLVV := HLA
  have HCV := HCA
  have HL : Hid ((hit home.data.toList on.data.toList rs && !rs.all (mvB rows k a t)) = false) := hid (by rw [hh]; rfl)
  have HRV : Hid (OwR (W.alloc (.cells #[.string ⟨r0.1.toArray⟩, .string home] 9)) (.slice (some ⟨g, 0, none⟩) rs.length cr) (if hit home.data.toList on.data.toList rs = true then rs.map (mvR rows k a t) else rs) lo m) := hid (by rw [if_neg (by rw [hh]; simp)]; exact HR.out.on (fun i _ h2 => Bs.of (Q.block qa (by have := HSZ.out; have := HM.out; omega))))
  obtain ⟨T, hT⟩ : ∃ T, orT r0.1 home.data.toList = T := ⟨_, rfl⟩
  rw [hT] at hf
  have HT : Hid ((⟨T.toArray⟩ : ByteArray) = ⟨(orT (⟨r0.1.toArray⟩ : ByteArray).data.toList home.data.toList).toArray⟩) := hid (by rw [← hT])
  clear hh hg3 hg4 hr3 qa hT
  go_enter Tryz.func43, Tryz.ntmps43
  go_wp2_with (go_at_call 67; refine (HO.out W.heap.size _ (by simp) (by simp)).mono ?_; rintro e9 w9 ⟨rfl, rfl⟩; rw [← HT.out])
  go_loopw [56, 9] (fun x _ V' => x = .int .i64 0 ∧ V' = W.alloc (.cells #[.string ⟨r0.1.toArray⟩, .string home] 9)) (fun _ _ _ => 0)
  case atStart => exact ⟨rfl, rfl⟩
  case round =>
    obtain ⟨rfl, rfl⟩ := hrel
    obtain ⟨z0, z1, z2, z3, z4, z5, z6, _⟩ := HNV.out
    go_wp2_with fail
    refine bodyPost_end (v := .tuple #[]) (by simp [results, Tryz.results43, go_sem]) rfl ?_
    exact ⟨⟨_, rfl⟩, cd_leaf HCV.out HNV.out HE.out.1 HL.out HRV.out HE.out.2⟩
set_option maxHeartbeats 4000000 in
theorem change_nhk (home on : ByteArray) (pr pl : Nat) (rows : Bool) (k a t : Int)
    (k' n' : Int) (t' : List UInt8) (b' : Bool) (e' : Int) (rs : List Rf) (ks : List Ex) (W : World) (p o lo hi m : Nat) (rv : Value) (ao : Option Addr) (cap : Nat)
    (HN : Hid (Nd W p o (.int .i64 k') (.int .i64 n') (.string ⟨t'.toArray⟩) (.bool b') (.int .i64 e') rv (.slice ao ks.length cap))) (HR : Hid (OwR W rv rs lo m)) (HM : Hid (m ≤ hi)) (HC : Hid (ks.length ≤ cap ∧ cap ≤ maxLen))
    (HSZ : Hid (hi ≤ W.heap.size)) (HPO : Hid (p < lo ∨ hi ≤ p)) (HLV : Hid (Lv W pr pl rows k a t)) (HPP : Hid ((pr < lo ∨ hi ≤ pr) ∧ (pl < lo ∨ hi ≤ pl) ∧ pr ≠ p ∧ pl ≠ p))
    (gk mk' : Nat) (hao : ao = some ⟨gk, 0, none⟩) (HKL : Hid (m ≤ gk ∧ gk < mk' ∧ mk' ≤ hi ∧ Pl W gk ∧ Ow.OwL W ks gk 0 mk' hi))
    (IH : Hid (∀ (i : Nat) (h : i < ks.length) (W : World) (p o : Nat) (c0 c1 c2 c3 c4 c5 c6 : Value) (lo hi : Nat), Nd W p o c0 c1 c2 c3 c4 c5 c6 → Ow W ks[i] (.agg #[c0, c1, c2, c3, c4, c5, c6]) lo hi → hi ≤ W.heap.size → (p < lo ∨ hi ≤ p) → Lv W pr pl rows k a t → (pr < lo ∨ hi ≤ pr) → (pl < lo ∨ hi ≤ pl) → pr ≠ p → pl ≠ p →
      Calls Tryz.prog 43 #[.pointer (some ⟨p, o, none⟩), .string home, .string on, .func (.func 77) #[] #[.pointer (some ⟨pr, 0, none⟩), .pointer (some ⟨pl, 0, none⟩)]] W fun e W' => (∃ u, e = .returned u) ∧ Cd home.data.toList on.data.toList (mvB rows k a t) (mvR rows k a t) W W' ks[i] p o lo hi))
    (r0 : Rf) (rs' : List Rf) (HRS : Hid (rs = r0 :: rs'))
    (HH : Hid (orT r0.1 home.data.toList ≠ on.data.toList)) :
    Calls Tryz.prog 43 #[.pointer (some ⟨p, o, none⟩), .string home, .string on, .func (.func 77) #[] #[.pointer (some ⟨pr, 0, none⟩), .pointer (some ⟨pl, 0, none⟩)]] W fun e W' => (∃ u, e = .returned u) ∧ Cd home.data.toList on.data.toList (mvB rows k a t) (mvR rows k a t) W W' (.mk k' n' t' b' e' rs ks) p o lo hi := by
  subst hao
  have hroom : ks.length ≤ 9223372036854775807 := by have h := HC.out; unfold maxLen at h; omega
  obtain ⟨_, ar, cr, hrv, hr1, hr2, hr3⟩ := HR.out
  subst hrv
  have hpos : (0 : Int) < (rs.length : Int) := by rw [HRS.out, List.length_cons]; omega
  obtain ⟨g, rfl, hg1, hg2, hg3, hg4⟩ := hr3 (by omega)
  have hs0 : W.cell? ⟨g, 0, none⟩ = some (.string ⟨r0.1.toArray⟩) := by
    have h0 := hg4 0 (by omega) 0 (.string ⟨r0.1.toArray⟩) (by
      have : rs[0]'(by omega) = r0 := by
        have h := HRS.out
        subst h
        rfl
      rw [this]
      rfl)
    simpa using h0
  have HG : Hid (lo ≤ g ∧ g < m ∧ m ≤ hi ∧ lo ≤ m) := hid ⟨hg1, hg2, HM.out, HR.out.1⟩
  have HO := hid (fun b W => or_any b ⟨r0.1.toArray⟩ home W)
  have hroomr : rs.length ≤ 9223372036854775807 := by unfold maxLen at hr2; omega
  obtain ⟨g0, g1, g2, g3, g4, g5, g6, _⟩ := HN.out
  have hplt : p < W.heap.size := HN.out.pl.lt
  have hglt : g < W.heap.size := hg3.lt
  have qa : Q W (W.alloc (.cells #[.string ⟨r0.1.toArray⟩, .string home] 9)) := (Q.refl _).alloc _
  have HNA := hid (HN.out.on qa)
  have HLA := hid (HLV.out.blk (Q.block qa HLV.out.lt.1) (Q.block qa HLV.out.lt.2))
  have HCA : Hid (Chd W (W.alloc (.cells #[.string ⟨r0.1.toArray⟩, .string home] 9)) p o lo hi) := hid ⟨Qp.of qa, fun j _ => qa.cell HN.out.pl.lt⟩
  have HE : Hid (m ≤ gk ∧ gk < mk' ∧ mk' ≤ hi ∧ ks.length ≤ cap ∧ cap ≤ maxLen ∧ lo ≤ m) := hid ⟨HKL.out.1, HKL.out.2.1, HKL.out.2.2.1, HC.out.1, HC.out.2, HR.out.1⟩
  have hf : (orT r0.1 home.data.toList == on.toList) = false := by rw [(hid (toL on)).out, beq_eq_false_iff_ne]; exact HH.out
  have hh : hit home.data.toList on.data.toList rs = false := by rw [HRS.out]; simp only [hit]; exact decide_eq_false HH.out
  have HNV := HNA
  have HLVV := HLA
  have HCV := HCA
  have HL : Hid ((hit home.data.toList on.data.toList rs && !rs.all (mvB rows k a t)) = false) := hid (by rw [hh]; rfl)
  have HRV : Hid (OwR (W.alloc (.cells #[.string ⟨r0.1.toArray⟩, .string home] 9)) (.slice (some ⟨g, 0, none⟩) rs.length cr) (if hit home.data.toList on.data.toList rs = true then rs.map (mvR rows k a t) else rs) lo m) := hid (by rw [if_neg (by rw [hh]; simp)]; exact HR.out.on (fun i _ h2 => Bs.of (Q.block qa (by have := HSZ.out; have := HM.out; omega))))
  have HK0 : Hid (Kc home.data.toList on.data.toList (mvB rows k a t) (mvR rows k a t) (W.alloc (.cells #[.string ⟨r0.1.toArray⟩, .string home] 9)) (W.alloc (.cells #[.string ⟨r0.1.toArray⟩, .string home] 9)) ks 0 gk mk' hi) := hid (kc_start (HKL.out.2.2.2.2.on (fun i _ h2 => Bs.of (Q.block qa (by have := HSZ.out; omega))) (fun j _ _ => qa.cell HKL.out.2.2.2.1.lt)) (HKL.out.2.2.2.1.on qa))
  obtain ⟨T, hT⟩ : ∃ T, orT r0.1 home.data.toList = T := ⟨_, rfl⟩
  rw [hT] at hf
  have HT : Hid ((⟨T.toArray⟩ : ByteArray) = ⟨(orT (⟨r0.1.toArray⟩ : ByteArray).data.toList home.data.toList).toArray⟩) := hid (by rw [← hT])
  clear hh hg3 hg4 hr3 qa hT
  go_enter Tryz.func43, Tryz.ntmps43
  go_wp2_with (go_at_call 67; refine (HO.out W.heap.size _ (by simp) (by simp)).mono ?_; rintro e9 w9 ⟨rfl, rfl⟩; rw [← HT.out])
  go_loopw [56, 9] (fun x _ V' => ∃ i : Nat, i ≤ ks.length ∧ x = .int .i64 (i : Int) ∧ Hid (Kc home.data.toList on.data.toList (mvB rows k a t) (mvR rows k a t) (W.alloc (.cells #[.string ⟨r0.1.toArray⟩, .string home] 9)) V' ks i gk mk' hi)) (fun x _ _ => ks.length - (intOf x).toNat)
  case atStart => exact ⟨0, Nat.zero_le _, rfl, HK0⟩
  case round =>
    obtain ⟨i, hik, rfl, hK⟩ := hrel
    have HNr := hid (HNV.out.blk (hK.out.q.block p HNV.out.pl.lt (fun e => by have := HE.out; have := HPO.out; omega)))
    obtain ⟨z0, z1, z2, z3, z4, z5, z6, _⟩ := HNr.out
    by_cases hlt : i < ks.length
    · obtain ⟨lo1, hi1, d0, d1, d2, d3, d4, d5, d6, b1, b2, b3, b4, b5⟩ := hK.out.kid hlt HE.out.2.1 (Nat.le_trans HSZ.out HCV.out.q.size)
      have HI := hid (IH.out i hlt wr gk (i * 7) d0 d1 d2 d3 d4 d5 d6 lo1 hi1 b3 b4 (by have := hK.out.q.size; have := HCV.out.q.size; have := HSZ.out; omega) (.inl (by have := HE.out; omega)) (HLVV.out.blk (hK.out.q.block pr HLVV.out.lt.1 (fun e => by have := HE.out; have := HPP.out; omega)) (hK.out.q.block pl HLVV.out.lt.2 (fun e => by have := HE.out; have := HPP.out; omega))) (by have := HE.out; have := HPP.out; omega) (by have := HE.out; have := HPP.out; omega) (by have := HE.out; have := HPP.out; omega) (by have := HE.out; have := HPP.out; omega))
      have HB5 := hid b5
      clear b1 b2 b3 b4 b5
      go_wp2_with (go_at_call 43; refine HI.out.mono ?_; rintro e9 w9 ⟨⟨u9, rfl⟩, cd9⟩; obtain ⟨f0, f1, f2, f3, f4, f5, f6, n9, o9⟩ := cd9.ex; have K9 := hid (HB5.out w9 f0 f1 f2 f3 f4 f5 f6 n9 o9 cd9.ch); clear cd9 n9 o9)
      go_roundw
      case rel => exact ⟨i + 1, by omega, by go_num, K9⟩
      case measure => simp [intOf]; omega
    · have hK2 : Hid (Kc home.data.toList on.data.toList (mvB rows k a t) (mvR rows k a t) (W.alloc (.cells #[.string ⟨r0.1.toArray⟩, .string home] 9)) wr ks ks.length gk mk' hi) := by
        have : i = ks.length := by omega
        subst this
        exact hK
      clear hK
      go_wp2_with fail
      refine bodyPost_end (v := .tuple #[]) (by simp [results, Tryz.results43, go_sem]) rfl ?_
      exact ⟨⟨_, rfl⟩, cd_kids HCV.out HNV.out HE.out.2.2.2.1 HE.out.2.2.2.2.1 HL.out HRV.out HE.out.1 HE.out.2.1 HE.out.2.2.1 HSZ.out HPO.out hK2.out⟩
set_option maxHeartbeats 4000000 in
theorem change_h0 (home on : ByteArray) (pr pl : Nat) (rows : Bool) (k a t : Int)
    (k' n' : Int) (t' : List UInt8) (b' : Bool) (e' : Int) (rs : List Rf) (ks : List Ex) (W : World) (p o lo hi m : Nat) (rv : Value) (ao : Option Addr) (cap : Nat)
    (HN : Hid (Nd W p o (.int .i64 k') (.int .i64 n') (.string ⟨t'.toArray⟩) (.bool b') (.int .i64 e') rv (.slice ao ks.length cap))) (HR : Hid (OwR W rv rs lo m)) (HM : Hid (m ≤ hi)) (HC : Hid (ks.length ≤ cap ∧ cap ≤ maxLen))
    (HSZ : Hid (hi ≤ W.heap.size)) (HPO : Hid (p < lo ∨ hi ≤ p)) (HLV : Hid (Lv W pr pl rows k a t)) (HPP : Hid ((pr < lo ∨ hi ≤ pr) ∧ (pl < lo ∨ hi ≤ pl) ∧ pr ≠ p ∧ pl ≠ p))
    (r0 : Rf) (rs' : List Rf) (HRS : Hid (rs = r0 :: rs'))
    (HH : Hid (orT r0.1 home.data.toList = on.data.toList))
    (hks : ks = [])  :
    Calls Tryz.prog 43 #[.pointer (some ⟨p, o, none⟩), .string home, .string on, .func (.func 77) #[] #[.pointer (some ⟨pr, 0, none⟩), .pointer (some ⟨pl, 0, none⟩)]] W fun e W' => (∃ u, e = .returned u) ∧ Cd home.data.toList on.data.toList (mvB rows k a t) (mvR rows k a t) W W' (.mk k' n' t' b' e' rs ks) p o lo hi := by
  subst hks
  obtain ⟨_, ar, cr, hrv, hr1, hr2, hr3⟩ := HR.out
  subst hrv
  have hpos : (0 : Int) < (rs.length : Int) := by rw [HRS.out, List.length_cons]; omega
  obtain ⟨g, rfl, hg1, hg2, hg3, hg4⟩ := hr3 (by omega)
  have hs0 : W.cell? ⟨g, 0, none⟩ = some (.string ⟨r0.1.toArray⟩) := by
    have h0 := hg4 0 (by omega) 0 (.string ⟨r0.1.toArray⟩) (by
      have : rs[0]'(by omega) = r0 := by
        have h := HRS.out
        subst h
        rfl
      rw [this]
      rfl)
    simpa using h0
  have HG : Hid (lo ≤ g ∧ g < m ∧ m ≤ hi ∧ lo ≤ m) := hid ⟨hg1, hg2, HM.out, HR.out.1⟩
  have HO := hid (fun b W => or_any b ⟨r0.1.toArray⟩ home W)
  have hroomr : rs.length ≤ 9223372036854775807 := by unfold maxLen at hr2; omega
  obtain ⟨g0, g1, g2, g3, g4, g5, g6, _⟩ := HN.out
  have hplt : p < W.heap.size := HN.out.pl.lt
  have hglt : g < W.heap.size := hg3.lt
  have qa : Q W (W.alloc (.cells #[.string ⟨r0.1.toArray⟩, .string home] 9)) := (Q.refl _).alloc _
  have HNA := hid (HN.out.on qa)
  have HLA := hid (HLV.out.blk (Q.block qa HLV.out.lt.1) (Q.block qa HLV.out.lt.2))
  have HCA : Hid (Chd W (W.alloc (.cells #[.string ⟨r0.1.toArray⟩, .string home] 9)) p o lo hi) := hid ⟨Qp.of qa, fun j _ => qa.cell HN.out.pl.lt⟩
  have HE : Hid (cap ≤ maxLen ∧ m ≤ hi) := hid ⟨HC.out.2, HM.out⟩
  have hf : (orT r0.1 home.data.toList == on.toList) = true := by rw [(hid (toL on)).out, HH.out]; exact beq_self_eq_true _
  have HHT : Hid (hit home.data.toList on.data.toList rs = true) := hid (by rw [HRS.out]; simp only [hit]; exact decide_eq_true HH.out)
  have HR0 : Hid (Rfc (mvR rows k a t) (W.alloc (.cells #[.string ⟨r0.1.toArray⟩, .string home] 9)) (W.alloc (.cells #[.string ⟨r0.1.toArray⟩, .string home] 9)) rs 0 g) := hid ⟨by rw [List.take_zero, List.map_nil, List.nil_append, List.drop_zero]; exact Rl.on ⟨hg3, hg4⟩ qa, Qp.refl _ _⟩
  obtain ⟨T, hT⟩ : ∃ T, orT r0.1 home.data.toList = T := ⟨_, rfl⟩
  rw [hT] at hf
  have HT : Hid ((⟨T.toArray⟩ : ByteArray) = ⟨(orT (⟨r0.1.toArray⟩ : ByteArray).data.toList home.data.toList).toArray⟩) := hid (by rw [← hT])
  have HQA := hid qa
  clear hg3 hg4 hr3 qa hT
  go_enter Tryz.func43, Tryz.ntmps43
  go_wp2_with (go_at_call 67; refine (HO.out W.heap.size _ (by simp) (by simp)).mono ?_; rintro e9 w9 ⟨rfl, rfl⟩; rw [← HT.out])
  go_loopw [35, 8] (fun x _ V => ∃ i : Nat, i ≤ rs.length ∧ x = .int .i64 (i : Int) ∧ Hid (Rfc (mvR rows k a t) (W.alloc (.cells #[.string ⟨r0.1.toArray⟩, .string home] 9)) V rs i g) ∧ Hid ((rs.take i).all (mvB rows k a t) = true)) (fun x _ _ => rs.length - (intOf x).toNat)
  case atStart => exact ⟨0, Nat.zero_le _, rfl, HR0, hid (by rw [List.take_zero]; rfl)⟩
  case round =>
    obtain ⟨i, hir, rfl, hR, hA⟩ := hrel
    obtain ⟨V1, hV1⟩ : ∃ V1, V1 = wr := ⟨wr, rfl⟩
    subst hV1
    have HBL : Hid (∀ j, j < W.heap.size → j ≠ g → V1.heap[j]? = W.heap[j]?) := hid (fun j hj hne => (hR.out.q.block j (Q.lt HQA.out hj) hne).trans (Q.block HQA.out hj))
    have hpg : p ≠ g := by have := HG.out; have := HPO.out; omega
    have HN1 := hid (HN.out.blk (HBL.out p HN.out.pl.lt hpg))
    have HLV1 := hid (HLV.out.blk (HBL.out pr HLV.out.lt.1 (by have := HG.out; have := HPP.out; omega)) (HBL.out pl HLV.out.lt.2 (by have := HG.out; have := HPP.out; omega)))
    have HC1 : Hid (Chd W V1 p o lo hi) := hid ⟨HCA.out.q.after hR.out.q (fun j _ e => .inr (by have := HG.out; omega)), fun j hj => World.cell?_of_block (HBL.out p HN.out.pl.lt hpg)⟩
    obtain ⟨z0, z1, z2, z3, z4, z5, z6, _⟩ := HN1.out
    by_cases hlt : i < rs.length
    · have HTO := hid (to_any pr pl g (i * 5) rs[i] rows k a t V1 HLV1.out hR.out.rl.pl (hR.out.at_ hlt))
      cases hb : mvB rows k a t rs[i]
      · rw [hb] at HTO
        have HL : Hid ((hit home.data.toList on.data.toList rs && !rs.all (mvB rows k a t)) = true) := hid (by
          rw [HHT.out, Bool.true_and, Bool.not_eq_true']
          rw [List.all_eq_false]
          exact ⟨rs[i], List.getElem_mem hlt, by rw [hb]; simp⟩)
        clear hA hb
        go_wp2_with (go_at_call 77; refine HTO.out.mono ?_; rintro e9 w9 ⟨rfl, m9⟩; have N9 := hid (HN1.out.blk (m9.q.block p HN1.out.pl.lt hpg)); have C9 : Hid (Chd W w9 p o lo hi) := hid ⟨HC1.out.q.after m9.q (fun j _ e => .inr (by have := HG.out; omega)), fun j hj => (World.cell?_of_block (m9.q.block p HN1.out.pl.lt hpg)).trans (HC1.out.c j hj)⟩; clear m9; obtain ⟨v0, v1, v2, v3, v4, v5, v6, vp⟩ := N9.out; have y0 := vp.frozen o; have y1 := vp.frozen (o + 1); have y2 := vp.frozen (o + 2); have y3 := vp.frozen (o + 3); have y4 := vp.frozen (o + 4); have y5 := vp.frozen (o + 5); have y6 := vp.frozen (o + 6); clear vp)
        refine bodyPost_ret (v := .tuple #[]) (by simp [results, Tryz.results43, go_sem]) rfl ?_
        exact ⟨⟨_, rfl⟩, cd_lost C9.out N9.out HL.out (by have := HG.out; omega)⟩
      · rw [hb] at HTO
        have HA2 : Hid ((rs.take (i + 1)).all (mvB rows k a t) = true) := hid (by rw [List.take_succ_eq_append_getElem hlt, List.all_append, hA.out]; simp [hb])
        clear hA hb
        go_wp2_with (go_at_call 77; refine HTO.out.mono ?_; rintro e9 w9 ⟨rfl, m9⟩; have R9 := hid (hR.out.step hlt m9); clear m9)
        go_roundw
        case rel => exact ⟨i + 1, by omega, by go_num, R9, HA2⟩
        case measure => simp [intOf]; omega
    · skip
      have hi2 : i = rs.length := by omega
      subst hi2
      have HNV := HN1
      have HLVV := HLV1
      have HCV := HC1
      have HL : Hid ((hit home.data.toList on.data.toList rs && !rs.all (mvB rows k a t)) = false) := hid (by
        have h := hA.out
        rw [List.take_length] at h
        rw [h]
        simp)
      have HRV : Hid (OwR V1 (.slice (some ⟨g, 0, none⟩) rs.length cr) (if hit home.data.toList on.data.toList rs = true then rs.map (mvR rows k a t) else rs) lo m) := hid (by
        rw [if_pos HHT.out]
        have h := hR.out.rl
        rw [List.take_length, List.drop_length, List.append_nil] at h
        refine ⟨HG.out.2.2.2, some ⟨g, 0, none⟩, cr, by rw [List.length_map], by rw [List.length_map]; exact hr1, hr2, fun _ => ⟨g, rfl, HG.out.1, HG.out.2.1, h.pl, h.at_⟩⟩)
      clear hR hA HBL
      go_wp2_with fail
      go_loopw [56, 9] (fun x _ V' => x = .int .i64 0 ∧ V' = V1) (fun _ _ _ => 0)
      case atStart => exact ⟨rfl, rfl⟩
      case round =>
        obtain ⟨rfl, rfl⟩ := hrel
        obtain ⟨z0, z1, z2, z3, z4, z5, z6, _⟩ := HNV.out
        go_wp2_with fail
        refine bodyPost_end (v := .tuple #[]) (by simp [results, Tryz.results43, go_sem]) rfl ?_
        exact ⟨⟨_, rfl⟩, cd_leaf HCV.out HNV.out HE.out.1 HL.out HRV.out HE.out.2⟩
set_option maxHeartbeats 4000000 in
theorem change_hk (home on : ByteArray) (pr pl : Nat) (rows : Bool) (k a t : Int)
    (k' n' : Int) (t' : List UInt8) (b' : Bool) (e' : Int) (rs : List Rf) (ks : List Ex) (W : World) (p o lo hi m : Nat) (rv : Value) (ao : Option Addr) (cap : Nat)
    (HN : Hid (Nd W p o (.int .i64 k') (.int .i64 n') (.string ⟨t'.toArray⟩) (.bool b') (.int .i64 e') rv (.slice ao ks.length cap))) (HR : Hid (OwR W rv rs lo m)) (HM : Hid (m ≤ hi)) (HC : Hid (ks.length ≤ cap ∧ cap ≤ maxLen))
    (HSZ : Hid (hi ≤ W.heap.size)) (HPO : Hid (p < lo ∨ hi ≤ p)) (HLV : Hid (Lv W pr pl rows k a t)) (HPP : Hid ((pr < lo ∨ hi ≤ pr) ∧ (pl < lo ∨ hi ≤ pl) ∧ pr ≠ p ∧ pl ≠ p))
    (gk mk' : Nat) (hao : ao = some ⟨gk, 0, none⟩) (HKL : Hid (m ≤ gk ∧ gk < mk' ∧ mk' ≤ hi ∧ Pl W gk ∧ Ow.OwL W ks gk 0 mk' hi))
    (IH : Hid (∀ (i : Nat) (h : i < ks.length) (W : World) (p o : Nat) (c0 c1 c2 c3 c4 c5 c6 : Value) (lo hi : Nat), Nd W p o c0 c1 c2 c3 c4 c5 c6 → Ow W ks[i] (.agg #[c0, c1, c2, c3, c4, c5, c6]) lo hi → hi ≤ W.heap.size → (p < lo ∨ hi ≤ p) → Lv W pr pl rows k a t → (pr < lo ∨ hi ≤ pr) → (pl < lo ∨ hi ≤ pl) → pr ≠ p → pl ≠ p →
      Calls Tryz.prog 43 #[.pointer (some ⟨p, o, none⟩), .string home, .string on, .func (.func 77) #[] #[.pointer (some ⟨pr, 0, none⟩), .pointer (some ⟨pl, 0, none⟩)]] W fun e W' => (∃ u, e = .returned u) ∧ Cd home.data.toList on.data.toList (mvB rows k a t) (mvR rows k a t) W W' ks[i] p o lo hi))
    (r0 : Rf) (rs' : List Rf) (HRS : Hid (rs = r0 :: rs'))
    (HH : Hid (orT r0.1 home.data.toList = on.data.toList)) :
    Calls Tryz.prog 43 #[.pointer (some ⟨p, o, none⟩), .string home, .string on, .func (.func 77) #[] #[.pointer (some ⟨pr, 0, none⟩), .pointer (some ⟨pl, 0, none⟩)]] W fun e W' => (∃ u, e = .returned u) ∧ Cd home.data.toList on.data.toList (mvB rows k a t) (mvR rows k a t) W W' (.mk k' n' t' b' e' rs ks) p o lo hi := by
  subst hao
  have hroom : ks.length ≤ 9223372036854775807 := by have h := HC.out; unfold maxLen at h; omega
  obtain ⟨_, ar, cr, hrv, hr1, hr2, hr3⟩ := HR.out
  subst hrv
  have hpos : (0 : Int) < (rs.length : Int) := by rw [HRS.out, List.length_cons]; omega
  obtain ⟨g, rfl, hg1, hg2, hg3, hg4⟩ := hr3 (by omega)
  have hs0 : W.cell? ⟨g, 0, none⟩ = some (.string ⟨r0.1.toArray⟩) := by
    have h0 := hg4 0 (by omega) 0 (.string ⟨r0.1.toArray⟩) (by
      have : rs[0]'(by omega) = r0 := by
        have h := HRS.out
        subst h
        rfl
      rw [this]
      rfl)
    simpa using h0
  have HG : Hid (lo ≤ g ∧ g < m ∧ m ≤ hi ∧ lo ≤ m) := hid ⟨hg1, hg2, HM.out, HR.out.1⟩
  have HO := hid (fun b W => or_any b ⟨r0.1.toArray⟩ home W)
  have hroomr : rs.length ≤ 9223372036854775807 := by unfold maxLen at hr2; omega
  obtain ⟨g0, g1, g2, g3, g4, g5, g6, _⟩ := HN.out
  have hplt : p < W.heap.size := HN.out.pl.lt
  have hglt : g < W.heap.size := hg3.lt
  have qa : Q W (W.alloc (.cells #[.string ⟨r0.1.toArray⟩, .string home] 9)) := (Q.refl _).alloc _
  have HNA := hid (HN.out.on qa)
  have HLA := hid (HLV.out.blk (Q.block qa HLV.out.lt.1) (Q.block qa HLV.out.lt.2))
  have HCA : Hid (Chd W (W.alloc (.cells #[.string ⟨r0.1.toArray⟩, .string home] 9)) p o lo hi) := hid ⟨Qp.of qa, fun j _ => qa.cell HN.out.pl.lt⟩
  have HE : Hid (m ≤ gk ∧ gk < mk' ∧ mk' ≤ hi ∧ ks.length ≤ cap ∧ cap ≤ maxLen ∧ lo ≤ m) := hid ⟨HKL.out.1, HKL.out.2.1, HKL.out.2.2.1, HC.out.1, HC.out.2, HR.out.1⟩
  have hf : (orT r0.1 home.data.toList == on.toList) = true := by rw [(hid (toL on)).out, HH.out]; exact beq_self_eq_true _
  have HHT : Hid (hit home.data.toList on.data.toList rs = true) := hid (by rw [HRS.out]; simp only [hit]; exact decide_eq_true HH.out)
  have HR0 : Hid (Rfc (mvR rows k a t) (W.alloc (.cells #[.string ⟨r0.1.toArray⟩, .string home] 9)) (W.alloc (.cells #[.string ⟨r0.1.toArray⟩, .string home] 9)) rs 0 g) := hid ⟨by rw [List.take_zero, List.map_nil, List.nil_append, List.drop_zero]; exact Rl.on ⟨hg3, hg4⟩ qa, Qp.refl _ _⟩
  obtain ⟨T, hT⟩ : ∃ T, orT r0.1 home.data.toList = T := ⟨_, rfl⟩
  rw [hT] at hf
  have HT : Hid ((⟨T.toArray⟩ : ByteArray) = ⟨(orT (⟨r0.1.toArray⟩ : ByteArray).data.toList home.data.toList).toArray⟩) := hid (by rw [← hT])
  have HQA := hid qa
  clear hg3 hg4 hr3 qa hT
  go_enter Tryz.func43, Tryz.ntmps43
  go_wp2_with (go_at_call 67; refine (HO.out W.heap.size _ (by simp) (by simp)).mono ?_; rintro e9 w9 ⟨rfl, rfl⟩; rw [← HT.out])
  go_loopw [35, 8] (fun x _ V => ∃ i : Nat, i ≤ rs.length ∧ x = .int .i64 (i : Int) ∧ Hid (Rfc (mvR rows k a t) (W.alloc (.cells #[.string ⟨r0.1.toArray⟩, .string home] 9)) V rs i g) ∧ Hid ((rs.take i).all (mvB rows k a t) = true)) (fun x _ _ => rs.length - (intOf x).toNat)
  case atStart => exact ⟨0, Nat.zero_le _, rfl, HR0, hid (by rw [List.take_zero]; rfl)⟩
  case round =>
    obtain ⟨i, hir, rfl, hR, hA⟩ := hrel
    obtain ⟨V1, hV1⟩ : ∃ V1, V1 = wr := ⟨wr, rfl⟩
    subst hV1
    have HBL : Hid (∀ j, j < W.heap.size → j ≠ g → V1.heap[j]? = W.heap[j]?) := hid (fun j hj hne => (hR.out.q.block j (Q.lt HQA.out hj) hne).trans (Q.block HQA.out hj))
    have hpg : p ≠ g := by have := HG.out; have := HPO.out; omega
    have HN1 := hid (HN.out.blk (HBL.out p HN.out.pl.lt hpg))
    have HLV1 := hid (HLV.out.blk (HBL.out pr HLV.out.lt.1 (by have := HG.out; have := HPP.out; omega)) (HBL.out pl HLV.out.lt.2 (by have := HG.out; have := HPP.out; omega)))
    have HC1 : Hid (Chd W V1 p o lo hi) := hid ⟨HCA.out.q.after hR.out.q (fun j _ e => .inr (by have := HG.out; omega)), fun j hj => World.cell?_of_block (HBL.out p HN.out.pl.lt hpg)⟩
    obtain ⟨z0, z1, z2, z3, z4, z5, z6, _⟩ := HN1.out
    by_cases hlt : i < rs.length
    · have HTO := hid (to_any pr pl g (i * 5) rs[i] rows k a t V1 HLV1.out hR.out.rl.pl (hR.out.at_ hlt))
      cases hb : mvB rows k a t rs[i]
      · rw [hb] at HTO
        have HL : Hid ((hit home.data.toList on.data.toList rs && !rs.all (mvB rows k a t)) = true) := hid (by
          rw [HHT.out, Bool.true_and, Bool.not_eq_true']
          rw [List.all_eq_false]
          exact ⟨rs[i], List.getElem_mem hlt, by rw [hb]; simp⟩)
        clear hA hb
        go_wp2_with (go_at_call 77; refine HTO.out.mono ?_; rintro e9 w9 ⟨rfl, m9⟩; have N9 := hid (HN1.out.blk (m9.q.block p HN1.out.pl.lt hpg)); have C9 : Hid (Chd W w9 p o lo hi) := hid ⟨HC1.out.q.after m9.q (fun j _ e => .inr (by have := HG.out; omega)), fun j hj => (World.cell?_of_block (m9.q.block p HN1.out.pl.lt hpg)).trans (HC1.out.c j hj)⟩; clear m9; obtain ⟨v0, v1, v2, v3, v4, v5, v6, vp⟩ := N9.out; have y0 := vp.frozen o; have y1 := vp.frozen (o + 1); have y2 := vp.frozen (o + 2); have y3 := vp.frozen (o + 3); have y4 := vp.frozen (o + 4); have y5 := vp.frozen (o + 5); have y6 := vp.frozen (o + 6); clear vp)
        refine bodyPost_ret (v := .tuple #[]) (by simp [results, Tryz.results43, go_sem]) rfl ?_
        exact ⟨⟨_, rfl⟩, cd_lost C9.out N9.out HL.out (by have := HG.out; omega)⟩
      · rw [hb] at HTO
        have HA2 : Hid ((rs.take (i + 1)).all (mvB rows k a t) = true) := hid (by rw [List.take_succ_eq_append_getElem hlt, List.all_append, hA.out]; simp [hb])
        clear hA hb
        go_wp2_with (go_at_call 77; refine HTO.out.mono ?_; rintro e9 w9 ⟨rfl, m9⟩; have R9 := hid (hR.out.step hlt m9); clear m9)
        go_roundw
        case rel => exact ⟨i + 1, by omega, by go_num, R9, HA2⟩
        case measure => simp [intOf]; omega
    · skip
      have hi2 : i = rs.length := by omega
      subst hi2
      have HNV := HN1
      have HLVV := HLV1
      have HCV := HC1
      have HL : Hid ((hit home.data.toList on.data.toList rs && !rs.all (mvB rows k a t)) = false) := hid (by
        have h := hA.out
        rw [List.take_length] at h
        rw [h]
        simp)
      have HRV : Hid (OwR V1 (.slice (some ⟨g, 0, none⟩) rs.length cr) (if hit home.data.toList on.data.toList rs = true then rs.map (mvR rows k a t) else rs) lo m) := hid (by
        rw [if_pos HHT.out]
        have h := hR.out.rl
        rw [List.take_length, List.drop_length, List.append_nil] at h
        refine ⟨HG.out.2.2.2, some ⟨g, 0, none⟩, cr, by rw [List.length_map], by rw [List.length_map]; exact hr1, hr2, fun _ => ⟨g, rfl, HG.out.1, HG.out.2.1, h.pl, h.at_⟩⟩)
      have HK0 : Hid (Kc home.data.toList on.data.toList (mvB rows k a t) (mvR rows k a t) V1 V1 ks 0 gk mk' hi) := hid (kc_start (HKL.out.2.2.2.2.on (fun j h1 h2 => Bs.of (HBL.out j (by have := HSZ.out; omega) (by have := HKL.out; have := HG.out; omega))) (fun j _ _ => World.cell?_of_block (HBL.out gk HKL.out.2.2.2.1.lt (by have := HKL.out; have := HG.out; omega)))) (HKL.out.2.2.2.1.blk (HBL.out gk HKL.out.2.2.2.1.lt (by have := HKL.out; have := HG.out; omega))))
      clear hR hA HBL
      go_wp2_with fail
      go_loopw [56, 9] (fun x _ V' => ∃ i : Nat, i ≤ ks.length ∧ x = .int .i64 (i : Int) ∧ Hid (Kc home.data.toList on.data.toList (mvB rows k a t) (mvR rows k a t) (V1) V' ks i gk mk' hi)) (fun x _ _ => ks.length - (intOf x).toNat)
      case atStart => exact ⟨0, Nat.zero_le _, rfl, HK0⟩
      case round =>
        obtain ⟨i, hik, rfl, hK⟩ := hrel
        have HNr := hid (HNV.out.blk (hK.out.q.block p HNV.out.pl.lt (fun e => by have := HE.out; have := HPO.out; omega)))
        obtain ⟨z0, z1, z2, z3, z4, z5, z6, _⟩ := HNr.out
        by_cases hlt : i < ks.length
        · obtain ⟨lo1, hi1, d0, d1, d2, d3, d4, d5, d6, b1, b2, b3, b4, b5⟩ := hK.out.kid hlt HE.out.2.1 (Nat.le_trans HSZ.out HCV.out.q.size)
          have HI := hid (IH.out i hlt wr gk (i * 7) d0 d1 d2 d3 d4 d5 d6 lo1 hi1 b3 b4 (by have := hK.out.q.size; have := HCV.out.q.size; have := HSZ.out; omega) (.inl (by have := HE.out; omega)) (HLVV.out.blk (hK.out.q.block pr HLVV.out.lt.1 (fun e => by have := HE.out; have := HPP.out; omega)) (hK.out.q.block pl HLVV.out.lt.2 (fun e => by have := HE.out; have := HPP.out; omega))) (by have := HE.out; have := HPP.out; omega) (by have := HE.out; have := HPP.out; omega) (by have := HE.out; have := HPP.out; omega) (by have := HE.out; have := HPP.out; omega))
          have HB5 := hid b5
          clear b1 b2 b3 b4 b5
          go_wp2_with (go_at_call 43; refine HI.out.mono ?_; rintro e9 w9 ⟨⟨u9, rfl⟩, cd9⟩; obtain ⟨f0, f1, f2, f3, f4, f5, f6, n9, o9⟩ := cd9.ex; have K9 := hid (HB5.out w9 f0 f1 f2 f3 f4 f5 f6 n9 o9 cd9.ch); clear cd9 n9 o9)
          go_roundw
          case rel => first | exact ⟨i + 1, by omega, by go_num, K9⟩ | (refine ⟨_, _, _, _, _, _, _, _, _, _, _, _, _, _, _, ?_, rfl⟩; exact ⟨i + 1, by omega, by go_num, K9⟩)
          case measure => simp [intOf]; omega
        · have hK2 : Hid (Kc home.data.toList on.data.toList (mvB rows k a t) (mvR rows k a t) (V1) wr ks ks.length gk mk' hi) := by
            have : i = ks.length := by omega
            subst this
            exact hK
          clear hK
          go_wp2_with fail
          refine bodyPost_end (v := .tuple #[]) (by simp [results, Tryz.results43, go_sem]) rfl ?_
          exact ⟨⟨_, rfl⟩, cd_kids HCV.out HNV.out HE.out.2.2.2.1 HE.out.2.2.2.2.1 HL.out HRV.out HE.out.1 HE.out.2.1 HE.out.2.2.1 HSZ.out HPO.out hK2.out⟩
theorem change_all (home on : ByteArray) (pr pl : Nat) (rows : Bool) (k a t : Int) : ∀ (s : Nat) (x : Ex) (W : World) (p o : Nat) (c0 c1 c2 c3 c4 c5 c6 : Value) (lo hi : Nat), SizeOf.sizeOf x ≤ s → Nd W p o c0 c1 c2 c3 c4 c5 c6 → Ow W x (.agg #[c0, c1, c2, c3, c4, c5, c6]) lo hi → hi ≤ W.heap.size → (p < lo ∨ hi ≤ p) → Lv W pr pl rows k a t → (pr < lo ∨ hi ≤ pr) → (pl < lo ∨ hi ≤ pl) → pr ≠ p → pl ≠ p →
    Calls Tryz.prog 43 #[.pointer (some ⟨p, o, none⟩), .string home, .string on, .func (.func 77) #[] #[.pointer (some ⟨pr, 0, none⟩), .pointer (some ⟨pl, 0, none⟩)]] W fun e W' => (∃ u, e = .returned u) ∧ Cd home.data.toList on.data.toList (mvB rows k a t) (mvR rows k a t) W W' x p o lo hi := by
  intro s
  induction s with
  | zero =>
    intro x W p o c0 c1 c2 c3 c4 c5 c6 lo hi hs
    cases x with
    | mk k n t b e rs ks => simp at hs
  | succ s ih =>
    intro x W p o c0 c1 c2 c3 c4 c5 c6 lo hi hs hn hx hsz hpo hlv hpr hpl hne1 hne2
    cases x with
    | mk k' n' t' b' e' rs ks =>
      have IH := hid (fun (i : Nat) (h : i < ks.length) (W : World) (p o : Nat) (c0 c1 c2 c3 c4 c5 c6 : Value) (lo hi : Nat) => ih ks[i] W p o c0 c1 c2 c3 c4 c5 c6 lo hi (by have := kid_size (k := k') (n := n') (t := t') (b := b') (e := e') (rs := rs) i h; omega))
      unfold Ow at hx
      obtain ⟨rv, kv, m, hv, hr, hm, ao, cap, hkv, hc1, hc2, hk3⟩ := hx
      simp only [Value.agg.injEq, Array.mk.injEq, List.cons.injEq, and_true] at hv
      obtain ⟨rfl, rfl, rfl, rfl, rfl, rfl, rfl⟩ := hv
      subst hkv
      by_cases hks : ks = []
      · cases hrs : rs with
        | nil =>
          subst hrs
          exact change_no0 home on pr pl rows k a t k' n' t' b' e' _ ks W p o lo hi m _ ao cap (hid hn) (hid hr) (hid hm) (hid ⟨hc1, hc2⟩) (hid hsz) (hid hpo) (hid hlv) (hid ⟨hpr, hpl, hne1, hne2⟩) rfl hks
        | cons r0 rs' =>
          rw [← hrs]
          by_cases hh : orT r0.1 home.data.toList = on.data.toList
          · exact change_h0 home on pr pl rows k a t k' n' t' b' e' rs ks W p o lo hi m _ ao cap (hid hn) (hid hr) (hid hm) (hid ⟨hc1, hc2⟩) (hid hsz) (hid hpo) (hid hlv) (hid ⟨hpr, hpl, hne1, hne2⟩) r0 rs' (hid hrs) (hid hh) hks
          · exact change_nh0 home on pr pl rows k a t k' n' t' b' e' rs ks W p o lo hi m _ ao cap (hid hn) (hid hr) (hid hm) (hid ⟨hc1, hc2⟩) (hid hsz) (hid hpo) (hid hlv) (hid ⟨hpr, hpl, hne1, hne2⟩) r0 rs' (hid hrs) (hid hh) hks
      · obtain ⟨gk, mk', hao, b1, b2, b3, b4⟩ := hk3 hks
        have b5 := Ow.OwL.le _ _ _ _ _ b4
        cases hrs : rs with
        | nil =>
          subst hrs
          exact change_nok home on pr pl rows k a t k' n' t' b' e' _ ks W p o lo hi m _ ao cap (hid hn) (hid hr) (hid hm) (hid ⟨hc1, hc2⟩) (hid hsz) (hid hpo) (hid hlv) (hid ⟨hpr, hpl, hne1, hne2⟩) gk mk' hao (hid ⟨b1, b2, b5, b3, b4⟩) IH rfl
        | cons r0 rs' =>
          rw [← hrs]
          by_cases hh : orT r0.1 home.data.toList = on.data.toList
          · exact change_hk home on pr pl rows k a t k' n' t' b' e' rs ks W p o lo hi m _ ao cap (hid hn) (hid hr) (hid hm) (hid ⟨hc1, hc2⟩) (hid hsz) (hid hpo) (hid hlv) (hid ⟨hpr, hpl, hne1, hne2⟩) gk mk' hao (hid ⟨b1, b2, b5, b3, b4⟩) IH r0 rs' (hid hrs) (hid hh)
          · exact change_nhk home on pr pl rows k a t k' n' t' b' e' rs ks W p o lo hi m _ ao cap (hid hn) (hid hr) (hid hm) (hid ⟨hc1, hc2⟩) (hid hsz) (hid hpo) (hid hlv) (hid ⟨hpr, hpl, hne1, hne2⟩) gk mk' hao (hid ⟨b1, b2, b5, b3, b4⟩) IH r0 rs' (hid hrs) (hid hh)
end Go.Proofs.YthebfhdpofhmpaaGreatDoor
