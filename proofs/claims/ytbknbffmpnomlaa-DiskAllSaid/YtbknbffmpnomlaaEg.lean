/- The reference's Cut. -/
import Derived.Test.YtbknbffmpnomlaaEh
namespace Go.Proofs.Ytbknbffmpnomlaa
open Go.RowKit
set_option linter.unusedVariables false
set_option linter.unusedSimpArgs false

theorem cst_mid {w W0 Wc w5 : World} {qo : Nat} {N : Int} {ov : Value} {T : List Rn} (hb : Bk W0 29 qo #[ov, .int .i64 N]) (ho : Own er 36 4 w.heap.size W0 ov T) (q4 : Q W0 Wc) (hg : Wc.grownBy w5 ov.ownBlock) : Bk w5 29 qo #[ov, .int .i64 N] :=
  (hb.on q4).same (hg.block qo (q4.lt hb.l) (Ne.symm (ho.nbk hb (by decide))))
theorem cst_add {w W0 Wc w5 : World} {qo : Nat} {N : Int} {ov v5 : Value} {T : List Rn} {d : Rn} (hb : Bk W0 29 qo #[ov, .int .i64 N]) (ho : Own er 36 4 w.heap.size W0 ov T) (hq : Q w W0) (hqo : w.heap.size ≤ qo) (q4 : Q W0 Wc) (ho5 : Own er 36 4 w.heap.size w5 v5 (T ++ [d])) (hg : Wc.grownBy w5 ov.ownBlock) :
    Bk (w5.setCell ⟨qo, 0, none⟩ v5) 29 qo #[v5, .int .i64 N] ∧ Own er 36 4 w.heap.size (w5.setCell ⟨qo, 0, none⟩ v5) v5 (T ++ [d]) ∧ Q w (w5.setCell ⟨qo, 0, none⟩ v5) := by
  have hm := cst_mid hb ho q4 hg
  refine ⟨hm.put 0 v5, ho5.same (fun g hg' => heap_set _ _ _ _ _ (fun e => ho5.nbk hm (by decide) (by rw [hg', e]))), ?_⟩
  exact Q.setCell (Below.grown (hq.trans (Q.trans (Q.refl _) q4)) hg (Nat.le_trans hq.size q4.size) (fun j hj => ho.blk j hj)) hqo v5
/-- where the loop stands: n' units are still to come -/
structure Cst (w W : World) (R : List Rn) (N k n' qo : Nat) (T : List Rn) : Prop where
  b : ∃ ov, Bk W 29 qo #[ov, .int .i64 N] ∧ Own er 36 4 w.heap.size W ov T
  m : T.map Rn.p ++ rcut ((R.drop k).map Rn.p) n' = rcut (R.map Rn.p) N
  rb : Rb w T
  l : T.length ≤ k
  q : Q w W
  h : w.heap.size ≤ qo
  bl : ∀ e ∈ T, ∀ g, (sv e.v).ownBlock = some g → ∃ d ∈ R, (sv d.v).ownBlock = some g
theorem Rb.snoc {W : World} {R : List Rn} {d : Rn} (h : Rb W R) (hd : Sb W (sv d.v) d.L ∧ d.L.length ≤ 20) : Rb W (R ++ [d]) := fun e he => by
  rcases List.mem_append.1 he with he | he
  · exact h e he
  · obtain rfl : e = d := by simpa using he
    exact hd
theorem Cst.next {w W W' : World} {R : List Rn} {N k n' qo n2 : Nat} {T : List Rn} {v5 : Value} {d' : Rn} (h : Cst w W R N k n' qo T) (hk : k < R.length) (hn : n' ≠ 0) (hb : Bk W' 29 qo #[v5, .int .i64 N]) (ho : Own er 36 4 w.heap.size W' v5 (T ++ [d'])) (hq : Q w W') (hd : Sb w (sv d'.v) d'.L ∧ d'.L.length ≤ 20)
    (hm : rcut ((R[k]).p :: (R.drop (k + 1)).map Rn.p) n' = d'.p :: rcut ((R.drop (k + 1)).map Rn.p) n2) (hbl : (sv d'.v).ownBlock = (sv (R[k]).v).ownBlock) : Cst w W' R N (k + 1) n2 qo (T ++ [d']) := by
  refine ⟨⟨v5, hb, ho⟩, ?_, h.rb.snoc hd, ?_, hq, h.h, fun e he g hg => ?_⟩
  · rw [← h.m, List.drop_eq_getElem_cons hk, List.map_cons, hm, List.map_append, List.append_assoc]
    rfl
  · rw [List.length_append]
    have := h.l
    show _ + 1 ≤ k + 1
    omega
  · rcases List.mem_append.1 he with he | he
    · exact h.bl e he g hg
    · obtain rfl : e = d' := by simpa using he
      exact ⟨R[k], List.getElem_mem hk, by rw [← hbl]; exact hg⟩
theorem sb_to2 {w0 : World} {v : Value} {D : List UInt8} (h : Sb w0 v D) (k : Nat) (hk : k ≤ D.length) : ∃ a c, Hid (∀ W, (Instr.sliceAt 30 v none (some (.int .i64 k)) none).run Try.prog W = .ok (.slice a k c) W) ∧ Sb w0 (.slice a k c) (D.take k) ∧ (Value.slice a k c).ownBlock = v.ownBlock := by
  obtain ⟨ao, cap, rfl, h1, h2⟩ := h.s.len
  refine ⟨_, _, hid (fun W => run_to W ao D.length cap k hk h1 h2), ⟨cut_to h.s k hk, fun m c e => ?_⟩, ?_⟩
  · injection e with e1 e2 e3
    have := h.n D.length cap
    by_cases hc : cap = 0
    · omega
    · rw [if_neg hc] at e1
      cases ao with
      | none => have := this rfl; omega
      | some x => cases e1
  · by_cases hc : cap = 0
    · rw [if_pos hc]
      cases ao <;> rfl
    · rw [if_neg hc]
      cases ao <;> rfl
theorem Cst.done {w W : World} {R : List Rn} {N k n' qo : Nat} {T : List Rn} (h : Cst w W R N k n' qo T) (hk : R.length ≤ k ∨ n' = 0) : T.map Rn.p = rcut (R.map Rn.p) N := by
  rw [← h.m]
  rcases hk with hk | rfl
  · rw [List.drop_eq_nil_of_le hk]
    simp [rcut]
  · rw [rcut_zero, List.append_nil]
theorem rcut_a (r : Re) (l : List Re) {n : Nat} (hn : n ≠ 0) (hk : r.k ≠ 0) : rcut (r :: l) n = r :: rcut l (n - 1) := by
  rw [rcut_cons, if_neg hn, if_neg hk]
theorem rcut_b (r : Re) (l : List Re) {n : Nat} (hn : n ≠ 0) (hk : r.k = 0) (hl : r.L.length ≤ n) : rcut (r :: l) n = r :: rcut l (n - r.L.length) := by
  rw [rcut_cons, if_neg hn, if_pos hk, List.take_of_length_le hl]
theorem rcut_c (r : Re) (l : List Re) {n : Nat} (hn : n ≠ 0) (hk : r.k = 0) (hl : n ≤ r.L.length) : rcut (r :: l) n = ⟨r.k, r.x, r.y, r.L.take n⟩ :: rcut l 0 := by
  rw [rcut_cons, if_neg hn, if_pos hk, List.length_take, Nat.min_eq_left hl, Nat.sub_self]
set_option maxRecDepth 100000 in
set_option maxHeartbeats 8000000 in
theorem rcut_any (w : World) (q : Nat) (s : Nat) (m : Int) (v : Value) (R : List Rn) (hb : Bk w 29 q #[v, .int .i64 s]) (hs : Sl er 4 w v R) (hR : R.length ≤ 100) (hv : Rb w R) (N : Nat) (hsu : s ≤ ru (R.map Rn.p)) (hN : (N : Int) = min (max m s) (ru (R.map Rn.p))) :
    Calls Try.prog 16 #[.pointer (some ⟨q, 0, none⟩), .int .i64 m] w fun e W' => ∃ qo T k n', e = .returned (.pointer (some ⟨qo, 0, none⟩)) ∧ Cst w W' R N k n' qo T ∧ T.map Rn.p = rcut (R.map Rn.p) N ∧ k ≤ R.length := by
  have HU := hid (runits_any w q s v R hb hs (by omega) (rb_n hv))
  have hru : ru (R.map Rn.p) ≤ 1000000 := Nat.le_trans (ru1_le R (fun d hd => (rb_n hv d hd).2)) (by omega)
  obtain ⟨ao, cap, rfl, h1, h2⟩ := hs.len
  have HB := hid hb
  have HS := hid hs
  have HV := hid hv
  have c1 : w.cell? ⟨q, 1, none⟩ = some (.int .i64 s) := hb.c 1 _ rfl
  clear hs hb hv
  generalize hu : ru (R.map Rn.p) = u at HU hsu hN hru
  have HUU := hid hu
  clear hu
  go_enter Try.func16, Try.ntmps16
  go_upto_if 13 with fail
  go_cut [1] from 14 to 17 (fun n W => n = .int .i64 (max m s) ∧ Hid (W = w))
  case first =>
    by_cases hms : m < s
    · go_wp2_with fail
      go_meet
      exact ⟨by rw [show max m (s : Int) = s by omega], hid rfl⟩
    · go_wp2_with fail
      go_meet
      exact ⟨by rw [show max m (s : Int) = m by omega], hid rfl⟩
  case rest =>
    obtain ⟨rfl, hw⟩ := hcut
    rw [hw.out]
    clear hw
    generalize hm1 : max m (s : Int) = m1 at hN ⊢
    clear hm1
    go_upto_if 21 with (go_at_call 14; refine HU.out.mono ?_; rintro e9 w1 ⟨rfl, hw1⟩; subst w1)
    go_cut [1] from 21 to 23 (fun n W => n = .int .i64 N ∧ Hid (W = w))
    case first =>
      by_cases hms : (u : Int) < m1
      · go_wp2_with (go_at_call 14; refine HU.out.mono ?_; rintro e9 w1 ⟨rfl, hw1⟩; subst w1)
        go_meet
        exact ⟨by rw [hN, show min m1 (u : Int) = u by omega], hid rfl⟩
      · go_wp2_with fail
        go_meet
        exact ⟨by rw [hN, show min m1 (u : Int) = m1 by omega], hid rfl⟩
    case rest =>
      obtain ⟨rfl, hw⟩ := hcut
      rw [hw.out]
      clear hw
      have hNb : (N : Int) ≤ 1000000 := by omega
      clear hN
      have HB0 : Hid (Bk (w.alloc (.cells #[.slice none 0 0, .int .i64 N] 29)) 29 w.heap.size #[.slice none 0 0, .int .i64 N]) := hid (bk_new _ _ _)
      have HC0 : Hid (Cst w (w.alloc (.cells #[.slice none 0 0, .int .i64 N] 29)) R N 0 N w.heap.size []) := hid ⟨⟨_, HB0.out, own_nil _⟩, rfl, fun d hd => (by cases hd), Nat.le_refl _, (Q.refl w).alloc _, Nat.le_refl _, fun d hd => (by cases hd)⟩
      go_wp2_with fail
      go_loopw [1, 6] (fun n i wr => ∃ (k n' : Nat) (T : List Rn), k ≤ R.length ∧ i = .int .i64 k ∧ n = .int .i64 n' ∧ n' ≤ 1000000 ∧ Hid (Cst w wr R N k n' w.heap.size T)) (fun _ i _ => R.length - (intOf i).toNat)
      case atStart => exact ⟨0, N, [], Nat.zero_le _, rfl, rfl, by omega, HC0⟩
      case round =>
        obtain ⟨k, n', T, hk, rfl, rfl, hn1, HC⟩ := hrel
        have c0 : wr.cell? ⟨q, 0, none⟩ = some (.slice ao R.length cap) := (HB.out.on HC.out.q).c 0 _ rfl
        by_cases hlt : k < R.length
        · by_cases hn0 : n' = 0
          · subst hn0
            have hi : (k : Int) < (R.length : Int) := by omega
            go_wp2_with fail
            go_ret
            exact ⟨_, T, k, 0, rfl, HC.out, HC.out.done (.inr rfl), hk⟩
          · have hn : (0 : Int) < (n' : Int) := by omega
            have hi : (k : Int) < (R.length : Int) := by omega
            -- BODY
            have HS2 := HS.out.on HC.out.q
            obtain ⟨g, off, cap', e, _, _, hat⟩ := HS2.at hlt
            injection e with e1 e2 e3
            subst e1 e3
            have hv := HV.out R[k] (List.getElem_mem hlt)
            generalize hrk : R[k] = d at hat hv
            have HRK := hid hrk
            obtain ⟨dk, dx, dy, ⟨da, dn, dc⟩, dL⟩ := d
            have x0 : wr.cell? ⟨g, off + k * 4, none⟩ = some (.int .i64 dk) := hat 0 _ rfl
            have x1 : wr.cell? ⟨g, off + k * 4 + 1, none⟩ = some (.string dx) := hat 1 _ rfl
            have x2 : wr.cell? ⟨g, off + k * 4 + 2, none⟩ = some (.string dy) := hat 2 _ rfl
            obtain ⟨dao, dcap, de, hcap1, hcap2⟩ := hv.1.s.len
            have de : Value.slice da dn dc = .slice dao dL.length dcap := de
            injection de with e4 e5 e6
            subst e4 e5 e6
            have x3 : wr.cell? ⟨g, off + k * 4 + 3, none⟩ = some (.slice da dL.length dc) := hat 3 _ rfl
            have HVd := hid hv
            obtain ⟨ov, hbo, hot⟩ := HC.out.b
            have hq1 : Q wr (wr.alloc (.cells #[.int .i64 dk, .string dx, .string dy, .slice da dL.length dc] 36)) := (Q.refl wr).alloc _
            have HX1 := hid (bk_new wr 36 #[.int .i64 dk, .string dx, .string dy, .slice da dL.length dc])
            have HBo := hid (hbo.on hq1)
            have HOt := hid (hot.on hq1)
            have HQ1 := hid (HC.out.q.trans (Q.trans (Q.refl _) hq1))
            clear hat hv HS2 hq1 hrk
            by_cases hk0 : dk = 0
            · subst hk0
              by_cases hgt : n' < dL.length
              · have hgt' : (n' : Int) < (dL.length : Int) := by omega
                obtain ⟨ta, tc, htr, htb, hto⟩ := sb_to2 HVd.out.1 n' (Nat.le_of_lt hgt)
                have HTO := hid hto
                have htr : Hid (∀ W, (Instr.sliceAt 30 (.slice da dL.length dc) none (some (.int .i64 n')) none).run Try.prog W = .ok (.slice ta n' tc) W) := htr
                have r := htr.out
                have HTB := hid htb
                clear htr htb hto
                go_upto_region 16 with fail
                clear r
                have HX1 := hid (bk_new wr 36 #[.int .i64 0, .string dx, .string dy, .slice ta n' tc])
                have HBo := hid (hbo.on ((Q.refl wr).alloc (.cells #[.int .i64 0, .string dx, .string dy, .slice ta n' tc] 36)))
                have HOt := hid (hot.on ((Q.refl wr).alloc (.cells #[.int .i64 0, .string dx, .string dy, .slice ta n' tc] 36)))
                have HQ1 := hid (HC.out.q.trans (Q.trans (Q.refl _) ((Q.refl wr).alloc (.cells #[.int .i64 0, .string dx, .string dy, .slice ta n' tc] 36))))
                generalize wr.alloc (.cells #[.int .i64 0, .string dx, .string dy, .slice ta n' tc] 36) = W1 at HX1 HBo HOt HQ1 ⊢
                clear x0 x1 x2 x3 c0
                have HM : Hid (∀ l, rcut ((R[k]).p :: l) n' = (Rn.p ⟨0, dx, dy, ⟨ta, n', tc⟩, dL.take n'⟩) :: rcut l (0)) := hid (fun l => by rw [HRK.out]; exact rcut_c _ _ hn0 rfl (Nat.le_of_lt hgt))
                have HBL : Hid ((sv ⟨ta, n', tc⟩).ownBlock = (sv (R[k]).v).ownBlock) := hid (by rw [HRK.out]; exact HTO.out)
                have o0 : W1.cell? ⟨w.heap.size, 0, none⟩ = some ov := HBo.out.c 0 _ rfl
                have o0a : (W1.alloc (.cells #[.int .i64 0, .string dx, .string dy, .slice ta n' tc] 36)).cell? ⟨w.heap.size, 0, none⟩ = some ov := (HBo.out.on ((Q.refl W1).alloc _)).c 0 _ rfl
                have z0 : W1.cell? ⟨wr.heap.size, 0, none⟩ = some (.int .i64 0) := HX1.out.c 0 _ rfl
                have z1 : W1.cell? ⟨wr.heap.size, 1, none⟩ = some (.string dx) := HX1.out.c 1 _ rfl
                have z2 : W1.cell? ⟨wr.heap.size, 2, none⟩ = some (.string dy) := HX1.out.c 2 _ rfl
                have z3 : W1.cell? ⟨wr.heap.size, 3, none⟩ = some (.slice ta n' tc) := HX1.out.c 3 _ rfl
                go_region_law (refine step_done rfl _ _ rfl w.heap.size _ T rfl ((HOt.out.alloc _).on ((Q.refl _).drew)) ⟨0, dx, dy, ⟨ta, n', tc⟩, dL.take n'⟩ _ rfl ((bk_new W1 36 _).on ((Q.refl _).drew)) (by have := HC.out.l; omega) (by have := HQ1.out.size; simp; omega) ?_
                               intro v5 w5 ho5 hg5 _
                               obtain ⟨va5, vn5, vc5⟩ := v5
                               have hmid := cst_mid (w := w) HBo.out HOt.out (((Q.refl W1).alloc _).drew) hg5
                               have HA := hid (cst_add (w := w) HBo.out HOt.out HQ1.out (Nat.le_refl _) (((Q.refl W1).alloc _).drew) ho5 hg5)
                               have f5 := hmid.f 0
                               have c5 : w5.cell? ⟨w.heap.size, 0, none⟩ = some ov := hmid.c 0 _ rfl
                               clear hmid ho5 hg5
                               unfold sv at HA ⊢)
                all_goals (go_wp2_with fail)
                all_goals (refine ⟨⟨k + 1, 0, _, by omega, by go_num, ?_, by omega, hid (HC.out.next hlt hn0 HA.out.1 HA.out.2.1 HA.out.2.2 ⟨HTB.out, by show (dL.take n').length ≤ 20; have h20 : dL.length ≤ 20 := HVd.out.2; rw [List.length_take]; omega⟩ ?_ HBL.out)⟩, ?_⟩)
                all_goals first
                  | (simp [intOf]; omega)
                  | (exact HM.out _)
                  | (congr 1; omega)
                  | (rfl)
              · have hgt' : ¬ (n' : Int) < (dL.length : Int) := by omega
                go_upto_region 16 with fail
                generalize wr.alloc (.cells #[.int .i64 0, .string dx, .string dy, .slice da dL.length dc] 36) = W1 at HX1 HBo HOt HQ1 ⊢
                clear x0 x1 x2 x3 c0
                have HM : Hid (∀ l, rcut ((R[k]).p :: l) n' = (Rn.p ⟨0, dx, dy, ⟨da, dL.length, dc⟩, dL⟩) :: rcut l (n' - dL.length)) := hid (fun l => by rw [HRK.out]; exact rcut_b _ _ hn0 rfl (by show dL.length ≤ n'; omega))
                have HBL : Hid ((sv ⟨da, dL.length, dc⟩).ownBlock = (sv (R[k]).v).ownBlock) := hid (by rw [HRK.out])
                have o0 : W1.cell? ⟨w.heap.size, 0, none⟩ = some ov := HBo.out.c 0 _ rfl
                have o0a : (W1.alloc (.cells #[.int .i64 0, .string dx, .string dy, .slice da dL.length dc] 36)).cell? ⟨w.heap.size, 0, none⟩ = some ov := (HBo.out.on ((Q.refl W1).alloc _)).c 0 _ rfl
                have z0 : W1.cell? ⟨wr.heap.size, 0, none⟩ = some (.int .i64 0) := HX1.out.c 0 _ rfl
                have z1 : W1.cell? ⟨wr.heap.size, 1, none⟩ = some (.string dx) := HX1.out.c 1 _ rfl
                have z2 : W1.cell? ⟨wr.heap.size, 2, none⟩ = some (.string dy) := HX1.out.c 2 _ rfl
                have z3 : W1.cell? ⟨wr.heap.size, 3, none⟩ = some (.slice da dL.length dc) := HX1.out.c 3 _ rfl
                go_region_law (refine step_done rfl _ _ rfl w.heap.size _ T rfl ((HOt.out.alloc _).on ((Q.refl _).drew)) ⟨0, dx, dy, ⟨da, dL.length, dc⟩, dL⟩ _ rfl ((bk_new W1 36 _).on ((Q.refl _).drew)) (by have := HC.out.l; omega) (by have := HQ1.out.size; simp; omega) ?_
                               intro v5 w5 ho5 hg5 _
                               obtain ⟨va5, vn5, vc5⟩ := v5
                               have hmid := cst_mid (w := w) HBo.out HOt.out (((Q.refl W1).alloc _).drew) hg5
                               have HA := hid (cst_add (w := w) HBo.out HOt.out HQ1.out (Nat.le_refl _) (((Q.refl W1).alloc _).drew) ho5 hg5)
                               have f5 := hmid.f 0
                               have c5 : w5.cell? ⟨w.heap.size, 0, none⟩ = some ov := hmid.c 0 _ rfl
                               clear hmid ho5 hg5
                               unfold sv at HA ⊢)
                all_goals (go_wp2_with fail)
                all_goals (refine ⟨⟨k + 1, n' - dL.length, _, by omega, by go_num, ?_, by omega, hid (HC.out.next hlt hn0 HA.out.1 HA.out.2.1 HA.out.2.2 ⟨HVd.out.1, HVd.out.2⟩ ?_ HBL.out)⟩, ?_⟩)
                all_goals first
                  | (simp [intOf]; omega)
                  | (exact HM.out _)
                  | (congr 1; omega)
                  | (rfl)
            · go_upto_region 11 with fail
              generalize wr.alloc (.cells #[.int .i64 dk, .string dx, .string dy, .slice da dL.length dc] 36) = W1 at HX1 HBo HOt HQ1 ⊢
              clear x0 x1 x2 x3 c0
              have HM : Hid (∀ l, rcut ((R[k]).p :: l) n' = (Rn.p ⟨dk, dx, dy, ⟨da, dL.length, dc⟩, dL⟩) :: rcut l (n' - 1)) := hid (fun l => by rw [HRK.out]; exact rcut_a _ _ hn0 hk0)
              have HBL : Hid ((sv ⟨da, dL.length, dc⟩).ownBlock = (sv (R[k]).v).ownBlock) := hid (by rw [HRK.out])
              have o0 : W1.cell? ⟨w.heap.size, 0, none⟩ = some ov := HBo.out.c 0 _ rfl
              have o0a : (W1.alloc (.cells #[.int .i64 dk, .string dx, .string dy, .slice da dL.length dc] 36)).cell? ⟨w.heap.size, 0, none⟩ = some ov := (HBo.out.on ((Q.refl W1).alloc _)).c 0 _ rfl
              have z0 : W1.cell? ⟨wr.heap.size, 0, none⟩ = some (.int .i64 dk) := HX1.out.c 0 _ rfl
              have z1 : W1.cell? ⟨wr.heap.size, 1, none⟩ = some (.string dx) := HX1.out.c 1 _ rfl
              have z2 : W1.cell? ⟨wr.heap.size, 2, none⟩ = some (.string dy) := HX1.out.c 2 _ rfl
              have z3 : W1.cell? ⟨wr.heap.size, 3, none⟩ = some (.slice da dL.length dc) := HX1.out.c 3 _ rfl
              go_region_law (refine step_done rfl _ _ rfl w.heap.size _ T rfl ((HOt.out.alloc _).on ((Q.refl _).drew)) ⟨dk, dx, dy, ⟨da, dL.length, dc⟩, dL⟩ _ rfl ((bk_new W1 36 _).on ((Q.refl _).drew)) (by have := HC.out.l; omega) (by have := HQ1.out.size; simp; omega) ?_
                             intro v5 w5 ho5 hg5 _
                             obtain ⟨va5, vn5, vc5⟩ := v5
                             have hmid := cst_mid (w := w) HBo.out HOt.out (((Q.refl W1).alloc _).drew) hg5
                             have HA := hid (cst_add (w := w) HBo.out HOt.out HQ1.out (Nat.le_refl _) (((Q.refl W1).alloc _).drew) ho5 hg5)
                             have f5 := hmid.f 0
                             have c5 : w5.cell? ⟨w.heap.size, 0, none⟩ = some ov := hmid.c 0 _ rfl
                             clear hmid ho5 hg5
                             unfold sv at HA ⊢)
              all_goals (go_wp2_with fail)
              all_goals (refine ⟨⟨k + 1, n' - 1, _, by omega, by go_num, ?_, by omega, hid (HC.out.next hlt hn0 HA.out.1 HA.out.2.1 HA.out.2.2 ⟨HVd.out.1, HVd.out.2⟩ ?_ HBL.out)⟩, ?_⟩)
              all_goals first
                | (simp [intOf]; omega)
                | (exact HM.out _)
                | (congr 1; omega)
                | (rfl)
        · obtain rfl : k = R.length := by omega
          go_wp2_with fail
          go_ret
          exact ⟨_, T, _, n', rfl, HC.out, HC.out.done (.inl (Nat.le_refl _)), Nat.le_refl _⟩
end Go.Proofs.Ytbknbffmpnomlaa
