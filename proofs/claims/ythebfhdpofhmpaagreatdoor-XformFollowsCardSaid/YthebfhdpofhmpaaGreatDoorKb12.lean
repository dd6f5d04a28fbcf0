/- counterpanelaw18.XformFollows, walked; Slices of lines and o. -/
import Derived.Test.YthebfhdpofhmpaaGreatDoorKb11
import Derived.Test.YthebfhdpofhmpaaGreatDoorKb07
import Derived.ChangeOld
import Derived.DataReads
set_option linter.unusedVariables false
set_option linter.unusedSimpArgs false
set_option maxRecDepth 100000
set_option maxHeartbeats 8000000
namespace Go.Proofs.YthebfhdpofhmpaaGreatDoor
open Go.RowKit
theorem info28f : (Tryz.prog.info? 28).map (·.size) = some 3 := by kernel_rfl
theorem ln_in {r c : Int} (h : (lnB r && lnB c) = true) : 0 ≤ r ∧ 0 ≤ c ∧ r < 2199023255552 ∧ c < 2199023255552 := by
  rw [Bool.and_eq_true] at h
  unfold lnB at h
  rw [decide_eq_true_eq, decide_eq_true_eq] at h
  omega
theorem ln_out {r c : Int} (h : ¬ (lnB r && lnB c) = true) : ¬ (0 ≤ r ∧ 0 ≤ c ∧ r < 2199023255552 ∧ c < 2199023255552) := by
  intro k
  apply h
  rw [Bool.and_eq_true]
  unfold lnB
  rw [decide_eq_true_eq, decide_eq_true_eq]
  omega
theorem Bk.grown {W W' : World} {t : TypeId} {q : Nat} {cs : Array Value} {row : Option Nat} (h : Bk W t q cs) (g : W.grownBy W' row) (hn : row ≠ some q) : Bk W' t q cs := ⟨(g.block q h.l (fun e => hn e.symm)).trans h.h⟩
set_option maxHeartbeats 16000000 in
theorem follows_near (row col : Int) (vl vr : Value) (ls : List L3) (rs : List Bool) (w : World) (hg : Gd w) (hl : Sl le 3 w vl ls) (hr : Sl be 1 w vr rs) (h0 : 0 ≤ row) (h1 : 0 ≤ col) (h2 : row ≤ 549755813888) (h3 : col ≤ 549755813888) :
    Calls Tryz.prog 3 #[.int .i64 row, .int .i64 col, vl, vr] w fun e V' => e = .returned (.bool true) ∧ Q w V' := by
  have HB := hid (begun_any w hg)
  have HG := hid hg
  have HL := hid hl
  have HR := hid hr
  obtain ⟨i0, HI⟩ := inf_of info35y
  have HI := hid HI
  have hx0 : RC S0 (so 1 S0 row col 0 0 0) := ⟨row, col, rfl, decide_eq_true (by omega), decide_eq_true (by omega)⟩
  have HBt := hid (fun V va vb bs (q : Q w V) (ha : Sl Rv.L 23 V va [so 1 S0 row col 0 0 0]) (hb : Sl Rv.L 23 V vb bs) (hn : bs.length ≤ 1000) (hy : ∀ y ∈ bs, RL S0 y) => bat_so (same := true) (sh := S0) (sh2 := S0) (fun _ => rfl) (fun h => absurd h (by decide)) (by decide) (by decide) id_S0 id_S0 [so 1 S0 row col 0 0 0] bs va vb false V V (hg.on q) ha hb (Q.refl _) (by simp) hn (fun x h => by rw [List.mem_singleton.1 h]; exact hx0) hy)
  have HStart := hid (rel_start row col (decide_eq_true (by omega)) (decide_eq_true (by omega)))
  obtain ⟨lo, lc, rfl, l1, l2⟩ := hl.len
  obtain ⟨ro, rc, rfl, r1, r2⟩ := hr.len
  have hll : ls.length ≤ 9223372036854775807 := Nat.le_trans l1 (by unfold maxLen at l2; omega)
  have hrl : rs.length ≤ 9223372036854775807 := Nat.le_trans r1 (by unfold maxLen at r2; omega)
  have hn0 : ¬ row < 0 := by omega
  have hn1 : ¬ col < 0 := by omega
  have hn2 : ¬ 549755813888 < row := by omega
  have hn3 : ¬ 549755813888 < col := by omega
  clear hg hl hr l1 l2 r1 r2 h0 h1 h2 h3
  generalize hX : so 1 S0 row col 0 0 0 = x0 at HBt HStart
  have HX := hid hX
  clear hX hx0
  go_enter Tryz.func3, Tryz.ntmps3
  go_wp2_with (go_at_call 6; refine HB.out.mono ?_; rintro e w1 ⟨rfl, q1⟩; have Q1 := hid q1; clear q1)
  go_loopw [10, 11, 12, 13] (fun o a b s W => ∃ (i : Nat) (bs : List Rv) (r c : Int), i ≤ ls.length ∧ i ≤ 8 ∧ s = .int .i64 i ∧ a = .int .i64 r ∧ b = .int .i64 c ∧ Hid (bs.length ≤ i) ∧ Hid (∀ y ∈ bs, RL S0 y) ∧ Hid (Own Rv.L 40 23 w1.heap.size W o bs) ∧ Hid (Rel (pas (stp true) x0 bs) r c) ∧ Hid (Q w1 W)) (fun _ _ _ s _ => ls.length - (intOf s).toNat)
  case atStart => exact ⟨0, [], row, col, Nat.zero_le _, by decide, rfl, rfl, rfl, hid (Nat.le_refl _), hid (fun y h => absurd h (by simp)), hid (own_nil _), HStart, hid (Q.refl _)⟩
  case round =>
    obtain ⟨i, bs, r, c, hi, hi8, rfl, rfl, rfl, HBL, HRL, HOW, HRel, HQ⟩ := hrel
    by_cases hlt : i < ls.length ∧ i < 8
    · obtain ⟨hl1, hl2⟩ := hlt
      have hc1 : (i : Int) < (ls.length : Int) := by omega
      have hc2 : (i : Int) < 8 := by omega
      have HI8 := hid hl2
      obtain ⟨g, off, cap', e, _, _, hcc⟩ := HL.out.at hl1
      cases e
      obtain ⟨l, hlx⟩ : ∃ l, ls[i] = l := ⟨_, rfl⟩
      rw [hlx] at hcc
      have HRg := hid (fun W (q : Q w1 W) => show W.rangeAt g (off + i * 3) (le l) from fun j u hu => (hcc.on (Q1.out.trans q)) j u hu)
      clear hcc hlx
      have HMy := hid (fun V => ref_may l V)
      have HIx := hid (fun j V => ref_ix l j V)
      obtain ⟨mb, hmb⟩ : ∃ mb, L.mayB l.1 l.2.1 l.2.2 = mb := ⟨_, rfl⟩
      have HMB := hid hmb
      rw [hmb] at HMy
      clear hmb
      cases mb with
      | false =>
        go_wp2_with (first
          | (with_reducible refine wpList_load_mid (by with_unfolding_all rfl) 28 _ (by with_unfolding_all rfl) g (off + i * 3) (by with_unfolding_all rfl) (le l) _ (HRg.out wr HQ.out) Tryz.underlying28 (by with_unfolding_all rfl) (by with_unfolding_all exact info28f) ?_)
          | (go_at_call 7; refine (HMy.out _).mono ?_; rintro e9 w2 ⟨rfl, q9⟩; have HQ2 := hid (HQ.out.trans q9); have HOW2 := hid (HOW.out.on q9); clear q9))
        go_roundw
        case rel => exact ⟨i + 1, bs, r, c, by omega, by omega, by go_num, rfl, rfl, hid (Nat.le_succ_of_le HBL.out), HRL, HOW2, HRel, HQ2⟩
        case measure => simp [intOf]; omega
      | true =>
        go_upto_region 12 with (first
          | (with_reducible refine wpList_load_mid (by with_unfolding_all rfl) 28 _ (by with_unfolding_all rfl) g (off + i * 3) (by with_unfolding_all rfl) (le l) _ (HRg.out wr HQ.out) Tryz.underlying28 (by with_unfolding_all rfl) (by with_unfolding_all exact info28f) ?_)
          | (go_at_call 7; refine (HMy.out _).mono ?_; rintro e9 w2 ⟨rfl, q9⟩; have HQ2 := hid (HQ.out.trans q9); have HOW2 := hid (HOW.out.on q9); clear q9))
        clear HQ HOW
        go_upto_region 13 with (first
          | (with_reducible refine wpList_load_mid (by with_unfolding_all rfl) 28 _ (by with_unfolding_all rfl) g (off + i * 3) (by with_unfolding_all rfl) (le l) _ (HRg.out w2 HQ2.out) Tryz.underlying28 (by with_unfolding_all rfl) (by with_unfolding_all exact info28f) ?_)
          | (with_reducible refine wpl_buildt 40 _ (by with_unfolding_all rfl) (by with_unfolding_all rfl) (lop false l).L.toArray (by with_unfolding_all kernel_rfl) ?_)
          | (with_reducible refine wpl_layt w2 40 zero23 (lop false l).L.toArray _ _ (by with_unfolding_all rfl) (by with_unfolding_all rfl) (by with_unfolding_all rfl) (by with_unfolding_all rfl) (by with_unfolding_all exact info40) (by with_unfolding_all rfl) (lop false l).one (by with_unfolding_all rfl) ?_))
        have H14 := hid (bk_new w2 40 (lop false l).L.toArray)
        have HNE : Hid (∀ j, u10.ownBlock = some j → j ≠ w2.heap.size) := hid (fun j e => by have := HOW2.out.lt j e; omega)
        have HL14 : Hid (w1.heap.size ≤ w2.heap.size) := hid HQ2.out.size
        have HQ3 : Hid (Q w1 (w2.alloc (.cells (lop false l).L.toArray 40))) := hid (HQ2.out.alloc _)
        have HOW3 := hid (HOW2.out.alloc (.cells (lop false l).L.toArray 40))
        clear HQ2 HOW2
        generalize w2.alloc (.cells (lop false l).L.toArray 40) = w3 at H14 HQ3 HOW3 ⊢
        generalize w2.heap.size = b14 at H14 HNE HL14 ⊢
        have f14 := H14.out.f 0
        have c14 := H14.out.c 0 (.int .i64 3) rfl
        by_cases hri : i < rs.length
        · have hrc : (i : Int) < (rs.length : Int) := by omega
          obtain ⟨gr, offr, capr, er, _, _, hbb⟩ := (HR.out.on (Q1.out.trans HQ3.out)).at hri
          cases er
          obtain ⟨rb, hrb⟩ : ∃ rb, rs[i] = rb := ⟨_, rfl⟩
          rw [hrb] at hbb
          have cr : w3.cell? ⟨gr, offr + i, none⟩ = some (.bool rb) := by have := hbb 0 (.bool rb) rfl; simpa using this
          clear hbb hrb
          cases rb
          · go_upto_region 15 with fail
            have H15 := H14
            clear H14 f14 c14 cr
            go_upto_region 16 with (first
              | (with_reducible refine wpList_load_row (by with_unfolding_all rfl) 40 _ (by with_unfolding_all rfl) b14 (by with_unfolding_all rfl) 40 (lop false l).L.toArray (0, 0) _ H15.out.h Tryz.underlying40 (by with_unfolding_all rfl) (by with_unfolding_all exact info40) ?_)
              | (with_reducible refine wpl_bs23 (lop false l) _ (by with_unfolding_all rfl) (by with_unfolding_all rfl) (by with_unfolding_all rfl) ?_)
              | (at_builtin; refine wpList_append_lies (w := w3.alloc (.cells (lop false l).L.toArray 40)) rfl _ _ 25 rfl w1.heap.size 40 i0 (.agg zero23) 23 264 Tryz.underlying25 HI.out.1 HI.out.2.1 HI.out.2.2.1 HI.out.2.2.2 rfl (by decide) _ _ _ rfl (HOW3.out.alloc _) _ 1 1 (lop false l).L rfl rfl ?d1 ?d2 (by decide) ?d3 ?d4 ?d5 (w3.heap.size + 1) ?d6 ?_))
            case d1 => exact news_new w3 (lop false l).L 40
            case d2 => exact (lop false l).ones
            case d3 => unfold maxLen; have := HBL.out; have := HI8.out; omega
            case d4 => have := HBL.out; have := HI8.out; omega
            case d5 => have := HQ3.out.size; simp at this ⊢; omega
            case d6 => simp
            intro g3 cap3 w5 hown3 hgrow hlies hlt3
            have HO5 := hid (own_snoc (enc := Rv.L) (x := lop false l) hown3)
            have HQ5 : Hid (Q w1 w5) := hid (Below.grown (HQ3.out.alloc _) hgrow (by have := HQ3.out.size; simp at this ⊢; omega) (HOW3.out.blk))
            have H5 := hid ((H15.out.on ((Q.refl w3).alloc (.cells (lop false l).L.toArray 40))).grown hgrow (fun e => HNE.out _ e rfl))
            have HRel5 := hid (rel_step false l HRel.out)
            have HBL5 : Hid ((bs ++ [lop false l]).length ≤ i + 1) := hid (by have := HBL.out; simp; omega)
            have HRL5 : Hid (∀ y ∈ bs ++ [lop false l], RL S0 y) := hid (fun y h => (List.mem_append.1 h).elim (HRL.out y) (fun h => by rw [List.mem_singleton.1 h]; exact lop_rl false l HMB.out))
            clear hown3 hgrow hlies hlt3 HOW3 HQ3 H15 HRel HBL HRL
            have k5 := H5.out.c 0 (.int .i64 3) rfl
            by_cases hin : (lnB r && lnB c) = true
            · obtain ⟨p1, p2, p3, p4⟩ := ln_in hin
              have e1 : nxR false l r c = r := by unfold nxR; rw [if_neg (fun k => by cases k.2)]
              have e2 : nxC false l r c = L.ix l.1 l.2.1 l.2.2 c := by unfold nxC; rw [if_pos ⟨hin, rfl⟩]
              rw [e1, e2] at HRel5
              clear hin e1 e2
              go_wp2_with (first
                | (with_reducible refine wpList_load_mid (by with_unfolding_all rfl) 28 _ (by with_unfolding_all rfl) g (off + i * 3) (by with_unfolding_all rfl) (le l) _ (HRg.out w5 HQ5.out) Tryz.underlying28 (by with_unfolding_all rfl) (by with_unfolding_all exact info28f) ?_)
                | (go_at_call 8; refine (HIx.out _ _).mono ?_; rintro e9 w6 ⟨rfl, q9⟩; have HQ6 := hid (HQ5.out.trans q9); have HO6 := hid (HO5.out.on q9); clear q9))
              go_roundw
              case rel => exact ⟨i + 1, bs ++ [lop false l], _, _, by omega, by omega, by go_num, rfl, rfl, HBL5, HRL5, HO6, HRel5, HQ6⟩
              case measure => simp [intOf]; omega
            · have hout := ln_out hin
              have e1 : nxR false l r c = r := by unfold nxR; rw [if_neg (fun k => hin k.1)]
              have e2 : nxC false l r c = c := by unfold nxC; rw [if_neg (fun k => hin k.1)]
              rw [e1, e2] at HRel5
              clear hin e1 e2
              by_cases p1 : 0 ≤ r
              · by_cases p2 : 0 ≤ c
                · by_cases p3 : r < 2199023255552
                  · have p4 : ¬ c < 2199023255552 := fun k => hout ⟨p1, p2, p3, k⟩
                    clear hout
                    go_wp2_with fail
                    go_roundw
                    case rel => exact ⟨i + 1, bs ++ [lop false l], r, c, by omega, by omega, by go_num, rfl, rfl, HBL5, HRL5, HO5, HRel5, HQ5⟩
                    case measure => simp [intOf]; omega
                  · clear hout
                    go_wp2_with fail
                    go_roundw
                    case rel => exact ⟨i + 1, bs ++ [lop false l], r, c, by omega, by omega, by go_num, rfl, rfl, HBL5, HRL5, HO5, HRel5, HQ5⟩
                    case measure => simp [intOf]; omega
                · clear hout
                  go_wp2_with fail
                  go_roundw
                  case rel => exact ⟨i + 1, bs ++ [lop false l], r, c, by omega, by omega, by go_num, rfl, rfl, HBL5, HRL5, HO5, HRel5, HQ5⟩
                  case measure => simp [intOf]; omega
              · clear hout
                go_wp2_with fail
                go_roundw
                case rel => exact ⟨i + 1, bs ++ [lop false l], r, c, by omega, by omega, by go_num, rfl, rfl, HBL5, HRL5, HO5, HRel5, HQ5⟩
                case measure => simp [intOf]; omega
          · go_upto_region 15 with fail
            have H15 : Hid (Bk (w3.setCell ⟨b14, 0, none⟩ (.int .i64 2)) 40 b14 (lop true l).L.toArray) := hid (H14.out.put 0 (.int .i64 2))
            have HQ4 : Hid (Q w1 (w3.setCell ⟨b14, 0, none⟩ (.int .i64 2))) := hid (HQ3.out.setCell HL14.out _)
            have HOW4 : Hid (Own Rv.L 40 23 w1.heap.size (w3.setCell ⟨b14, 0, none⟩ (.int .i64 2)) u10 bs) := hid (HOW3.out.qp (P := fun j => j = b14) ((Qp.refl _ _).set _ _ (.inl rfl)) (fun j e k => HNE.out j e k))
            clear H14 HQ3 HOW3 f14 c14 cr
            generalize w3.setCell ⟨b14, 0, none⟩ (.int .i64 2) = w3 at H15 HQ4 HOW4 ⊢
            have HQ3 := HQ4
            have HOW3 := HOW4
            clear HQ4 HOW4
            go_upto_region 16 with (first
              | (with_reducible refine wpList_load_row (by with_unfolding_all rfl) 40 _ (by with_unfolding_all rfl) b14 (by with_unfolding_all rfl) 40 (lop true l).L.toArray (0, 0) _ H15.out.h Tryz.underlying40 (by with_unfolding_all rfl) (by with_unfolding_all exact info40) ?_)
              | (with_reducible refine wpl_bs23 (lop true l) _ (by with_unfolding_all rfl) (by with_unfolding_all rfl) (by with_unfolding_all rfl) ?_)
              | (at_builtin; refine wpList_append_lies (w := w3.alloc (.cells (lop true l).L.toArray 40)) rfl _ _ 25 rfl w1.heap.size 40 i0 (.agg zero23) 23 264 Tryz.underlying25 HI.out.1 HI.out.2.1 HI.out.2.2.1 HI.out.2.2.2 rfl (by decide) _ _ _ rfl (HOW3.out.alloc _) _ 1 1 (lop true l).L rfl rfl ?e1 ?e2 (by decide) ?e3 ?e4 ?e5 (w3.heap.size + 1) ?e6 ?_))
            case e1 => exact news_new w3 (lop true l).L 40
            case e2 => exact (lop true l).ones
            case e3 => unfold maxLen; have := HBL.out; have := HI8.out; omega
            case e4 => have := HBL.out; have := HI8.out; omega
            case e5 => have := HQ3.out.size; simp at this ⊢; omega
            case e6 => simp
            intro g3 cap3 w5 hown3 hgrow hlies hlt3
            have HO5 := hid (own_snoc (enc := Rv.L) (x := lop true l) hown3)
            have HQ5 : Hid (Q w1 w5) := hid (Below.grown (HQ3.out.alloc _) hgrow (by have := HQ3.out.size; simp at this ⊢; omega) (HOW3.out.blk))
            have H5 := hid ((H15.out.on ((Q.refl w3).alloc (.cells (lop true l).L.toArray 40))).grown hgrow (fun e => HNE.out _ e rfl))
            have HRel5 := hid (rel_step true l HRel.out)
            have HBL5 : Hid ((bs ++ [lop true l]).length ≤ i + 1) := hid (by have := HBL.out; simp; omega)
            have HRL5 : Hid (∀ y ∈ bs ++ [lop true l], RL S0 y) := hid (fun y h => (List.mem_append.1 h).elim (HRL.out y) (fun h => by rw [List.mem_singleton.1 h]; exact lop_rl true l HMB.out))
            clear hown3 hgrow hlies hlt3 HOW3 HQ3 H15 HRel HBL HRL
            have k5 := H5.out.c 0 (.int .i64 2) rfl
            by_cases hin : (lnB r && lnB c) = true
            · obtain ⟨p1, p2, p3, p4⟩ := ln_in hin
              have e1 : nxR true l r c = L.ix l.1 l.2.1 l.2.2 r := by unfold nxR; rw [if_pos ⟨hin, rfl⟩]
              have e2 : nxC true l r c = c := by unfold nxC; rw [if_neg (fun k => by cases k.2)]
              rw [e1, e2] at HRel5
              clear hin e1 e2
              go_wp2_with (first
                | (with_reducible refine wpList_load_mid (by with_unfolding_all rfl) 28 _ (by with_unfolding_all rfl) g (off + i * 3) (by with_unfolding_all rfl) (le l) _ (HRg.out w5 HQ5.out) Tryz.underlying28 (by with_unfolding_all rfl) (by with_unfolding_all exact info28f) ?_)
                | (go_at_call 8; refine (HIx.out _ _).mono ?_; rintro e9 w6 ⟨rfl, q9⟩; have HQ6 := hid (HQ5.out.trans q9); have HO6 := hid (HO5.out.on q9); clear q9))
              go_roundw
              case rel => exact ⟨i + 1, bs ++ [lop true l], _, _, by omega, by omega, by go_num, rfl, rfl, HBL5, HRL5, HO6, HRel5, HQ6⟩
              case measure => simp [intOf]; omega
            · have hout := ln_out hin
              have e1 : nxR true l r c = r := by unfold nxR; rw [if_neg (fun k => hin k.1)]
              have e2 : nxC true l r c = c := by unfold nxC; rw [if_neg (fun k => hin k.1)]
              rw [e1, e2] at HRel5
              clear hin e1 e2
              by_cases p1 : 0 ≤ r
              · by_cases p2 : 0 ≤ c
                · by_cases p3 : r < 2199023255552
                  · have p4 : ¬ c < 2199023255552 := fun k => hout ⟨p1, p2, p3, k⟩
                    clear hout
                    go_wp2_with fail
                    go_roundw
                    case rel => exact ⟨i + 1, bs ++ [lop true l], r, c, by omega, by omega, by go_num, rfl, rfl, HBL5, HRL5, HO5, HRel5, HQ5⟩
                    case measure => simp [intOf]; omega
                  · clear hout
                    go_wp2_with fail
                    go_roundw
                    case rel => exact ⟨i + 1, bs ++ [lop true l], r, c, by omega, by omega, by go_num, rfl, rfl, HBL5, HRL5, HO5, HRel5, HQ5⟩
                    case measure => simp [intOf]; omega
                · clear hout
                  go_wp2_with fail
                  go_roundw
                  case rel => exact ⟨i + 1, bs ++ [lop true l], r, c, by omega, by omega, by go_num, rfl, rfl, HBL5, HRL5, HO5, HRel5, HQ5⟩
                  case measure => simp [intOf]; omega
              · clear hout
                go_wp2_with fail
                go_roundw
                case rel => exact ⟨i + 1, bs ++ [lop true l], r, c, by omega, by omega, by go_num, rfl, rfl, HBL5, HRL5, HO5, HRel5, HQ5⟩
                case measure => simp [intOf]; omega
        · have hrc : ¬ (i : Int) < (rs.length : Int) := by omega
          go_upto_region 15 with fail
          have H15 := H14
          clear H14 f14 c14
          go_upto_region 16 with (first
            | (with_reducible refine wpList_load_row (by with_unfolding_all rfl) 40 _ (by with_unfolding_all rfl) b14 (by with_unfolding_all rfl) 40 (lop false l).L.toArray (0, 0) _ H15.out.h Tryz.underlying40 (by with_unfolding_all rfl) (by with_unfolding_all exact info40) ?_)
            | (with_reducible refine wpl_bs23 (lop false l) _ (by with_unfolding_all rfl) (by with_unfolding_all rfl) (by with_unfolding_all rfl) ?_)
            | (at_builtin; refine wpList_append_lies (w := w3.alloc (.cells (lop false l).L.toArray 40)) rfl _ _ 25 rfl w1.heap.size 40 i0 (.agg zero23) 23 264 Tryz.underlying25 HI.out.1 HI.out.2.1 HI.out.2.2.1 HI.out.2.2.2 rfl (by decide) _ _ _ rfl (HOW3.out.alloc _) _ 1 1 (lop false l).L rfl rfl ?h1 ?h2 (by decide) ?h3 ?h4 ?h5 (w3.heap.size + 1) ?h6 ?_))
          try case h1 => exact news_new w3 (lop false l).L 40
          case h2 => exact (lop false l).ones
          case h3 => unfold maxLen; have := HBL.out; have := HI8.out; omega
          case h4 => have := HBL.out; have := HI8.out; omega
          case h5 => have := HQ3.out.size; simp at this ⊢; omega
          try case h6 => simp
          intro g3 cap3 w5 hown3 hgrow hlies hlt3
          have HO5 := hid (own_snoc (enc := Rv.L) (x := lop false l) hown3)
          have HQ5 : Hid (Q w1 w5) := hid (Below.grown (HQ3.out.alloc _) hgrow (by have := HQ3.out.size; simp at this ⊢; omega) (HOW3.out.blk))
          have H5 := hid ((H15.out.on ((Q.refl w3).alloc (.cells (lop false l).L.toArray 40))).grown hgrow (fun e => HNE.out _ e rfl))
          have HRel5 := hid (rel_step false l HRel.out)
          have HBL5 : Hid ((bs ++ [lop false l]).length ≤ i + 1) := hid (by have := HBL.out; simp; omega)
          have HRL5 : Hid (∀ y ∈ bs ++ [lop false l], RL S0 y) := hid (fun y h => (List.mem_append.1 h).elim (HRL.out y) (fun h => by rw [List.mem_singleton.1 h]; exact lop_rl false l HMB.out))
          clear hown3 hgrow hlies hlt3 HOW3 HQ3 H15 HRel HBL HRL
          have k5 := H5.out.c 0 (.int .i64 3) rfl
          by_cases hin : (lnB r && lnB c) = true
          · obtain ⟨p1, p2, p3, p4⟩ := ln_in hin
            have e1 : nxR false l r c = r := by unfold nxR; rw [if_neg (fun k => by cases k.2)]
            have e2 : nxC false l r c = L.ix l.1 l.2.1 l.2.2 c := by unfold nxC; rw [if_pos ⟨hin, rfl⟩]
            rw [e1, e2] at HRel5
            clear hin e1 e2
            go_wp2_with (first
              | (with_reducible refine wpList_load_mid (by with_unfolding_all rfl) 28 _ (by with_unfolding_all rfl) g (off + i * 3) (by with_unfolding_all rfl) (le l) _ (HRg.out w5 HQ5.out) Tryz.underlying28 (by with_unfolding_all rfl) (by with_unfolding_all exact info28f) ?_)
              | (go_at_call 8; refine (HIx.out _ _).mono ?_; rintro e9 w6 ⟨rfl, q9⟩; have HQ6 := hid (HQ5.out.trans q9); have HO6 := hid (HO5.out.on q9); clear q9))
            go_roundw
            case rel => exact ⟨i + 1, bs ++ [lop false l], _, _, by omega, by omega, by go_num, rfl, rfl, HBL5, HRL5, HO6, HRel5, HQ6⟩
            case measure => simp [intOf]; omega
          · have hout := ln_out hin
            have e1 : nxR false l r c = r := by unfold nxR; rw [if_neg (fun k => hin k.1)]
            have e2 : nxC false l r c = c := by unfold nxC; rw [if_neg (fun k => hin k.1)]
            rw [e1, e2] at HRel5
            clear hin e1 e2
            by_cases p1 : 0 ≤ r
            · by_cases p2 : 0 ≤ c
              · by_cases p3 : r < 2199023255552
                · have p4 : ¬ c < 2199023255552 := fun k => hout ⟨p1, p2, p3, k⟩
                  clear hout
                  go_wp2_with fail
                  go_roundw
                  case rel => exact ⟨i + 1, bs ++ [lop false l], r, c, by omega, by omega, by go_num, rfl, rfl, HBL5, HRL5, HO5, HRel5, HQ5⟩
                  case measure => simp [intOf]; omega
                · clear hout
                  go_wp2_with fail
                  go_roundw
                  case rel => exact ⟨i + 1, bs ++ [lop false l], r, c, by omega, by omega, by go_num, rfl, rfl, HBL5, HRL5, HO5, HRel5, HQ5⟩
                  case measure => simp [intOf]; omega
              · clear hout
                go_wp2_with fail
                go_roundw
                case rel => exact ⟨i + 1, bs ++ [lop false l], r, c, by omega, by omega, by go_num, rfl, rfl, HBL5, HRL5, HO5, HRel5, HQ5⟩
                case measure => simp [intOf]; omega
            · clear hout
              go_wp2_with fail
              go_roundw
              case rel => exact ⟨i + 1, bs ++ [lop false l], r, c, by omega, by omega, by go_num, rfl, rfl, HBL5, HRL5, HO5, HRel5, HQ5⟩
              case measure => simp [intOf]; omega
    · clear HStart
      have hout0 : ¬ ((i : Int) < (ls.length : Int) ∧ (i : Int) < 8) := by omega
      have HS1 := hid (sl_one wr x0)
      have HSb : Hid (Sl Rv.L 23 wr u10 bs) := hid (HOW.out.sl Rv.len (by decide))
      have HSb1 := hid (HSb.out.on ((Q.refl wr).alloc (.cells x0.L.toArray 40)))
      have HQ1 : Hid (Q w (wr.alloc (.cells x0.L.toArray 40))) := hid ((Q1.out.trans HQ.out).alloc _)
      have HBx := hid (HBt.out _ _ _ bs HQ1.out HS1.out HSb1.out (by have := HBL.out; omega) HRL.out)
      rw [bat_rel HRel.out] at HBx
      obtain ⟨ab, cb, eb⟩ := sl_len2 HSb.out
      subst eb
      have hb8 : bs.length ≤ 8 := by have := HBL.out; omega
      clear HBt HL HR HB HG HRL HBL HOW
      by_cases hi1 : (i : Int) < (ls.length : Int)
      · have hi2 : ¬ (i : Int) < 8 := by omega
        clear hout0
        go_upto_region 22 with (first
          | (with_reducible refine wpl_buildt 40 _ (by with_unfolding_all rfl) (by with_unfolding_all rfl) (so 1 S0 row col 0 0 0).L.toArray (by with_unfolding_all kernel_rfl) ?_; rw [HX.out])
          | (with_reducible refine wpl_bs23 x0 _ (by with_unfolding_all rfl) (by with_unfolding_all rfl) (by with_unfolding_all rfl) ?_)
          | (go_at_call 9; with_reducible refine HBx.out.mono ?_; rintro e9 w5 ⟨u1, u2, rfl, k1, k2, q9⟩; have HU1 := hid k1; have HU2 := hid k2; have HQ5 := hid (HQ1.out.trans q9); clear k1 k2 q9))
        obtain ⟨a2, c2, rfl⟩ := sl_len2 HU2.out
        clear HBx HS1 HSb HSb1 HQ1 HQ HU2
        by_cases hin : (lnB r && lnB c) = true
        · obtain ⟨p1, p2, p3, p4⟩ := ln_in hin
          rw [if_pos hin] at HU1
          obtain ⟨g1, o1, c1, rfl, _, _, hc1⟩ := sl_cell HU1.out (Nat.succ_pos 0)
          have d1 := hc1 0 (Nat.succ_pos 0) 2 (.int .i64 r) rfl
          have d2 := hc1 0 (Nat.succ_pos 0) 3 (.int .i64 c) rfl
          simp only [Nat.zero_mul, Nat.add_zero, List.length_singleton] at d1 d2 ⊢
          have p5 : ¬ r < 0 := by omega
          have p6 : ¬ c < 0 := by omega
          have p7 : ¬ 2199023255552 ≤ r := by omega
          have p8 : ¬ 2199023255552 ≤ c := by omega
          clear hc1 HU1 hin
          go_wp2_with fail
          go_ret
          exact ⟨rfl, HQ5.out⟩
        · have hout := ln_out hin
          rw [if_neg hin] at HU1
          obtain ⟨a1, c1, rfl⟩ := sl_len2 HU1.out
          simp only [List.length_nil]
          clear HU1 hin
          by_cases p1 : r < 0
          · clear hout
            go_wp2_with fail
            go_ret
            exact ⟨rfl, HQ5.out⟩
          · by_cases p2 : c < 0
            · clear hout
              go_wp2_with fail
              go_ret
              exact ⟨rfl, HQ5.out⟩
            · by_cases p3 : 2199023255552 ≤ r
              · clear hout
                go_wp2_with fail
                go_ret
                exact ⟨rfl, HQ5.out⟩
              · have p4 : 2199023255552 ≤ c := by omega
                clear hout
                go_wp2_with fail
                go_ret
                exact ⟨rfl, HQ5.out⟩
      · clear hout0
        go_upto_region 22 with (first
          | (with_reducible refine wpl_buildt 40 _ (by with_unfolding_all rfl) (by with_unfolding_all rfl) (so 1 S0 row col 0 0 0).L.toArray (by with_unfolding_all kernel_rfl) ?_; rw [HX.out])
          | (with_reducible refine wpl_bs23 x0 _ (by with_unfolding_all rfl) (by with_unfolding_all rfl) (by with_unfolding_all rfl) ?_)
          | (go_at_call 9; with_reducible refine HBx.out.mono ?_; rintro e9 w5 ⟨u1, u2, rfl, k1, k2, q9⟩; have HU1 := hid k1; have HU2 := hid k2; have HQ5 := hid (HQ1.out.trans q9); clear k1 k2 q9))
        obtain ⟨a2, c2, rfl⟩ := sl_len2 HU2.out
        clear HBx HS1 HSb HSb1 HQ1 HQ HU2
        by_cases hin : (lnB r && lnB c) = true
        · obtain ⟨p1, p2, p3, p4⟩ := ln_in hin
          rw [if_pos hin] at HU1
          obtain ⟨g1, o1, c1, rfl, _, _, hc1⟩ := sl_cell HU1.out (Nat.succ_pos 0)
          have d1 := hc1 0 (Nat.succ_pos 0) 2 (.int .i64 r) rfl
          have d2 := hc1 0 (Nat.succ_pos 0) 3 (.int .i64 c) rfl
          simp only [Nat.zero_mul, Nat.add_zero, List.length_singleton] at d1 d2 ⊢
          have p5 : ¬ r < 0 := by omega
          have p6 : ¬ c < 0 := by omega
          have p7 : ¬ 2199023255552 ≤ r := by omega
          have p8 : ¬ 2199023255552 ≤ c := by omega
          clear hc1 HU1 hin
          go_wp2_with fail
          go_ret
          exact ⟨rfl, HQ5.out⟩
        · have hout := ln_out hin
          rw [if_neg hin] at HU1
          obtain ⟨a1, c1, rfl⟩ := sl_len2 HU1.out
          simp only [List.length_nil]
          clear HU1 hin
          by_cases p1 : r < 0
          · clear hout
            go_wp2_with fail
            go_ret
            exact ⟨rfl, HQ5.out⟩
          · by_cases p2 : c < 0
            · clear hout
              go_wp2_with fail
              go_ret
              exact ⟨rfl, HQ5.out⟩
            · by_cases p3 : 2199023255552 ≤ r
              · clear hout
                go_wp2_with fail
                go_ret
                exact ⟨rfl, HQ5.out⟩
              · have p4 : 2199023255552 ≤ c := by omega
                clear hout
                go_wp2_with fail
                go_ret
                exact ⟨rfl, HQ5.out⟩
end Go.Proofs.YthebfhdpofhmpaaGreatDoor
namespace Go.Proofs.YthebfhdpofhmpaaGreatDoor
open Go.ChangeShapes Go.WideShapes Go.ChangeAt Go.RowKit
set_option linter.unusedVariables false
set_option linter.unusedSimpArgs false
set_option maxRecDepth 100000
theorem laidOut : laidOutB Tryz.prog = true := by kernel_rfl
theorem list_of {α : Type} (P : Nat → α → Prop) : ∀ n, (∀ i, i < n → ∃ x, P i x) → ∃ l : List α, l.length = n ∧ ∀ i (h : i < l.length), P i l[i]
  | 0, _ => ⟨[], rfl, fun i hi => absurd hi (by simp)⟩
  | n + 1, h => by
    obtain ⟨l, hl, hp⟩ := list_of P n (fun i hi => h i (by omega))
    obtain ⟨x, hx⟩ := h n (by omega)
    refine ⟨l ++ [x], by simp [hl], fun i hi => ?_⟩
    by_cases hin : i < l.length
    · rw [List.getElem_append_left hin]
      exact hp i hin
    · have hie : i = l.length := by simp at hi; omega
      subst hie
      simp
      rw [hl]
      exact hx
theorem add_lit9 (b o n : Nat) : (⟨b, o, none⟩ : Addr).add n = ⟨b, o + n, none⟩ := by
  unfold Addr.add
  by_cases h : n = 0
  · subst h; simp
  · simp [h]
theorem open_sl {α : Type} (en : α → List Value) (k : Nat) (t e : TypeId) (hu : Tryz.prog.underlying t = some (.slice e)) (hc : Tryz.prog.cellsOf e = k) (hk : 0 < k) (hlen : ∀ x, (en x).length = k) {H : Type} {enc : TypeId × Value → H} {W : World} {sp : Nat → Bool} {held : Bool} {base base' : Nat} {v : Value} {d : DataW H} {p : List MemPlace} {r : Reach}
    (hel9 : ∀ (fuel base : Nat) (cs : List Value) (x : DataW H × List MemPlace), DataW.trod enc Tryz.prog W base sp held fuel e cs = some x → ∃ y, cs = en y)
    (hv : Value.okWide Tryz.prog W r base' t v) (h : DataW.Trod enc Tryz.prog W base sp held t v d p) : ∃ L : List α, Sl en k W v L := by
  obtain ⟨a0, len0, cap0, rfl⟩ := okWide_slice hu hv
  obtain ⟨fuel, hf⟩ := h
  rcases DataW.trod_slice hu hf with ⟨hcs, _⟩ | ⟨x, l, c, elems, rest, m, _, hcs, _, hb, hl, hm, hlen9, hel, _, _⟩
  · simp [Value.cells] at hcs
    obtain ⟨rfl, rfl, rfl⟩ := hcs
    exact ⟨[], sl_nil W⟩
  · simp [Value.cells] at hcs
    obtain ⟨rfl, rfl, rfl⟩ := hcs
    have hcell : ∀ i, i < len0 → ∃ y : α, ∀ j, j < k → W.cell? ((x.add (i * k)).add j) = (en y)[j]? := by
      intro i hi
      have hi' := hel i hi
      rw [hc, List.getElem?_eq_getElem (by omega), Option.bind_eq_some_iff] at hi'
      obtain ⟨cs, h1, h2⟩ := hi'
      obtain ⟨y, rfl⟩ := hel9 _ _ _ _ h2
      obtain ⟨_, _, h3⟩ := World.cells?_some h1
      exact ⟨y, h3⟩
    rcases Nat.eq_zero_or_pos len0 with rfl | hp
    · exact ⟨[], ⟨some x, cap0, rfl, Nat.zero_le _, hm, fun h => absurd h (by simp)⟩⟩
    · obtain ⟨b, off, spot⟩ := x
      obtain ⟨c0, hc0⟩ := hcell 0 hp
      have hspot : spot = none := by
        have h0 := hc0 0 hk
        rw [List.getElem?_eq_getElem (by rw [hlen]; exact hk)] at h0
        simpa [Addr.add] using World.cell?_spot h0
      subst hspot
      obtain ⟨L, hL, hP⟩ := list_of (fun i y => Ats en W b (off + i * k) y) len0 (fun i hi => by
        obtain ⟨y, g⟩ := hcell i hi
        refine ⟨y, fun j u hu => ?_⟩
        have hj : j < k := by rw [← hlen y]; exact (List.getElem?_eq_some_iff.1 hu).1
        have := g j hj
        rw [add_lit9, add_lit9, hu] at this
        exact this)
      subst hL
      exact ⟨L, ⟨some ⟨b, off, none⟩, cap0, rfl, hl, hm, fun _ => ⟨b, off, rfl, hP⟩⟩⟩
theorem cells28 : Tryz.prog.cellsOf 28 = 3 := by kernel_rfl
theorem cells4 : Tryz.prog.cellsOf 4 = 1 := by kernel_rfl
theorem open_l3 {H : Type} {enc : TypeId × Value → H} {W : World} {sp : Nat → Bool} {held : Bool} (fuel base : Nat) (cs : List Value) (x : DataW H × List MemPlace)
    (h : DataW.trod enc Tryz.prog W base sp held fuel 28 cs = some x) : ∃ y : L3, cs = le y := by
  obtain ⟨xs, m, _, _, hl, hlen, hf⟩ := DataW.trod_struct Tryz.underlying28 h
  rw [cells28] at hl
  have hlen' : xs.length = 3 := hlen
  match cs, hl with
  | [v0, v1, v2], _ =>
    have g0 := hf 0 _ rfl
    have g1 := hf 1 _ rfl
    have g2 := hf 2 _ rfl
    match xs, hlen' with
    | [y0, y1, y2], _ =>
      obtain ⟨k, e0, _, wk⟩ := DataW.trod_int Tryz.underlying3 g0
      obtain ⟨a, e1, _, wa⟩ := DataW.trod_int Tryz.underlying2 g1
      obtain ⟨t, e2, _, wt⟩ := DataW.trod_int Tryz.underlying2 g2
      refine ⟨(k, a, t), ?_⟩
      have f0 : v0 = .int .i64 k := by
        have : [v0] = [.int .i64 k] := e0
        exact (List.cons.inj this).1
      have f1 : v1 = .int .i64 a := by
        have : [v1] = [.int .i64 a] := e1
        exact (List.cons.inj this).1
      have f2 : v2 = .int .i64 t := by
        have : [v2] = [.int .i64 t] := e2
        exact (List.cons.inj this).1
      rw [f0, f1, f2]
      rfl
theorem open_b1 {H : Type} {enc : TypeId × Value → H} {W : World} {sp : Nat → Bool} {held : Bool} (fuel base : Nat) (cs : List Value) (x : DataW H × List MemPlace)
    (h : DataW.trod enc Tryz.prog W base sp held fuel 4 cs = some x) : ∃ y : Bool, cs = be y := by
  obtain ⟨b, hb, _⟩ := DataW.trod_bool Tryz.underlying4 h
  exact ⟨b, hb⟩
end Go.Proofs.YthebfhdpofhmpaaGreatDoor
