/- ref.word whole, ref.Scan, walked; counterpaneref5.Parse, walked. -/
import Derived.Test.YtgheopdadfnilaaGreatDoorKr40
import Derived.Test.YtgheopdadfnilaaGreatDoorKr41
import Derived.Test.YtgheopdadfnilaaGreatDoorKr42
import Derived.Test.YtgheopdadfnilaaGreatDoorKr10
import Derived.Test.YtgheopdadfnilaaGreatDoorKr29
import Derived.Test.YtgheopdadfnilaaGreatDoorKr30
import Derived.Test.YtgheopdadfnilaaGreatDoorKr39
set_option linter.unusedVariables false
set_option linter.unusedSimpArgs false
set_option maxRecDepth 100000
namespace Go.Proofs.YtgheopdadfnilaaGreatDoor
open Go.RowKit
set_option linter.unusedVariables false
set_option linter.unusedSimpArgs false
theorem tw_mem {p : UInt8 → Bool} {x : UInt8} : ∀ {l : List UInt8}, x ∈ l.takeWhile p → p x = true
  | [], h => by simp at h
  | c :: r, h => by
    rw [List.takeWhile_cons] at h
    split at h
    · rename_i hc
      rcases List.mem_cons.1 h with rfl | h'
      · exact hc
      · exact tw_mem h'
    · simp at h
theorem hp_one' (a c : UInt8) (r : List UInt8) : Lib.hasPrefix (a :: r) [c] = (c == a) := by
  unfold Lib.hasPrefix
  simp [List.isPrefixOf]
theorem rword_join (s : ByteArray) (i : Nat) (w : World) (hs : s.size ≤ 100000) (hi : i < s.size) (hj : joinB s[i] = true) (hF : wordF (s.data.toList.drop i) = joinW (s.data.toList.drop i)) :
    Calls Tryz.prog 72 #[.string s, .int .i64 (i : Int)] w fun e w' => e = .returned (rwv (wordF (s.data.toList.drop i)) i) ∧ Q w w' := by
  obtain ⟨M, T, hr, hM⟩ := run_at s i hi hj
  have hz := hr.zT
  have hlo := hr.lo
  have hle := hr.le
  have hT0 : 0 < T.size := by omega
  have hlen : (s.data.toList.drop i |>.takeWhile joinB).length = M - i := by omega
  have hJ : joinB T[0] = true := tw_mem (l := s.data.toList.drop i) (by rw [← hr.lT]; exact get_mem T 0 hT0)
  have h45 : T[0] ≠ 45 := fun e => by rw [e] at hJ; exact absurd hJ (by decide)
  have HP := fun W => V.rparse_any T W (by omega)
  have HR := fun W => rref_any T W (by omega)
  have HL := fun W => letters_any T W hT0 (by omega)
  have et := Lib.toList_data T
  have hpos := pk_pos (no_minus T hT0 h45)
  have hW : ∀ k, kindJ T.data.toList (Lib.hasPrefix (s.data.toList.drop M) [40]) = k → wordF (s.data.toList.drop i) = if k = 0 then bad else (k, T.data.toList, M - i) := by
    intro k hk
    rw [hF]
    unfold joinW
    rw [← hr.lT, hr.beh, hk, hr.lT, hlen]
  unfold V.RP at HP
  generalize V.pk (V.parseO T.data.toList) = pn at HP hpos
  cases hp : V.pf (V.parseO T.data.toList)
  · rw [hp] at HP
    cases hf : refF T.data.toList
    · rw [hf] at HR
      have hk := kind_rest (c := Lib.hasPrefix (s.data.toList.drop M) [40]) hp hf
      cases ha : allL T.data.toList
      · rw [ha] at HL
        refine rword_n0 s T i M w hs hi hr hj pn _ (hid HP) (hid HR) (hid HL) (hid ?_)
        rw [hW 0 ?_]; rfl
        rw [hk, if_neg]
        rintro (h | h | ⟨_, h⟩)
        · rw [h] at ha; exact absurd ha (by decide)
        · rw [h] at ha; exact absurd ha (by decide)
        · rw [ha] at h; cases h
      · rw [ha] at HL
        by_cases ht : T.data.toList = tru
        · refine rword_t s T i M w hs hi hr hj pn _ (hid HP) (hid HR) (hid HL) (by rw [et, ht]; rfl) (hid ?_)
          rw [hW 4 (by rw [hk, if_pos (Or.inl ht)])]; rfl
        · have e1 : (T.toList == [84, 82, 85, 69]) = false := by rw [et, beq_eq_false_iff_ne]; exact ht
          by_cases hf2 : T.data.toList = fls
          · refine rword_f s T i M w hs hi hr hj pn _ (hid HP) (hid HR) (hid HL) e1 (by rw [et, hf2]; rfl) (hid ?_)
            rw [hW 4 (by rw [hk, if_pos (Or.inr (Or.inl hf2))])]; rfl
          · have e2 : (T.toList == [70, 65, 76, 83, 69]) = false := by rw [et, beq_eq_false_iff_ne]; exact hf2
            by_cases hMs : M < s.size
            · by_cases h40 : s[M] = 40
              · have hc : Lib.hasPrefix (s.data.toList.drop M) [40] = true := by rw [drop_cons s M hMs, hp_one', h40]; rfl
                refine rword_c s T i M w hs hi hr hj pn _ (hid HP) (hid HR) (hid HL) e1 e2 (hid hMs) (hid fun _ => h40) (hid ?_)
                rw [hW 4 (by rw [hk, if_pos (Or.inr (Or.inr ⟨hc, ha⟩))])]; rfl
              · have hc : Lib.hasPrefix (s.data.toList.drop M) [40] = false := by rw [drop_cons s M hMs, hp_one', beq_eq_false_iff_ne]; exact fun e => h40 e.symm
                refine rword_b s T i M w hs hi hr hj pn _ (hid HP) (hid HR) (hid HL) e1 e2 (hid fun _ => h40) (hid ?_)
                rw [hW 0 ?_]; rfl
                rw [hk, if_neg]
                rintro (h | h | ⟨h, _⟩)
                · exact ht h
                · exact hf2 h
                · rw [hc] at h; cases h
            · have hc : Lib.hasPrefix (s.data.toList.drop M) [40] = false := by rw [List.drop_of_length_le (by simp; omega)]; rfl
              refine rword_b s T i M w hs hi hr hj pn _ (hid HP) (hid HR) (hid HL) e1 e2 (hid fun h => absurd h hMs) (hid ?_)
              rw [hW 0 ?_]; rfl
              rw [hk, if_neg]
              rintro (h | h | ⟨h, _⟩)
              · exact ht h
              · exact hf2 h
              · rw [hc] at h; cases h
    · rw [hf] at HR
      refine rword_ref s T i M w hs hi hr hj pn _ (hid HP) (hid HR) (hid ?_)
      rw [hW 3 (kind_ref hp hf)]; rfl
  · rw [hp] at HP
    refine rword_num s T i M w hs hi hr hj hT0 pn (hid HP) hpos (byte_ne (n := 45) (by omega) h45) (hid ?_)
    rw [hW 1 (kind_num hp)]; rfl
theorem rword_any (s : ByteArray) (i : Nat) (w : World) (hs : s.size ≤ 100000) (hi : i < s.size) :
    Calls Tryz.prog 72 #[.string s, .int .i64 (i : Int)] w fun e w' => e = .returned (rwv (wordF (s.data.toList.drop i)) i) ∧ Q w w' := by
  have hh : (s.data.toList.drop i).headD 0 = s[i] := by rw [drop_cons s i hi]; rfl
  by_cases h34 : s[i] = 34
  · refine rword_quo s i w hs hi h34 _ (hid rfl) (hid ?_)
    unfold wordF
    rw [hh, if_pos h34]
    unfold quoW
    rw [List.drop_drop]
  · by_cases h35 : s[i] = 35
    · refine rword_err s i w hs hi h35 (hid ?_)
      unfold wordF
      rw [hh, if_neg h34, if_pos h35]
      rfl
    · cases hj : joinB s[i]
      · refine rword_sig s i w hs hi h34 h35 hj (hid ?_)
        unfold wordF
        rw [hh, if_neg h34, if_neg h35, if_neg (by simp [hj]), sgR_eq]
        rfl
      · refine rword_join s i w hs hi hj ?_
        unfold wordF
        rw [hh, if_neg h34, if_neg h35, if_pos hj]
end Go.Proofs.YtgheopdadfnilaaGreatDoor
namespace Go.Proofs.YtgheopdadfnilaaGreatDoor
open Go.RowKit
set_option linter.unusedVariables false
set_option linter.unusedSimpArgs false
theorem info32 : (Tryz.prog.info? 74).map (fun i => (i.zero, i.size, i.bytes)) = some (some (.agg #[.int .i64 0, .string ⟨#[]⟩, .int .i64 0]), 3, 32) := by kernel_rfl
set_option maxHeartbeats 4000000 in
theorem rscan_any (s : ByteArray) (w : World) (hs : s.size ≤ 100000) :
    Calls Tryz.prog 37 #[.string s] w fun e w' => ScanRet (scanL s.data.toList) e w' ∧ Q w w' := by
  by_cases hlong : 1000 < s.size
  · have HR := hid (scanL_long (l := s.data.toList) (by simpa using hlong))
    generalize scanL s.data.toList = o at HR ⊢
    go_enter Tryz.func37, Tryz.ntmps37
    go_wp2
    go_ret3
    exact ⟨ScanRet.no HR.out rfl, Q.refl _⟩
  · obtain ⟨i0, hi⟩ := inf_of info32
    have HI := hid hi
    have HY : Hid (∀ L n, scanF s.data.toList 0 [] = (some L, n) → scanL s.data.toList = (some (L ++ [⟨7, [], s.size⟩]), 0)) := hid (fun L n h => by rw [scanL_yes (by simpa using hlong) h]; simp)
    have HN : Hid (∀ n, scanF s.data.toList 0 [] = (none, n) → scanL s.data.toList = (none, n)) := hid (fun n h => scanL_no (by simpa using hlong) h)
    obtain ⟨R, hR⟩ : ∃ R, scanF s.data.toList 0 [] = R := ⟨_, rfl⟩
    rw [hR] at HY HN
    have HR := hid hR
    generalize scanL s.data.toList = o at HY HN ⊢
    clear hR hi
    go_enter Tryz.func37, Tryz.ntmps37
    go_wp2
    go_loopw [5, 6] (fun v x W => ∃ (k : Nat) (L : List Wd), k ≤ s.size ∧ x = .int .i64 (k : Int) ∧ L.length ≤ k ∧ Own wd 74 3 w.heap.size W v L ∧ Q w W ∧ Hid (scanF (s.data.toList.drop k) k L = R)) (fun _ x _ => s.size - (intOf x).toNat)
    case atStart => exact ⟨0, [], Nat.zero_le _, rfl, by simp, own_nil w, Q.refl _, HR⟩
    case round =>
      obtain ⟨k, L, hk, rfl, hL, hO, hQ, hr⟩ := hrel
      have HO := hid hO
      have HQ := hid hQ
      clear hO hQ
      by_cases hlt : k < s.size
      · have hr2 := hr.out
        by_cases hb : s[k] = 32
        · have e32 : ((s[k].toNat : Int) == 32) = true := eq_byte (n := 32) (by omega) hb
          rw [drop_cons s k hlt, hb, scanF_blank] at hr2
          have HR2 := hid hr2
          clear hr hr2
          go_wp2_with fail
          go_roundw
          case rel => exact ⟨k + 1, L, by omega, by go_num, by omega, HO.out, HQ.out, HR2⟩
          case measure => simp [intOf]; omega
        · have e32 : ((s[k].toNat : Int) == 32) = false := byte_ne (n := 32) (by omega) hb
          have HF := hid (fun W => rword_any s k W hs hlt)
          have hne := drop_head s k hlt
          have h32 : (s.data.toList.drop k).headD 0 ≠ 32 := by rw [drop_cons s k hlt]; simpa using hb
          have hwl := word_len (s.data.toList.drop k)
          rw [List.length_drop, len_data] at hwl
          have hbad := fun h => scanF_bad k L hne h32 h
          have hword := fun h => scanF_word k L hne h32 h
          rw [hr2] at hbad hword
          generalize wordF (s.data.toList.drop k) = q at HF hbad hword hwl
          obtain ⟨a, l, n⟩ := q
          simp only at hbad hword hwl
          clear hr2 hne h32 hr
          by_cases hn : n = 0
          · subst hn
            have HB := hid (HN.out k (hbad rfl))
            clear hbad hword
            unfold rwv at HF
            simp only [if_pos rfl] at HF
            go_wp2_with (go_at_call 72; refine (HF.out _).mono ?_; rintro e w1 ⟨rfl, q1⟩; have HQ1 := hid (HQ.out.trans q1); clear q1)
            go_ret3
            exact ⟨ScanRet.no HB.out rfl, HQ1.out.alloc _⟩
          · have hn' : ((n : Int) == 0) = false := by rw [beq_eq_false_iff_ne]; omega
            have hw2 := hword hn
            rw [List.drop_drop] at hw2
            have HW2 := hid hw2.symm
            clear hbad hword hw2
            unfold rwv at HF
            simp only [if_neg hn] at HF
            go_wp2_with (first | (go_at_call 72; refine (HF.out _).mono ?_; rintro e w1 ⟨rfl, q1⟩; have HO1 := hid (HO.out.on q1); have HQ1 := hid (HQ.out.trans q1); clear q1) | (at_builtin; refine wpList_append_own _ rfl _ _ 66 rfl w.heap.size 74 i0 (.agg #[.int .i64 0, .string ⟨#[]⟩, .int .i64 0]) 3 32 Tryz.underlying66 HI.out.1 HI.out.2.1 HI.out.2.2.1 HI.out.2.2.2 rfl (by decide) _ _ _ rfl ((HO1.out.alloc _).alloc _) _ 1 1 [.int .i64 (a : Int), .string ⟨l.toArray⟩, .int .i64 (k : Int)] rfl rfl (news_at _ [.int .i64 (a : Int), .string ⟨l.toArray⟩, .int .i64 (k : Int)] 74 _ (by simp)) (wd_one ⟨a, l, k⟩) (by unfold maxLen; omega) (by omega) (by have := HQ1.out.size; simp; omega) ?_))
            intro v3 w3 hown' hgrow _
            have HO3 := hid (own_snoc' (enc := wd) (x := ⟨a, l, k⟩) hown' rfl)
            have HQ3 : Hid (Q w w3) := Below.grown ((HQ1.out.alloc _).alloc _) hgrow (by have := HQ1.out.size; simp; omega) (HO1.out.blk)
            clear hown' hgrow HO1 HQ1 HO HQ
            go_wp2_with fail
            go_roundw
            case rel => exact ⟨k + n, _, by omega, by go_num, by simp; omega, HO3.out, HQ3.out, HW2⟩
            case measure => simp [intOf]; omega
      · have hr2 := hr.out
        rw [List.drop_of_length_le (by simp; omega), scanF_nil] at hr2
        have HB := hid (HY.out L 0 hr2.symm)
        clear hr2 hr
        go_wp2_with (at_builtin; refine wpList_append_own _ rfl _ _ 66 rfl w.heap.size 74 i0 (.agg #[.int .i64 0, .string ⟨#[]⟩, .int .i64 0]) 3 32 Tryz.underlying66 HI.out.1 HI.out.2.1 HI.out.2.2.1 HI.out.2.2.2 rfl (by decide) _ _ _ rfl (HO.out.alloc _) _ 1 1 [.int .i64 7, .string ⟨#[]⟩, .int .i64 (s.size : Int)] rfl rfl (news_at _ [.int .i64 7, .string ⟨#[]⟩, .int .i64 (s.size : Int)] 74 _ (by simp)) (wd_one ⟨7, [], s.size⟩) (by unfold maxLen; omega) (by omega) (by have := HQ.out.size; simp; omega) ?_)
        intro v3 w3 hown' hgrow _
        have HO3 := hid (own_snoc' (enc := wd) (x := ⟨7, [], s.size⟩) hown' rfl)
        have HQ3 : Hid (Q w w3) := Below.grown (HQ.out.alloc _) hgrow (by have := HQ.out.size; simp; omega) (HO.out.blk)
        clear hown' hgrow HO HQ
        go_wp2_with fail
        go_ret3
        exact ⟨ScanRet.yes HB.out (HO3.out.sl wd_len (by decide)), HQ3.out⟩
end Go.Proofs.YtgheopdadfnilaaGreatDoor
namespace Go.Proofs.YtgheopdadfnilaaGreatDoor
open Go.RowKit
def finS (L : List Wd) (r : Ex × St) : Ex × Nat :=
  if r.2.bd = true ∨ kAt L r.2.i ≠ 7 then (zeroE, 2) else if 200 < r.2.n ∨ 50 < dp 51 r.1 then (zeroE, 3) else (r.1, 0)
theorem ps_new (w : World) (L : List Wd) (b off cap : Nat) (h : Sw w L (.slice (some ⟨b, off, none⟩) L.length cap) b off cap) (hpos : 0 < L.length) : PS (w.alloc (.cells #[.slice (some ⟨b, off, none⟩) L.length cap, .int .i64 0, .bool false, .int .i64 0] 71)) w.heap.size L b off cap 0 false 0 := by
  have hb : b < w.heap.size := World.block_lt_of_cell? w ⟨b, off + 0 * 3, none⟩ (h.k 0 hpos)
  have sv : Sv w L (.slice (some ⟨b, off, none⟩) L.length cap) b off cap := ⟨rfl, h.le, h.mx, h.k, h.t, h.p⟩
  refine ⟨?_, ?_, ?_, ?_, ?_, ?_, ?_, sv.on (p := w.heap.size) ((Qx.refl _ _).alloc _) (by omega), by omega⟩
  all_goals simp [World.cell?_alloc_new, World.frozen?_alloc_new]
set_option maxHeartbeats 8000000 in
theorem rparse_scan (s : ByteArray) (W : World) (hs : s.size ≤ 100000) (n : Nat) (hn : scanL s.data.toList = (none, n)) :
    Calls Tryz.prog 13 #[.string s] W fun e W' => RepR W (zeroE, 2) e W' := by
  have HZ := hid (tb_new W (.int .i64 0) (.int .i64 0) (.string ⟨#[]⟩) (.bool false) (.int .i64 0) (.slice none 0 0) (.slice none 0 0) 26)
  have HSc := hid (fun W1 => rscan_any s W1 hs)
  have HN := hid hn
  clear hn
  go_enter Tryz.func13, Tryz.ntmps13
  go_wp2_with (go_at_call 37; refine (HSc.out _).mono ?_; rintro e w1 ⟨h1, q1⟩; rw [HN.out] at h1; have h1' := ScanRet.none h1; subst h1'; have Q1 : Hid (Q W w1) := hid (Q.trans (by repeat (first | with_reducible exact Q.refl _ | with_reducible refine Q.drewN ?_ _ | with_reducible refine Q.drew ?_ | with_reducible refine Q.alloc ?_ _ | with_reducible refine Q.setCell ?_ (by simp) _)) q1); have Z1 := hid (HZ.out.on (p := W.heap.size + 1) (Qx.of q1) (by omega)); clear q1 h1; have d0 := Z1.out.g0; have d1 := Z1.out.g1; have d2 := Z1.out.g2; have d3 := Z1.out.g3; have d4 := Z1.out.g4; have d5 := Z1.out.g5; have d6 := Z1.out.g6; have y0 := Z1.out.f 0; have y1 := Z1.out.f 1; have y2 := Z1.out.f 2; have y3 := Z1.out.f 3; have y4 := Z1.out.f 4; have y5 := Z1.out.f 5; have y6 := Z1.out.f 6)
  refine bodyPost_ret (v := .tuple #[.agg #[.int .i64 0, .int .i64 0, .string ⟨#[]⟩, .bool false, .int .i64 0, .slice none 0 0, .slice none 0 0], .int .i64 2]) (by simp [results, Tryz.results13, go_sem, d0, d1, d2, d3, d4, d5, d6]) rfl ?_
  exact ⟨_, rfl, rdz _ _, Q.setCell (Q.setCell (Q.setCell (Q.setCell (Q.setCell (Q.setCell (Q.setCell Q1.out (Nat.le_refl _) _) (Nat.le_refl _) _) (Nat.le_refl _) _) (Nat.le_refl _) _) (Nat.le_refl _) _) (Nat.le_refl _) _) (Nat.le_refl _) _⟩
set_option maxHeartbeats 8000000 in
theorem rparse_bad (s : ByteArray) (W : World) (hs : s.size ≤ 100000) (L : List Wd) (n f : Nat) (r : Ex × St) (hn : scanL s.data.toList = (some L, n)) (hpt : treeF EE L f 1 ⟨0, false, 0⟩ = some r) (hb : r.2.bd = true) :
    Calls Tryz.prog 13 #[.string s] W fun e W' => RepR W (zeroE, 2) e W' := by
  have HZ := hid (tb_new W (.int .i64 0) (.int .i64 0) (.string ⟨#[]⟩) (.bool false) (.int .i64 0) (.slice none 0 0) (.slice none 0 0) 26)
  have HSc := hid (fun W1 => rscan_any s W1 hs)
  have HN := hid hn
  obtain ⟨hpos, hr, hE, hG, hK, hz⟩ := scan_good hn
  have HPr := hid (fun W1 p b off cap (g : PS W1 p L b off cap 0 false 0) => (ref_all L hE hG hK hr hz p b off cap f).1 1 ⟨0, false, 0⟩ r W1 (by omega) (by omega) hpt g hpos (Nat.le_refl _))
  have hF := ((fwd_all EE L hE f).1 _ _ _ (by omega) hpt hpos).1
  have hil : r.2.i < L.length := hF.lt
  have hnl : r.2.n ≤ 50000 := by have h1 := hF.nd; have h2 := hF.lt; simp at h1; omega
  have HDp := hid (fun W1 v (h : Rd W1 r.1 v) => depth_any 51 r.1 v W1 51 rfl (by omega) h)
  have hdl := dp_le 51 r.1
  have hkg := kAt_get hil
  clear hn hF
  go_enter Tryz.func13, Tryz.ntmps13
  go_upto_region 6 with (first | (go_at_call 37; refine (HSc.out _).mono ?_; rintro e w1 ⟨h1, q1⟩; rw [HN.out] at h1; obtain ⟨sv, h1', hsl⟩ := ScanRet.some h1; subst h1'; obtain ⟨b, off, cap, hsw⟩ := sw_of hsl hpos; obtain rfl := hsw.ev; have Q1 : Hid (Q W w1) := hid (Q.trans (by repeat (first | with_reducible exact Q.refl _ | with_reducible refine Q.drewN ?_ _ | with_reducible refine Q.drew ?_ | with_reducible refine Q.alloc ?_ _ | with_reducible refine Q.setCell ?_ (by simp) _)) q1); have hs1 : W.heap.size < w1.heap.size := (by have := q1.size; simp at this; omega); have Z1 := hid (HZ.out.on (p := W.heap.size + 1) (Qx.of q1) (by omega)); have P1 : Hid (PS (w1.alloc (.cells #[.slice (some ⟨b, off, none⟩) L.length cap, .int .i64 0, .bool false, .int .i64 0] 71)) w1.heap.size L b off cap 0 false 0) := hid (ps_new w1 L b off cap hsw hpos); clear q1 h1 hsl hsw) | (go_at_call 38; refine (HPr.out _ _ _ _ _ P1.out).mono ?_; rintro e w2 ⟨v, rfl, hr2, q2, p2⟩; obtain ⟨k, m, t, bb, er, a1, l1, c1, a2, l2, c2, rfl⟩ := hr2.shape; have R2 := hid hr2; have Q2 := hid q2; have P2 := hid (p2.on ((Q.refl _).alloc (.cells #[.int .i64 k, .int .i64 m, .string t, .bool bb, .int .i64 er, .slice a1 l1 c1, .slice a2 l2 c2] 26))); have Z2 := hid (((Z1.out.on (p := w1.heap.size) ((Qx.refl _ _).alloc _) (by omega)).on q2 (by omega)).on (p := w1.heap.size) ((Qx.refl _ _).alloc (.cells #[.int .i64 k, .int .i64 m, .string t, .bool bb, .int .i64 er, .slice a1 l1 c1, .slice a2 l2 c2] 26)) (by omega)); have X2 := hid (tb_new w2 (.int .i64 k) (.int .i64 m) (.string t) (.bool bb) (.int .i64 er) (.slice a1 l1 c1) (.slice a2 l2 c2) 26); have hs2 : w1.heap.size < w2.heap.size := (by have := q2.size; simp at this; omega); have QW : Hid (Q W (w2.alloc (.cells #[.int .i64 k, .int .i64 m, .string t, .bool bb, .int .i64 er, .slice a1 l1 c1, .slice a2 l2 c2] 26))) := hid (((Q1.out.alloc _).viax q2 (by omega)).alloc _); clear hr2 q2 p2))
  obtain ⟨V2, hV2, P2v, Z2v, X2v, QWv, RV, hsv⟩ : ∃ V2, V2 = w2.alloc (.cells #[.int .i64 k, .int .i64 m, .string t, .bool bb, .int .i64 er, .slice a1 l1 c1, .slice a2 l2 c2] 26) ∧ PS V2 w1.heap.size L b off cap r.2.i r.2.bd r.2.n ∧ Tb V2 W.heap.size (.int .i64 0) (.int .i64 0) (.string ⟨#[]⟩) (.bool false) (.int .i64 0) (.slice none 0 0) (.slice none 0 0) ∧ Tb V2 w2.heap.size (.int .i64 k) (.int .i64 m) (.string t) (.bool bb) (.int .i64 er) (.slice a1 l1 c1) (.slice a2 l2 c2) ∧ Q W V2 ∧ Rdg (fun b => W.heap.size + 1 ≤ b) V2 r.1 (.agg #[.int .i64 k, .int .i64 m, .string t, .bool bb, .int .i64 er, .slice a1 l1 c1, .slice a2 l2 c2]) ∧ w2.heap.size < V2.heap.size :=
    ⟨_, rfl, P2.out, Z2.out, X2.out, QW.out, Rdg.on (p := W.heap.size) ((Qx.refl _ _).alloc _) (fun b hb => by omega) _ _ (Rdg.mono (fun b hb => by simp at hb; omega) _ _ R2.out), by simp⟩
  rw [← hV2]
  have P2h := hid P2v
  have Z2h := hid Z2v
  have X2h := hid X2v
  have QWh := hid QWv
  have RVh := hid RV
  have c0 := P2v.c0
  have c1' := P2v.c1
  have c2' := P2v.c2
  have c3 := P2v.c3
  have v0 := P2v.sw.k r.2.i hil
  rw [← hkg.1] at v0
  have n0 := X2v.g0
  have n1 := X2v.g1
  have n2 := X2v.g2
  have n3 := X2v.g3
  have n4 := X2v.g4
  have n5 := X2v.g5
  have n6 := X2v.g6
  have d0 := Z2v.g0
  have d1 := Z2v.g1
  have d2 := Z2v.g2
  have d3 := Z2v.g3
  have d4 := Z2v.g4
  have d5 := Z2v.g5
  have d6 := Z2v.g6
  have y0 := Z2v.f 0
  have y1 := Z2v.f 1
  have y2 := Z2v.f 2
  have y3 := Z2v.f 3
  have y4 := Z2v.f 4
  have y5 := Z2v.f 5
  have y6 := Z2v.f 6
  clear hV2 P2v Z2v X2v QWv RV P2 Z2 X2 QW R2 hkg
  rw [hb] at c2'
  go_quiet (fail)
  go_wp2_with fail
  refine bodyPost_ret (v := .tuple #[.agg #[.int .i64 0, .int .i64 0, .string ⟨#[]⟩, .bool false, .int .i64 0, .slice none 0 0, .slice none 0 0], .int .i64 2]) (by simp [results, Tryz.results13, go_sem, d0, d1, d2, d3, d4, d5, d6]) rfl ?_
  exact ⟨_, rfl, rdz _ _, Q.setCell (Q.setCell (Q.setCell (Q.setCell (Q.setCell (Q.setCell (Q.setCell (QWh.out.drewN _) (Nat.le_refl _) _) (Nat.le_refl _) _) (Nat.le_refl _) _) (Nat.le_refl _) _) (Nat.le_refl _) _) (Nat.le_refl _) _) (Nat.le_refl _) _⟩
set_option maxHeartbeats 8000000 in
theorem rparse_end (s : ByteArray) (W : World) (hs : s.size ≤ 100000) (L : List Wd) (n f : Nat) (r : Ex × St) (hn : scanL s.data.toList = (some L, n)) (hpt : treeF EE L f 1 ⟨0, false, 0⟩ = some r) (hb : r.2.bd = false) (hk : kAt L r.2.i ≠ 7) :
    Calls Tryz.prog 13 #[.string s] W fun e W' => RepR W (zeroE, 2) e W' := by
  have HZ := hid (tb_new W (.int .i64 0) (.int .i64 0) (.string ⟨#[]⟩) (.bool false) (.int .i64 0) (.slice none 0 0) (.slice none 0 0) 26)
  have HSc := hid (fun W1 => rscan_any s W1 hs)
  have HN := hid hn
  obtain ⟨hpos, hr, hE, hG, hK, hz⟩ := scan_good hn
  have HPr := hid (fun W1 p b off cap (g : PS W1 p L b off cap 0 false 0) => (ref_all L hE hG hK hr hz p b off cap f).1 1 ⟨0, false, 0⟩ r W1 (by omega) (by omega) hpt g hpos (Nat.le_refl _))
  have hF := ((fwd_all EE L hE f).1 _ _ _ (by omega) hpt hpos).1
  have hil : r.2.i < L.length := hF.lt
  have hnl : r.2.n ≤ 50000 := by have h1 := hF.nd; have h2 := hF.lt; simp at h1; omega
  have HDp := hid (fun W1 v (h : Rd W1 r.1 v) => depth_any 51 r.1 v W1 51 rfl (by omega) h)
  have hdl := dp_le 51 r.1
  have hkg := kAt_get hil
  clear hn hF
  have k7 : ((kAt L r.2.i : Int) == 7) = false := by rw [beq_eq_false_iff_ne]; omega
  have k7b : ¬ (kAt L r.2.i : Int) = 7 := by omega
  have k7c : ((kAt L r.2.i : Int) != 7) = true := by simpa using k7b
  clear hk
  go_enter Tryz.func13, Tryz.ntmps13
  go_upto_region 6 with (first | (go_at_call 37; refine (HSc.out _).mono ?_; rintro e w1 ⟨h1, q1⟩; rw [HN.out] at h1; obtain ⟨sv, h1', hsl⟩ := ScanRet.some h1; subst h1'; obtain ⟨b, off, cap, hsw⟩ := sw_of hsl hpos; obtain rfl := hsw.ev; have Q1 : Hid (Q W w1) := hid (Q.trans (by repeat (first | with_reducible exact Q.refl _ | with_reducible refine Q.drewN ?_ _ | with_reducible refine Q.drew ?_ | with_reducible refine Q.alloc ?_ _ | with_reducible refine Q.setCell ?_ (by simp) _)) q1); have hs1 : W.heap.size < w1.heap.size := (by have := q1.size; simp at this; omega); have Z1 := hid (HZ.out.on (p := W.heap.size + 1) (Qx.of q1) (by omega)); have P1 : Hid (PS (w1.alloc (.cells #[.slice (some ⟨b, off, none⟩) L.length cap, .int .i64 0, .bool false, .int .i64 0] 71)) w1.heap.size L b off cap 0 false 0) := hid (ps_new w1 L b off cap hsw hpos); clear q1 h1 hsl hsw) | (go_at_call 38; refine (HPr.out _ _ _ _ _ P1.out).mono ?_; rintro e w2 ⟨v, rfl, hr2, q2, p2⟩; obtain ⟨k, m, t, bb, er, a1, l1, c1, a2, l2, c2, rfl⟩ := hr2.shape; have R2 := hid hr2; have Q2 := hid q2; have P2 := hid (p2.on ((Q.refl _).alloc (.cells #[.int .i64 k, .int .i64 m, .string t, .bool bb, .int .i64 er, .slice a1 l1 c1, .slice a2 l2 c2] 26))); have Z2 := hid (((Z1.out.on (p := w1.heap.size) ((Qx.refl _ _).alloc _) (by omega)).on q2 (by omega)).on (p := w1.heap.size) ((Qx.refl _ _).alloc (.cells #[.int .i64 k, .int .i64 m, .string t, .bool bb, .int .i64 er, .slice a1 l1 c1, .slice a2 l2 c2] 26)) (by omega)); have X2 := hid (tb_new w2 (.int .i64 k) (.int .i64 m) (.string t) (.bool bb) (.int .i64 er) (.slice a1 l1 c1) (.slice a2 l2 c2) 26); have hs2 : w1.heap.size < w2.heap.size := (by have := q2.size; simp at this; omega); have QW : Hid (Q W (w2.alloc (.cells #[.int .i64 k, .int .i64 m, .string t, .bool bb, .int .i64 er, .slice a1 l1 c1, .slice a2 l2 c2] 26))) := hid (((Q1.out.alloc _).viax q2 (by omega)).alloc _); clear hr2 q2 p2))
  obtain ⟨V2, hV2, P2v, Z2v, X2v, QWv, RV, hsv⟩ : ∃ V2, V2 = w2.alloc (.cells #[.int .i64 k, .int .i64 m, .string t, .bool bb, .int .i64 er, .slice a1 l1 c1, .slice a2 l2 c2] 26) ∧ PS V2 w1.heap.size L b off cap r.2.i r.2.bd r.2.n ∧ Tb V2 W.heap.size (.int .i64 0) (.int .i64 0) (.string ⟨#[]⟩) (.bool false) (.int .i64 0) (.slice none 0 0) (.slice none 0 0) ∧ Tb V2 w2.heap.size (.int .i64 k) (.int .i64 m) (.string t) (.bool bb) (.int .i64 er) (.slice a1 l1 c1) (.slice a2 l2 c2) ∧ Q W V2 ∧ Rdg (fun b => W.heap.size + 1 ≤ b) V2 r.1 (.agg #[.int .i64 k, .int .i64 m, .string t, .bool bb, .int .i64 er, .slice a1 l1 c1, .slice a2 l2 c2]) ∧ w2.heap.size < V2.heap.size :=
    ⟨_, rfl, P2.out, Z2.out, X2.out, QW.out, Rdg.on (p := W.heap.size) ((Qx.refl _ _).alloc _) (fun b hb => by omega) _ _ (Rdg.mono (fun b hb => by simp at hb; omega) _ _ R2.out), by simp⟩
  rw [← hV2]
  have P2h := hid P2v
  have Z2h := hid Z2v
  have X2h := hid X2v
  have QWh := hid QWv
  have RVh := hid RV
  have c0 := P2v.c0
  have c1' := P2v.c1
  have c2' := P2v.c2
  have c3 := P2v.c3
  have v0 := P2v.sw.k r.2.i hil
  rw [← hkg.1] at v0
  have n0 := X2v.g0
  have n1 := X2v.g1
  have n2 := X2v.g2
  have n3 := X2v.g3
  have n4 := X2v.g4
  have n5 := X2v.g5
  have n6 := X2v.g6
  have d0 := Z2v.g0
  have d1 := Z2v.g1
  have d2 := Z2v.g2
  have d3 := Z2v.g3
  have d4 := Z2v.g4
  have d5 := Z2v.g5
  have d6 := Z2v.g6
  have y0 := Z2v.f 0
  have y1 := Z2v.f 1
  have y2 := Z2v.f 2
  have y3 := Z2v.f 3
  have y4 := Z2v.f 4
  have y5 := Z2v.f 5
  have y6 := Z2v.f 6
  clear hV2 P2v Z2v X2v QWv RV P2 Z2 X2 QW R2 hkg
  rw [hb] at c2'
  generalize (kAt L r.2.i : Int) = kk at v0 k7 k7b k7c
  go_quiet (fail)
  go_wp2_with fail
  refine bodyPost_ret (v := .tuple #[.agg #[.int .i64 0, .int .i64 0, .string ⟨#[]⟩, .bool false, .int .i64 0, .slice none 0 0, .slice none 0 0], .int .i64 2]) (by simp [results, Tryz.results13, go_sem, d0, d1, d2, d3, d4, d5, d6]) rfl ?_
  exact ⟨_, rfl, rdz _ _, Q.setCell (Q.setCell (Q.setCell (Q.setCell (Q.setCell (Q.setCell (Q.setCell (QWh.out.drewN _) (Nat.le_refl _) _) (Nat.le_refl _) _) (Nat.le_refl _) _) (Nat.le_refl _) _) (Nat.le_refl _) _) (Nat.le_refl _) _) (Nat.le_refl _) _⟩
end Go.Proofs.YtgheopdadfnilaaGreatDoor
