/- ref.Scan, walked. -/
import Derived.Test.YtkipbcimjmialaaDoorCh
import Derived.Test.YtkipbcimjmialaaDoorBi
namespace Go.Proofs.YtkipbcimjmialaaDoor
open Go.RowKit
set_option linter.unusedVariables false
set_option linter.unusedSimpArgs false


theorem info32 : (Tryd.prog.info? 32).map (fun i => (i.zero, i.size, i.bytes)) = some (some (.agg #[.int .i64 0, .string ⟨#[]⟩, .int .i64 0]), 3, 32) := by kernel_rfl

set_option maxHeartbeats 4000000 in
theorem rscan_any (s : ByteArray) (w : World) (hs : s.size ≤ 100000) :
    Calls Tryd.prog 8 #[.string s] w fun e w' => ScanRet (scanL s.data.toList) e w' ∧ Q w w' := by
  by_cases hlong : 1000 < s.size
  · have HR := hid (scanL_long (l := s.data.toList) (by simpa using hlong))
    generalize scanL s.data.toList = o at HR ⊢
    go_enter Tryd.func8, Tryd.ntmps8
    go_wp2
    go_ret3
    exact ⟨ScanRet.no HR.out rfl, Q.refl _⟩
  · obtain ⟨i0, hi⟩ := inf_of info32
    have HI := hid hi
    have HY : Hid (∀ L n, scanF s.data.toList 0 [] = (some L, n) → scanL s.data.toList = (some (L ++ [⟨7, [], s.size⟩]), 0)) := hid (fun L n h => by rw [scanL_yes (by simpa using hlong) h]; simp)
    have HN : Hid (∀ n, scanF s.data.toList 0 [] = (none, n) → scanL s.data.toList = (none, n)) := hid (fun n h => scanL_no (by simpa using hlong) h)
    obtain ⟨R, hR⟩ : ∃ R, scanF s.data.toList 0 [] = R := ⟨_, rfl⟩
    rw [hR] at HY HN
    have HR := hid hR
    generalize scanL s.data.toList = o at HY HN ⊢
    clear hR hi
    go_enter Tryd.func8, Tryd.ntmps8
    go_wp2
    go_loopw [5, 6] (fun v x W => ∃ (k : Nat) (L : List Wd), k ≤ s.size ∧ x = .int .i64 (k : Int) ∧ L.length ≤ k ∧ Own wd 32 3 w.heap.size W v L ∧ Q w W ∧ Hid (scanF (s.data.toList.drop k) k L = R)) (fun _ x _ => s.size - (intOf x).toNat)
    case atStart => exact ⟨0, [], Nat.zero_le _, rfl, by simp, own_nil w, Q.refl _, HR⟩
    case round =>
      obtain ⟨k, L, hk, rfl, hL, hO, hQ, hr⟩ := hrel
      have HO := hid hO
      have HQ := hid hQ
      clear hO hQ
      by_cases hlt : k < s.size
      · have hr2 := hr.out
        by_cases hb : s[k] = 32
        · have e32 : ((s[k].toNat : Int) == 32) = true := eq_byte (n := 32) (by omega) hb
          rw [drop_cons s k hlt, hb, scanF_blank] at hr2
          have HR2 := hid hr2
          clear hr hr2
          go_wp2_with fail
          go_roundw
          case rel => exact ⟨k + 1, L, by omega, by go_num, by omega, HO.out, HQ.out, HR2⟩
          case measure => simp [intOf]; omega
        · have e32 : ((s[k].toNat : Int) == 32) = false := byte_ne (n := 32) (by omega) hb
          have HF := hid (fun W => rword_any s k W hs hlt)
          have hne := drop_head s k hlt
          have h32 : (s.data.toList.drop k).headD 0 ≠ 32 := by rw [drop_cons s k hlt]; simpa using hb
          have hwl := word_len (s.data.toList.drop k)
          rw [List.length_drop, len_data] at hwl
          have hbad := fun h => scanF_bad k L hne h32 h
          have hword := fun h => scanF_word k L hne h32 h
          rw [hr2] at hbad hword
          generalize wordF (s.data.toList.drop k) = q at HF hbad hword hwl
          obtain ⟨a, l, n⟩ := q
          simp only at hbad hword hwl
          clear hr2 hne h32 hr
          by_cases hn : n = 0
          · subst hn
            have HB := hid (HN.out k (hbad rfl))
            clear hbad hword
            unfold rwv at HF
            simp only [if_pos rfl] at HF
            go_wp2_with (go_at_call 11; refine (HF.out _).mono ?_; rintro e w1 ⟨rfl, q1⟩; have HQ1 := hid (HQ.out.trans q1); clear q1)
            go_ret3
            exact ⟨ScanRet.no HB.out rfl, HQ1.out.alloc _⟩
          · have hn' : ((n : Int) == 0) = false := by rw [beq_eq_false_iff_ne]; omega
            have hw2 := hword hn
            rw [List.drop_drop] at hw2
            have HW2 := hid hw2.symm
            clear hbad hword hw2
            unfold rwv at HF
            simp only [if_neg hn] at HF
            go_wp2_with (first | (go_at_call 11; refine (HF.out _).mono ?_; rintro e w1 ⟨rfl, q1⟩; have HO1 := hid (HO.out.on q1); have HQ1 := hid (HQ.out.trans q1); clear q1) | (at_builtin; refine wpList_append_own _ rfl _ _ 27 rfl w.heap.size 32 i0 (.agg #[.int .i64 0, .string ⟨#[]⟩, .int .i64 0]) 3 32 Tryd.underlying27 HI.out.1 HI.out.2.1 HI.out.2.2.1 HI.out.2.2.2 rfl (by decide) _ _ _ rfl ((HO1.out.alloc _).alloc _) _ 1 1 [.int .i64 (a : Int), .string ⟨l.toArray⟩, .int .i64 (k : Int)] rfl rfl (news_at _ [.int .i64 (a : Int), .string ⟨l.toArray⟩, .int .i64 (k : Int)] 32 _ (by simp)) (wd_one ⟨a, l, k⟩) (by unfold maxLen; omega) (by omega) (by have := HQ1.out.size; simp; omega) ?_))
            intro v3 w3 hown' hgrow _
            have HO3 := hid (own_snoc' (enc := wd) (x := ⟨a, l, k⟩) hown' rfl)
            have HQ3 : Hid (Q w w3) := Below.grown ((HQ1.out.alloc _).alloc _) hgrow (by have := HQ1.out.size; simp; omega) (HO1.out.blk)
            clear hown' hgrow HO1 HQ1 HO HQ
            go_wp2_with fail
            go_roundw
            case rel => exact ⟨k + n, _, by omega, by go_num, by simp; omega, HO3.out, HQ3.out, HW2⟩
            case measure => simp [intOf]; omega
      · have hr2 := hr.out
        rw [List.drop_of_length_le (by simp; omega), scanF_nil] at hr2
        have HB := hid (HY.out L 0 hr2.symm)
        clear hr2 hr
        go_wp2_with (at_builtin; refine wpList_append_own _ rfl _ _ 27 rfl w.heap.size 32 i0 (.agg #[.int .i64 0, .string ⟨#[]⟩, .int .i64 0]) 3 32 Tryd.underlying27 HI.out.1 HI.out.2.1 HI.out.2.2.1 HI.out.2.2.2 rfl (by decide) _ _ _ rfl (HO.out.alloc _) _ 1 1 [.int .i64 7, .string ⟨#[]⟩, .int .i64 (s.size : Int)] rfl rfl (news_at _ [.int .i64 7, .string ⟨#[]⟩, .int .i64 (s.size : Int)] 32 _ (by simp)) (wd_one ⟨7, [], s.size⟩) (by unfold maxLen; omega) (by omega) (by have := HQ.out.size; simp; omega) ?_)
        intro v3 w3 hown' hgrow _
        have HO3 := hid (own_snoc' (enc := wd) (x := ⟨7, [], s.size⟩) hown' rfl)
        have HQ3 : Hid (Q w w3) := Below.grown (HQ.out.alloc _) hgrow (by have := HQ.out.size; simp; omega) (HO.out.blk)
        clear hown' hgrow HO HQ
        go_wp2_with fail
        go_ret3
        exact ⟨ScanRet.yes HB.out (HO3.out.sl wd_len (by decide)), HQ3.out⟩
end Go.Proofs.YtkipbcimjmialaaDoor
