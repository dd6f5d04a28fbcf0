/- lex.Scan, walked. -/
import Derived.Test.YtkipbcimjmialaaDoorBh
import Derived.Test.YtkipbcimjmialaaDoorLw
namespace Go.Proofs.YtkipbcimjmialaaDoor
open Go.RowKit
set_option linter.unusedVariables false
set_option linter.unusedSimpArgs false


/-- what Scan answers -/
def scanL (l : List UInt8) : Option (List Wd) × Nat := if 1000 < l.length then (none, 0) else
  match scanF l 0 [] with
  | (some L, n) => (some (L ++ [⟨7, [], l.length⟩]), 0)
  | (none, n) => (none, n)
theorem scanL_long {l : List UInt8} (h : 1000 < l.length) : scanL l = (none, 0) := by unfold scanL; rw [if_pos h]
theorem scanL_yes {l : List UInt8} {L : List Wd} {n : Nat} (h : ¬ 1000 < l.length) (e : scanF l 0 [] = (some L, n)) : scanL l = (some (L ++ [⟨7, [], l.length⟩]), 0) := by unfold scanL; rw [if_neg h, e]
theorem scanL_no {l : List UInt8} {n : Nat} (h : ¬ 1000 < l.length) (e : scanF l 0 [] = (none, n)) : scanL l = (none, n) := by unfold scanL; rw [if_neg h, e]
/-- what is handed back, as the world holds it -/
def ScanRet (o : Option (List Wd) × Nat) (e : Ending) (W : World) : Prop :=
  match o with
  | (some L, n) => ∃ v, e = .returned (.tuple #[v, .int .i64 0, .bool true]) ∧ Sl wd 3 W v L
  | (none, n) => e = .returned (.tuple #[.slice none 0 0, .int .i64 (n : Int), .bool false])
theorem ScanRet.no {o : Option (List Wd) × Nat} {n : Nat} {W : World} {k : Int} (h : o = (none, n)) (hk : k = (n : Int)) : ScanRet o (.returned (.tuple #[.slice none 0 0, .int .i64 k, .bool false])) W := by
  subst h
  subst hk
  rfl
theorem ScanRet.yes {o : Option (List Wd) × Nat} {L : List Wd} {W : World} {v : Value} (h : o = (some L, 0)) (hv : Sl wd 3 W v L) : ScanRet o (.returned (.tuple #[v, .int .i64 0, .bool true])) W := by
  subst h
  exact ⟨v, rfl, hv⟩
theorem drop_head (s : ByteArray) (k : Nat) (h : k < s.size) : s.data.toList.drop k ≠ [] := by
  rw [drop_cons s k h]; simp

set_option maxHeartbeats 4000000 in
theorem scan_any (s : ByteArray) (w : World) (hw : Std w) (hs : s.size ≤ 100000) :
    Calls Tryd.prog 7 #[.string s] w fun e w' => ScanRet (scanL s.data.toList) e w' ∧ Q w w' := by
  by_cases hlong : 1000 < s.size
  · have HR := hid (scanL_long (l := s.data.toList) (by simpa using hlong))
    generalize scanL s.data.toList = o at HR ⊢
    go_enter Tryd.func7, Tryd.ntmps7
    go_wp2
    go_ret3
    exact ⟨ScanRet.no HR.out rfl, Q.refl _⟩
  · obtain ⟨i0, hi⟩ := inf_of info31
    have HI := hid hi
    have HY : Hid (∀ L n, scanF s.data.toList 0 [] = (some L, n) → scanL s.data.toList = (some (L ++ [⟨7, [], s.size⟩]), 0)) := hid (fun L n h => by rw [scanL_yes (by simpa using hlong) h]; simp)
    have HN : Hid (∀ n, scanF s.data.toList 0 [] = (none, n) → scanL s.data.toList = (none, n)) := hid (fun n h => scanL_no (by simpa using hlong) h)
    obtain ⟨R, hR⟩ : ∃ R, scanF s.data.toList 0 [] = R := ⟨_, rfl⟩
    rw [hR] at HY HN
    have HR := hid hR
    have HW := hid hw
    generalize scanL s.data.toList = o at HY HN ⊢
    have HP0 := hid (pass_any s 0 w (Nat.zero_le _) (by omega))
    have hb0 := blk_le s.data.toList
    rw [len_data] at hb0
    have HR0 := hR
    rw [scanF_blk] at HR0
    rw [List.drop_zero, Nat.zero_add] at HP0
    rw [Nat.zero_add] at HR0
    have hd0 := head_blk s.data.toList
    rw [len_data] at hd0
    generalize blk s.data.toList = b0 at HP0 hb0 HR0 hd0
    have HR0 := hid HR0
    have HD0 := hid hd0
    clear hR hi hw hd0
    go_enter Tryd.func7, Tryd.ntmps7
    go_wp2_with (go_at_call 9; refine HP0.out.mono ?_; rintro e w1 ⟨rfl, h1⟩; replace h1 := h1.symm; subst h1)
    go_loopw [5, 6] (fun v x W => ∃ (k : Nat) (L : List Wd), k ≤ s.size ∧ x = .int .i64 (k : Int) ∧ L.length ≤ k ∧ Own wd 31 3 w.heap.size W v L ∧ Q w W ∧ Hid (scanF (s.data.toList.drop k) k L = R) ∧ Hid (k < s.size → (s.data.toList.drop k).headD 0 ≠ 32)) (fun _ x _ => s.size - (intOf x).toNat)
    case atStart => exact ⟨b0, [], hb0, rfl, by simp, own_nil w, Q.refl _, HR0, HD0⟩
    case round =>
      obtain ⟨k, L, hk, rfl, hL, hO, hQ, hr, hh⟩ := hrel
      have HO := hid hO
      have HQ := hid hQ
      clear hO hQ
      by_cases hlt : k < s.size
      · obtain ⟨T, eT, lT, zT⟩ := drop_letters s k
        have HF := hid (first_any T wr (HW.out.on HQ.out) (by omega) (by omega))
        have hne := drop_head s k hlt
        have h32 := hh.out hlt
        have hwl := word_len (s.data.toList.drop k)
        rw [List.length_drop, len_data] at hwl
        rw [lT] at HF
        have hr2 := hr.out
        have hbad := fun h => scanF_bad k L hne h32 h
        have hword := fun h => scanF_word k L hne h32 h
        rw [hr2] at hbad hword
        generalize wordF (s.data.toList.drop k) = q at HF hbad hword hwl
        obtain ⟨a, l, n⟩ := q
        simp only at hbad hword hwl
        unfold wv at HF
        simp only at HF
        clear hr2 hne h32 hr hh lT
        by_cases hn : n = 0
        · subst hn
          have HB := hid (HN.out k (hbad rfl))
          clear hbad hword
          go_wp2_with (go_at_call 10; refine HF.out.mono ?_; rintro e w1 ⟨rfl, q1⟩; have Q1 := hid q1; clear q1)
          go_ret3
          exact ⟨ScanRet.no HB.out rfl, HQ.out.trans Q1.out⟩
        · have hn' : ((n : Int) == 0) = false := by rw [beq_eq_false_iff_ne]; omega
          have hw2 := hword hn
          rw [List.drop_drop, scanF_blk, List.drop_drop] at hw2
          have HP := hid (fun W => pass_any s (k + n) W (by omega) (by omega))
          have hb := blk_le (s.data.toList.drop (k + n))
          rw [List.length_drop, len_data] at hb
          have hd2 := head_blk (s.data.toList.drop (k + n))
          rw [List.length_drop, len_data, List.drop_drop] at hd2
          generalize blk (s.data.toList.drop (k + n)) = bb at HP hb hw2 hd2
          have HW2 := hid hw2.symm
          have HD2 : Hid (k + n + bb < s.size → (s.data.toList.drop (k + n + bb)).headD 0 ≠ 32) := hid (fun h => hd2 (by omega))
          have HP2 : Hid (∀ W, Calls Tryd.prog 9 #[.string s, .int .i64 ((k : Int) + (n : Int))] W fun e w' => e = .returned (.int .i64 ((k + n + bb : Nat) : Int)) ∧ w' = W) := HP
          clear hbad hword hw2 HP hd2
          go_wp2_with (first | (go_at_call 10; refine HF.out.mono ?_; rintro e w1 ⟨rfl, q1⟩; have HO1 := hid (HO.out.on q1); have HQ1 := hid (HQ.out.trans q1); clear q1) | (at_builtin; refine wpList_append_own _ rfl _ _ 24 rfl w.heap.size 31 i0 (.agg #[.int .i64 0, .string ⟨#[]⟩, .int .i64 0]) 3 32 Tryd.underlying24 HI.out.1 HI.out.2.1 HI.out.2.2.1 HI.out.2.2.2 rfl (by decide) _ _ _ rfl (HO1.out.alloc _) _ 1 1 [.int .i64 (a : Int), .string ⟨l.toArray⟩, .int .i64 (k : Int)] rfl rfl (news_at _ [.int .i64 (a : Int), .string ⟨l.toArray⟩, .int .i64 (k : Int)] 31 _ (by simp)) (wd_one ⟨a, l, k⟩) (by unfold maxLen; omega) (by omega) (by have := HQ1.out.size; simp; omega) ?_))
          intro v3 w3 hown' hgrow _
          have HO3 := hid (own_snoc' (enc := wd) (x := ⟨a, l, k⟩) hown' rfl)
          have HQ3 : Hid (Q w w3) := Below.grown (HQ1.out.alloc _) hgrow (by have := HQ1.out.size; simp; omega) (HO1.out.blk)
          clear hown' hgrow HO1 HQ1 HO HQ
          go_wp2_with (go_at_call 9; refine (HP2.out _).mono ?_; rintro e w1 ⟨rfl, h1⟩; replace h1 := h1.symm; subst h1)
          go_roundw
          case rel => exact ⟨k + n + bb, _, by omega, rfl, by simp; omega, HO3.out, HQ3.out, HW2, HD2⟩
          case measure => simp [intOf]; omega
      · have hr2 := hr.out
        rw [List.drop_of_length_le (by simp; omega), scanF_nil] at hr2
        have HB := hid (HY.out L 0 hr2.symm)
        clear hr2 hr hh
        go_wp2_with (at_builtin; refine wpList_append_own _ rfl _ _ 24 rfl w.heap.size 31 i0 (.agg #[.int .i64 0, .string ⟨#[]⟩, .int .i64 0]) 3 32 Tryd.underlying24 HI.out.1 HI.out.2.1 HI.out.2.2.1 HI.out.2.2.2 rfl (by decide) _ _ _ rfl (HO.out.alloc _) _ 1 1 [.int .i64 7, .string ⟨#[]⟩, .int .i64 (s.size : Int)] rfl rfl (news_at _ [.int .i64 7, .string ⟨#[]⟩, .int .i64 (s.size : Int)] 31 _ (by simp)) (wd_one ⟨7, [], s.size⟩) (by unfold maxLen; omega) (by omega) (by have := HQ.out.size; simp; omega) ?_)
        intro v3 w3 hown' hgrow _
        have HO3 := hid (own_snoc' (enc := wd) (x := ⟨7, [], s.size⟩) hown' rfl)
        have HQ3 : Hid (Q w w3) := Below.grown (HQ.out.alloc _) hgrow (by have := HQ.out.size; simp; omega) (HO.out.blk)
        clear hown' hgrow HO HQ
        go_wp2_with fail
        go_ret3
        exact ⟨ScanRet.yes HB.out (HO3.out.sl wd_len (by decide)), HQ3.out⟩
end Go.Proofs.YtkipbcimjmialaaDoor
