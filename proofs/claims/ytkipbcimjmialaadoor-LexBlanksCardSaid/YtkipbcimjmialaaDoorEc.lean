/- LexBlanks, walked. -/
import Derived.Test.YtkipbcimjmialaaDoorEb
import Derived.Test.YtkipbcimjmialaaDoorDa
import Derived.BigQuiet
import Derived.Deep.CutBlock
import Derived.Deep.CutRange
namespace Go.Proofs.YtkipbcimjmialaaDoor
open Go.RowKit
set_option linter.unusedVariables false
set_option linter.unusedSimpArgs false


theorem okP_drop {m : Nat} : ∀ (i : Nat) (L : List Wd), okP m L → okP m (L.drop i)
  | 0, _, h => h
  | i + 1, [], h => by simp [okP]
  | i + 1, [a], h => by simp [okP]
  | i + 1, a :: b :: r, h => by
    rw [List.drop_succ_cons]
    exact okP_drop i (b :: r) h.2.2
theorem drop_two (L : List Wd) (i : Nat) (h : i + 1 < L.length) : L.drop i = L[i] :: L[i + 1] :: L.drop (i + 2) := by
  rw [List.drop_eq_getElem_cons (by omega), List.drop_eq_getElem_cons (by omega)]
/-- kind and text -/
def kt (x : Wd) : Nat × List UInt8 := (x.k, x.t)
theorem blanks_all (l : List UInt8) (n : Nat) (LE : List Wd) (z : Nat) (h : scanL l = (some LE, z)) (hl : l.length ≤ 200) (hn : n ≤ 3) :
    okP l.length LE ∧ (bt l n LE).length ≤ 1000 ∧ ∃ LE2, scanL (bt l n LE) = (some LE2, 0) ∧ LE2.map kt = LE.map kt := by
  unfold scanL at h
  rw [if_neg (by omega)] at h
  split at h
  · rename_i L z' hs
    simp only [Prod.mk.injEq, Option.some.injEq] at h
    obtain ⟨rfl, _⟩ := h
    rw [scanF_blk, Nat.zero_add] at hs
    have hb := blk_le l
    obtain ⟨L1, hM, _, hok, hlen, _, hbl, hsc⟩ := blanks_main l n (l.length - blk l) (blk l) [] L z' (Nat.le_refl _) hb (head_blk l) hs
    rw [List.nil_append] at hM
    subst hM
    have hmul : n * L.length ≤ 3 * 200 := Nat.mul_le_mul hn (by omega)
    have hlen2 : (bt l n (L ++ [⟨7, [], l.length⟩])).length ≤ 1000 := by
      have : (bt l n (L ++ [⟨7, [], l.length⟩])).length ≤ l.length - blk l + n * L.length := hbl
      omega
    refine ⟨hok, hlen2, ?_⟩
    obtain ⟨L2, h1, h2⟩ := hsc 0 []
    refine ⟨L2 ++ [⟨7, [], (bt l n (L ++ [⟨7, [], l.length⟩])).length⟩], scanL_yes (by omega) h1, ?_⟩
    rw [List.map_append, List.map_append]
    congr 1
  · cases h
theorem kt_at {L L2 : List Wd} (h : L2.map kt = L.map kt) (i : Nat) (hi : i < L.length) (hi2 : i < L2.length) : L2[i].k = L[i].k ∧ L2[i].t = L[i].t := by
  have e := congrArg (·[i]?) h
  simp only [List.getElem?_map, List.getElem?_eq_getElem hi, List.getElem?_eq_getElem hi2, Option.map_some, Option.some.injEq, kt, Prod.mk.injEq] at e
  exact e
theorem kt_len {L L2 : List Wd} (h : L2.map kt = L.map kt) : L2.length = L.length := by
  have := congrArg List.length h
  simpa using this
theorem pad_data (n : Nat) (h : n ≤ 3) : ((⟨#[32, 32, 32]⟩ : ByteArray).extract 0 n).data.toList = List.replicate n 32 := by
  rcases (by omega : n = 0 ∨ n = 1 ∨ n = 2 ∨ n = 3) with rfl | rfl | rfl | rfl <;> rfl
theorem cat_list (a b : ByteArray) : (a ++ b).data.toList = a.data.toList ++ b.data.toList := by simp
theorem bt_step {l : List UInt8} {n : Nat} {a b : Wd} {r : List Wd} : bt l n (a :: b :: r) = (l.drop a.p).take (b.p - a.p) ++ ((if a.k = 4 then [] else List.replicate n 32) ++ bt l n (b :: r)) := rfl

set_option maxHeartbeats 8000000 in
theorem lexblanks_any (s : ByteArray) (n0 : Int) (w : World) (hw : Std w) : Calls Tryd.prog 4 #[.string s, .int .i64 n0] w fun e w' => e = .returned (.bool true) ∧ Q w w' := by
  have HB := hid (begun_any w hw)
  have HT := hid (fun W => short_any s 200 W (by omega) (by omega))
  have hz : (if (200 : Int) < (s.size : Int) then s.extract 0 (200 : Int).toNat else s).size ≤ 200 := short_le s 200
  generalize (if (200 : Int) < (s.size : Int) then s.extract 0 (200 : Int).toNat else s) = S at HT hz
  have HP := hid (fun W (q : Q w W) => scan_any S W (hw.on q) (by omega))
  obtain ⟨n, hn3, hn⟩ : ∃ n : Nat, n ≤ 3 ∧ (if n0 < 0 ∨ 3 < n0 then (1 : Int) else n0) = (n : Int) := by
    by_cases h : n0 < 0 ∨ 3 < n0
    · exact ⟨1, by omega, by rw [if_pos h]; rfl⟩
    · exact ⟨n0.toNat, by omega, by rw [if_neg h]; omega⟩
  have HN := hid hn
  have HW := hid hw
  clear hn hw
  go_enter Tryd.func4, Tryd.ntmps4
  go_upto_region 5 with (first | (go_at_call 5; refine HB.out.mono ?_; rintro e w1 ⟨rfl, q1⟩; have Q1 := hid q1; clear q1) | (go_at_call 6; refine (HT.out _).mono ?_; rintro e w9 ⟨rfl, h9⟩; replace h9 := h9.symm; subst h9))
  go_cut [25] from 20 to 24 (fun x W => x = .bool (decide (n0 < 0 ∨ 3 < n0)) ∧ W = w1)
  case first =>
    by_cases h1 : n0 < 0
    · have e : decide (n0 < 0 ∨ 3 < n0) = true := decide_eq_true (Or.inl h1)
      go_wp2_with fail
      go_meet
      exact ⟨by rw [e], rfl⟩
    · by_cases h2 : 3 < n0
      · have e : decide (n0 < 0 ∨ 3 < n0) = true := decide_eq_true (Or.inr h2)
        go_wp2_with fail
        go_meet
        exact ⟨by rw [e], rfl⟩
      · have e : decide (n0 < 0 ∨ 3 < n0) = false := decide_eq_false (by omega)
        go_wp2_with fail
        go_meet
        exact ⟨by rw [e], rfl⟩
  case rest =>
    obtain ⟨rfl, hcw⟩ := hcut
    replace hcw := hcw.symm
    subst hcw
    go_upto_if 25 with fail
    go_cut [1] from 20 to 25 (fun x W => x = .int .i64 (n : Int) ∧ W = w1)
    case first =>
      by_cases h1 : n0 < 0 ∨ 3 < n0
      · have e : decide (n0 < 0 ∨ 3 < n0) = true := decide_eq_true h1
        have HN2 : Hid ((1 : Int) = (n : Int)) := by show _ = _; rw [← HN.out, if_pos h1]
        simp only [e]
        go_wp2_with fail
        go_meet
        exact ⟨by rw [HN2.out], rfl⟩
      · have e : decide (n0 < 0 ∨ 3 < n0) = false := decide_eq_false h1
        have HN2 : Hid (n0 = (n : Int)) := by show _ = _; rw [← HN.out, if_neg h1]
        simp only [e]
        go_wp2_with fail
        go_meet
        exact ⟨by rw [HN2.out], rfl⟩
    case rest =>
      obtain ⟨rfl, hcw⟩ := hcut
      replace hcw := hcw.symm
      subst hcw
      clear HN
      cases ho : scanL S.data.toList with
      | mk o z =>
        rw [ho] at HP
        cases o with
        | none =>
          clear ho
          go_wp2_with (go_at_call 7; refine (HP.out _ Q1.out).mono ?_; rintro e w2 ⟨hr, q2⟩; obtain rfl := hr.none; have Q2 := hid (Q1.out.trans q2); clear q2 hr)
          go_ret
          exact ⟨rfl, Q2.out⟩
        | some L =>
          have hL0 := scanL_pos ho
          obtain ⟨hok, hbl, LE2, hs2, hkt⟩ := blanks_all S.data.toList n L z ho (by simpa using hz) hn3
          rw [len_data] at hok
          have hl2 := kt_len hkt
          have HKT := hid hkt
          have HOK := hid hok
          obtain ⟨TT, hTT⟩ : ∃ TT, bt S.data.toList n L = TT := ⟨_, rfl⟩
          rw [hTT] at hs2 hbl
          have HTT := hid hTT
          have HP2 : Hid (∀ (A : ByteArray), A.data.toList = TT → ∀ W, Q w W → Calls Tryd.prog 7 #[.string A] W fun e w' => ScanRet (some LE2, 0) e w' ∧ Q W w') := hid (fun A hA W q => by
            have hz2 : A.size ≤ 1000 := by rw [← len_data, hA]; exact hbl
            have := scan_any A W (HW.out.on q) (by omega)
            rw [hA, hs2] at this
            exact this)
          clear ho hok hkt hs2 hTT HW
          go_wp2_with (go_at_call 7; refine (HP.out _ Q1.out).mono ?_; rintro e w2 ⟨hr, q2⟩; obtain ⟨v, rfl, hv⟩ := hr.some; have Q2 := hid (Q1.out.trans q2); obtain ⟨b, off, cap, hsw⟩ := sw_of hv hL0; clear hv hr q2; have hsw := hid hsw; obtain rfl := hsw.out.ev)
          have hroom := hsw.out.room
          go_loopw [9, 10] (fun x y W => ∃ (i : Nat) (A : ByteArray), i + 1 ≤ L.length ∧ x = .string A ∧ y = .int .i64 (i : Int) ∧ Q w2 W ∧ Hid (A.data.toList ++ bt S.data.toList n (L.drop i) = TT)) (fun _ y _ => L.length - (intOf y).toNat)
          case atStart => exact ⟨0, ⟨#[]⟩, by omega, rfl, rfl, Q.refl _, HTT⟩
          case round =>
            obtain ⟨i, A, hi, rfl, rfl, hq, hT⟩ := hrel
            by_cases hlt : i + 1 < L.length
            · have A1 := hsw.out.on hq
              have c2 := A1.p i (by omega)
              have d2 := A1.p (i + 1) hlt
              have c0 := A1.k i (by omega)
              have HQ := hid hq
              have ed := drop_two L i hlt
              have ed1 : L.drop (i + 1) = L[i + 1] :: L.drop (i + 2) := List.drop_eq_getElem_cons hlt
              have hokd := okP_drop i L HOK.out
              have hTd := hT.out
              rw [ed] at hokd hTd
              rw [bt_step, ← ed1] at hTd
              obtain ⟨o1, o2, _⟩ := hokd
              generalize L[i].p = p0 at *
              generalize L[i + 1].p = p1 at *
              generalize L[i].k = k0 at *
              have hAz : A.size ≤ 1000 := by
                have := congrArg List.length hTd
                rw [List.length_append, len_data] at this
                omega
              obtain ⟨X, eX⟩ : ∃ X, S.extract p0 p1 = X := ⟨_, rfl⟩
              have lX : X.data.toList = (S.data.toList.drop p0).take (p1 - p0) := by rw [← eX, Lib.extract_data]
              have zX : X.size ≤ 200 := by rw [← eX]; simp; omega
              obtain ⟨C, eC⟩ : ∃ C, A ++ X = C := ⟨_, rfl⟩
              have lC : C.data.toList = A.data.toList ++ X.data.toList := by rw [← eC, cat_list]
              have zC : C.size = A.size + X.size := by rw [← len_data, lC, List.length_append, len_data, len_data]
              have kC : ¬ 9223372036854775807 < A.size + X.size := by omega
              have hp01 : (p0 : Int) ≤ (p1 : Int) := by omega
              have hp1S : (p1 : Int) ≤ (S.size : Int) := by omega
              have d2' : wr.cell? ⟨b, off + (i + 1) * 3 + 2, none⟩ = some (.int .i64 (p1 : Int)) := d2
              by_cases h4 : k0 = 4
              · have e4 : ((k0 : Int) == 4) = true := by rw [beq_iff_eq]; omega
                rw [if_pos h4, List.nil_append, ← lX, ← List.append_assoc, ← lC] at hTd
                have HR := hid hTd
                clear hTd hT ed ed1 A1 hq lX lC h4
                go_wp2_with fail
                go_quiet (fail)
                go_wp2_with fail
                go_roundw
                case rel => exact ⟨i + 1, C, by omega, rfl, by go_num, HQ.out.drewN _, HR⟩
                case measure => simp [intOf]; omega
              · have e4 : ((k0 : Int) == 4) = false := by rw [beq_eq_false_iff_ne]; omega
                obtain ⟨P, eP⟩ : ∃ P, (⟨#[32, 32, 32]⟩ : ByteArray).extract 0 n = P := ⟨_, rfl⟩
                have lP : P.data.toList = List.replicate n 32 := by rw [← eP]; exact pad_data n hn3
                have zP : P.size = n := by rw [← len_data, lP, List.length_replicate]
                obtain ⟨D, eD⟩ : ∃ D, C ++ P = D := ⟨_, rfl⟩
                have lD : D.data.toList = C.data.toList ++ P.data.toList := by rw [← eD, cat_list]
                have kD : ¬ 9223372036854775807 < C.size + P.size := by omega
                rw [if_neg h4, ← lX, ← lP, ← List.append_assoc, ← lC, ← List.append_assoc, ← lD] at hTd
                have HR := hid hTd
                clear hTd hT ed ed1 A1 hq lX lC lP lD h4
                go_wp2_with fail
                go_quiet (fail)
                go_wp2_with fail
                go_roundw
                case rel => exact ⟨i + 1, D, by omega, rfl, by go_num, HQ.out.drewN _, HR⟩
                case measure => simp [intOf]; omega
            · have hTd := hT.out
              rw [show L.drop i = [L[i]] by rw [List.drop_eq_getElem_cons (by omega), List.drop_of_length_le (by omega)]] at hTd
              have HA := hid (HP2.out A (by rw [← hTd]; simp [bt]))
              have HQ := hid hq
              have HS0 := hid (hsw.out.on hq)
              clear hTd hT hq HP2
              go_wp2_with (go_at_call 7; refine (HA.out _ (Q2.out.trans HQ.out)).mono ?_; rintro e w3 ⟨hr, q3⟩; obtain ⟨v', rfl, hv⟩ := hr.some; have Q3 := hid ((Q2.out.trans HQ.out).trans q3); obtain ⟨b', off', cap', hsw'⟩ := sw_of hv (by omega); have HS1 := hid (HS0.out.on q3); clear hv hr q3; have hsw' := hid hsw'; obtain rfl := hsw'.out.ev)
              clear HS0 HA HQ Q2 hsw
              go_loopw [14] (fun x W => ∃ k : Nat, k ≤ L.length ∧ x = .int .i64 (k : Int) ∧ Q w3 W) (fun x _ => L.length - (intOf x).toNat)
              case atStart => exact ⟨0, Nat.zero_le _, rfl, Q.refl _⟩
              case round =>
                obtain ⟨k, hk, rfl, hq⟩ := hrel
                by_cases hlt2 : k < L.length
                · have A1 := HS1.out.on hq
                  have A2 := hsw'.out.on hq
                  have hk2 := kt_at HKT.out k hlt2 (by omega)
                  have c0 := A1.k k hlt2
                  have c1 := A1.t k hlt2
                  have d0 := A2.k k (by omega)
                  have d1 := A2.t k (by omega)
                  rw [hk2.1] at d0
                  rw [hk2.2] at d1
                  have HQ := hid hq
                  clear A1 A2 hq hk2
                  generalize ((L[k].k : Nat) : Int) = a at c0 d0
                  generalize (⟨L[k].t.toArray⟩ : ByteArray) = t at c1 d1
                  go_wp2_with fail
                  go_quiet (fail)
                  go_wp2_with fail
                  go_roundw
                  case rel => exact ⟨k + 1, by omega, by go_num, HQ.out.drewN _⟩
                  case measure => simp [intOf]; omega
                · have HQ := hid hq
                  clear hq
                  go_wp2_with fail
                  go_ret
                  exact ⟨rfl, Q3.out.trans HQ.out⟩
end Go.Proofs.YtkipbcimjmialaaDoor
