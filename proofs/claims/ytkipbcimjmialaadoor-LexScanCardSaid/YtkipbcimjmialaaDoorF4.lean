/- counterpaneref5.Ref, walked: a sheet told. -/
import Derived.Test.YtkipbcimjmialaaDoorF3
namespace Go.Proofs.YtkipbcimjmialaaDoor
open Go.RowKit
set_option linter.unusedVariables false
set_option linter.unusedSimpArgs false

set_option maxHeartbeats 2000000 in
theorem rref_other (S A C T E R G : ByteArray) (k : Nat) (ca ra cf : Bool) (col n : Int) (w : World) (hs : S.size ≤ 4000000000) (hC : C.size ≤ 4000000000) (j : Nat) (hj : j < S.size) (hsj : (S[j].toNat : Int) = 33) (hno : Hid ((33 : UInt8) ∉ S.data.toList.take j)) (eA : S.extract 0 j = A) (eC : S.extract (j + 1) S.size = C)
    (HI : Hid (∀ W, Calls Tryd.prog 34 #[.string A] W fun e w' => e = .returned (.bool true) ∧ w' = W))
    (hd1 : Dl C T ca) (hd2 : Dl R G ra) (hk : Hid (k = lead T.data.toList)) (hkT : k ≤ T.size) (hT : T.size ≤ 4000000000) (eE : T.extract 0 k = E) (eR : T.extract k T.size = R)
    (HK : Hid (∀ W, Calls Tryd.prog 35 #[.string E] W fun e w' => e = .returned (.tuple #[.int .i64 col, .bool cf]) ∧ w' = W))
    (n0 : -1 ≤ n) (n1 : n ≤ 2199023255552)
    (HN : Hid (∀ W, Calls Tryd.prog 36 #[.string G, .int .i64 2199023255552] W fun e w' => e = .returned (.int .i64 n) ∧ w' = W)) :
    Calls Tryd.prog 19 #[.string S] w fun e w' => e = .returned (rfR A cf n col ra ca) ∧ Q w w' := by
  go_enter Tryd.func19, Tryd.ntmps19
  go_upto_block 0 with fail
  go_cut [0, 3, 5] from 10 to 32 (fun x o i W => x = .string C ∧ o = .bool false ∧ W = ((w.alloc Z25).alloc (R25 A false false)))
  case first =>
    go_wp2_with fail
    go_loop [0, 3, 5] (fun x o i => ∃ i' : Nat, x = .string S ∧ o = .bool false ∧ i' ≤ j ∧ i = .int .i64 i') (fun _ _ i => S.size - (intOf i).toNat)
    case atStart => exact ⟨0, rfl, rfl, Nat.zero_le _, rfl⟩
    case round =>
      obtain ⟨i, rfl, rfl, hi, rfl⟩ := hrel
      by_cases hlt : i < j
      · have hn' : ((S[i].toNat : Int) == 33) = false := byte_ne (n := 33) (by omega) (fun e => hno.out (by
          have h : S[i] ∈ S.data.toList.take (i + 1) := by rw [take_snoc S i (by omega)]; simp
          rw [e] at h
          exact List.mem_of_mem_take (i := i + 1) (by rw [List.take_take, Nat.min_eq_left (by omega)]; exact h)))
        have hlt' : i < S.size := by omega
        go_wp2_with fail
        go_round
        case rel => exact ⟨i + 1, rfl, rfl, by omega, by go_num⟩
        case measure => simp [intOf]; omega
      · obtain rfl : i = j := by omega
        go_wp2_with (go_at_call 34; refine (HI.out _).mono ?_; rintro e w1 ⟨rfl, rfl⟩)
        go_meet
        exact ⟨rfl, rfl, rfl⟩
  case rest =>
    obtain ⟨rfl, rfl, rfl⟩ := hcut
    go_upto_region 10 with fail
    go_cut [40] from 33 to 39 (fun x W => x = .bool ca ∧ W = ((w.alloc Z25).alloc (R25 A false false)))
    case first =>
      rcases hd1 with ⟨rfl, h, h36, eT⟩ | ⟨rfl, hne, rfl⟩
      · have h36' : (C[0].toNat : Int) = 36 := by rw [h36]; rfl
        clear h36
        go_wp2_with fail
        go_meet
        exact ⟨rfl, rfl⟩
      · by_cases hz : 0 < C.size
        · have h36' : ((C[0].toNat : Int) == 36) = false := byte_ne (n := 36) (by omega) (hne hz)
          clear hne
          go_wp2_with fail
          go_meet
          exact ⟨rfl, rfl⟩
        · clear hne
          go_wp2_with fail
          go_meet
          exact ⟨rfl, rfl⟩
    case rest =>
      obtain ⟨rfl, rfl⟩ := hcut
      go_upto_if 40 with fail
      go_cut [0] from 33 to 43 (fun x W => x = .string T ∧ W = ((w.alloc Z25).alloc (R25 A false ca)))
      case first =>
        rcases hd1 with ⟨rfl, h, h36, eT⟩ | ⟨rfl, hne, rfl⟩
        · go_wp2_with fail
          go_meet
          exact ⟨rfl, rfl⟩
        · go_wp2_with fail
          go_meet
          exact ⟨rfl, rfl⟩
      case rest =>
        obtain ⟨rfl, rfl⟩ := hcut
        go_upto_block 2 with fail
        go_cut [6] from 44 to 61 (fun x W => x = .int .i64 (k : Int) ∧ W = ((w.alloc Z25).alloc (R25 A false ca)))
        case first =>
          go_wp2_with fail
          go_loop [6] (fun i => ∃ j : Nat, j ≤ T.size ∧ i = .int .i64 j ∧ Hid (allL (T.data.toList.take j) = true)) (fun i => T.size - (intOf i).toNat)
          case atStart => exact ⟨0, Nat.zero_le _, rfl, rfl⟩
          case round =>
            obtain ⟨j, hj, rfl, ha⟩ := hrel
            by_cases hlt : j < T.size
            · by_cases hd : let1 T[j] = true
              · have ha' : Hid (allL (T.data.toList.take (j + 1)) = true) := by
                  show _ = _
                  have := ha.out
                  rw [take_snoc T j hlt, allL_app, this]
                  unfold allL
                  simp [hd]
                have b0 : 65 ≤ (T[j].toNat : Int) := by unfold let1 at hd; simp at hd; omega
                have b1 : (T[j].toNat : Int) ≤ 90 := by unfold let1 at hd; simp at hd; omega
                clear hd
                go_wp2_with fail
                go_round
                case rel => exact ⟨j + 1, by omega, by go_num, ha'⟩
                case measure => simp [intOf]; omega
              · have hN : Hid (j = k) := by
                  show _ = _
                  have h1 := lead_at (T.data.toList.take j) (T.data.toList.drop (j + 1)) T[j] ha.out (by simpa using hd)
                  rw [← drop_cons T j hlt, List.take_append_drop, List.length_take, len_data] at h1
                  have := hk.out
                  omega
                by_cases b0 : (T[j].toNat : Int) < 65
                · have b0' : ¬ 65 ≤ (T[j].toNat : Int) := by omega
                  clear hd b0
                  go_wp2_with fail
                  go_meet
                  exact ⟨by rw [hN.out], rfl⟩
                · have b1 : ¬ (T[j].toNat : Int) ≤ 90 := by unfold let1 at hd; simp at hd; omega
                  have b0' : 65 ≤ (T[j].toNat : Int) := by omega
                  clear hd b0
                  go_wp2_with fail
                  go_meet
                  exact ⟨by rw [hN.out], rfl⟩
            · have hN : Hid (j = k) := by
                show _ = _
                have := ha.out
                rw [take_all T j (by omega)] at this
                rw [hk.out, lead_all _ this, len_data]
                omega
              go_wp2_with fail
              go_meet
              exact ⟨by rw [hN.out], rfl⟩
        case rest =>
          obtain ⟨rfl, rfl⟩ := hcut
          go_upto_region 18 with (go_at_call 35; refine (HK.out _).mono ?_; rintro e w1 ⟨rfl, rfl⟩)
          go_upto_region 18 with fail
          go_cut [79] from 72 to 78 (fun x W => x = .bool ra ∧ W = ((w.alloc Z25).alloc (R25 A false ca)))
          case first =>
            rcases hd2 with ⟨rfl, h, h36, eT⟩ | ⟨rfl, hne, rfl⟩
            · have h36' : (R[0].toNat : Int) = 36 := by rw [h36]; rfl
              clear h36
              go_wp2_with fail
              go_meet
              exact ⟨rfl, rfl⟩
            · by_cases hz : 0 < R.size
              · have h36' : ((R[0].toNat : Int) == 36) = false := byte_ne (n := 36) (by omega) (hne hz)
                clear hne
                go_wp2_with fail
                go_meet
                exact ⟨rfl, rfl⟩
              · clear hne
                go_wp2_with fail
                go_meet
                exact ⟨rfl, rfl⟩
          case rest =>
            obtain ⟨rfl, rfl⟩ := hcut
            go_upto_if 79 with fail
            go_cut [0] from 72 to 82 (fun x W => x = .string G ∧ W = ((w.alloc Z25).alloc (R25 A ra ca)))
            case first =>
              rcases hd2 with ⟨rfl, h, h36, eT⟩ | ⟨rfl, hne, rfl⟩
              · go_wp2_with fail
                go_meet
                exact ⟨rfl, rfl⟩
              · go_wp2_with fail
                go_meet
                exact ⟨rfl, rfl⟩
            case rest =>
              obtain ⟨rfl, rfl⟩ := hcut
              have HV : Hid (rfR A cf n col ra ca = if cf = true ∧ 1 ≤ n then .tuple #[.agg #[.string A, .int .i64 (n - 1), .int .i64 col, .bool ra, .bool ca], .bool true] else .tuple #[.agg #[.string ⟨#[]⟩, .int .i64 0, .int .i64 0, .bool false, .bool false], .bool false]) := rfl
              cases cf
              · go_wp2_with (go_at_call 36; refine (HN.out _).mono ?_; rintro e w1 ⟨rfl, rfl⟩)
                refine bodyPost_ret (v := .tuple #[.agg #[.string ⟨#[]⟩, .int .i64 0, .int .i64 0, .bool false, .bool false], .bool false]) (by simp [results, Tryd.results19, go_sem]) rfl ⟨by rw [HV.out]; rfl, ?_⟩
                repeat' (first | with_reducible exact Q.refl _ | with_reducible refine Q.alloc ?_ _ | with_reducible refine Q.setCell ?_ (by omega) _)
              by_cases hn : n < 1
              · go_wp2_with (go_at_call 36; refine (HN.out _).mono ?_; rintro e w1 ⟨rfl, rfl⟩)
                refine bodyPost_ret (v := .tuple #[.agg #[.string ⟨#[]⟩, .int .i64 0, .int .i64 0, .bool false, .bool false], .bool false]) (by simp [results, Tryd.results19, go_sem]) rfl ⟨by rw [HV.out, if_neg (by omega)], ?_⟩
                repeat' (first | with_reducible exact Q.refl _ | with_reducible refine Q.alloc ?_ _ | with_reducible refine Q.setCell ?_ (by omega) _)
              · go_wp2_with (go_at_call 36; refine (HN.out _).mono ?_; rintro e w1 ⟨rfl, rfl⟩)
                refine bodyPost_ret (v := .tuple #[.agg #[.string A, .int .i64 (n - 1), .int .i64 col, .bool ra, .bool ca], .bool true]) (by simp [results, Tryd.results19, go_sem]) rfl ⟨by rw [HV.out, if_pos (by first | exact ⟨rfl, by omega⟩ | exact ⟨trivial, by omega⟩)], ?_⟩
                repeat' (first | with_reducible exact Q.refl _ | with_reducible refine Q.alloc ?_ _ | with_reducible refine Q.setCell ?_ (by omega) _)

set_option maxHeartbeats 2000000 in
theorem rref_none (S A C : ByteArray) (w : World) (hs : S.size ≤ 4000000000) (hC : C.size ≤ 4000000000) (j : Nat) (hj : j < S.size) (hsj : (S[j].toNat : Int) = 33) (hno : Hid ((33 : UInt8) ∉ S.data.toList.take j)) (eA : S.extract 0 j = A) (eC : S.extract (j + 1) S.size = C)
    (HI : Hid (∀ W, Calls Tryd.prog 34 #[.string A] W fun e w' => e = .returned (.bool false) ∧ w' = W))
    :
    Calls Tryd.prog 19 #[.string S] w fun e w' => e = .returned (rfR ⟨#[]⟩ false 0 0 false false) ∧ Q w w' := by
  go_enter Tryd.func19, Tryd.ntmps19
  go_wp2_with fail
  go_loop [0, 3, 5] (fun x o i => ∃ i' : Nat, x = .string S ∧ o = .bool false ∧ i' ≤ j ∧ i = .int .i64 i') (fun _ _ i => S.size - (intOf i).toNat)
  case atStart => exact ⟨0, rfl, rfl, Nat.zero_le _, rfl⟩
  case round =>
    obtain ⟨i, rfl, rfl, hi, rfl⟩ := hrel
    by_cases hlt : i < j
    · have hn' : ((S[i].toNat : Int) == 33) = false := byte_ne (n := 33) (by omega) (fun e => hno.out (by
        have h : S[i] ∈ S.data.toList.take (i + 1) := by rw [take_snoc S i (by omega)]; simp
        rw [e] at h
        exact List.mem_of_mem_take (i := i + 1) (by rw [List.take_take, Nat.min_eq_left (by omega)]; exact h)))
      have hlt' : i < S.size := by omega
      go_wp2_with fail
      go_round
      case rel => exact ⟨i + 1, rfl, rfl, by omega, by go_num⟩
      case measure => simp [intOf]; omega
    · obtain rfl : i = j := by omega
      go_wp2_with (go_at_call 34; refine (HI.out _).mono ?_; rintro e w1 ⟨rfl, rfl⟩)
      refine bodyPost_ret (v := .tuple #[.agg #[.string ⟨#[]⟩, .int .i64 0, .int .i64 0, .bool false, .bool false], .bool false]) (by simp [results, Tryd.results19, go_sem]) rfl ⟨rfl, ?_⟩
      repeat' (first | with_reducible exact Q.refl _ | with_reducible refine Q.alloc ?_ _ | with_reducible refine Q.setCell ?_ (by omega) _)
end Go.Proofs.YtkipbcimjmialaaDoor
