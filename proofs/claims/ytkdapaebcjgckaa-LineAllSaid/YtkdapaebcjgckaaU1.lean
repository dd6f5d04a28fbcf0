/- counterpanelaw3.LineAll: the walk: the list of operations. -/
import Derived.Test.YtkdapaebcjgckaaU0
import Derived.Test.YtkdapaebcjgckaaS4
namespace Go.Proofs.Ytkdapaebcjgckaa
open Go.RowKit
set_option linter.unusedVariables false
set_option linter.unusedSimpArgs false

set_option maxRecDepth 100000 in
set_option maxHeartbeats 4000000 in
theorem all_walk (w : World) : Calls Try.prog 6 #[] w fun e w' => e = .returned (.bool true) ∧ Q w w' := by
  obtain ⟨i0, hi, hz⟩ := Option.map_eq_some_iff.1 info23
  simp only [Prod.mk.injEq] at hz
  obtain ⟨hz0, hz1, hz2⟩ := hz
  have HI := hid hi
  have HZ := hid (And.intro hz0 (And.intro hz1 hz2))
  clear hi hz0 hz1 hz2
  go_enter Try.func6, Try.ntmps6
  go_wp2
  go_loopw [1, 2] (fun v s W => ∃ (n : Nat) (L : List Ax.Ln), n ≤ 6 ∧ s = .int .i64 n ∧ L.length ≤ 10 * n ∧ W.ownsRow w.heap.size 23 3 v L.length (flat L) ∧ Q w W) (fun _ s _ => 6 - (intOf s).toNat)
  case atStart => exact ⟨0, [], Nat.zero_le _, rfl, by simp, World.ownsRow_nil _ _ _ _, Q.refl _⟩
  case round =>
    obtain ⟨n, L, hn, rfl, hL, hown, hq⟩ := hrel
    by_cases hlt : n < 6
    · have hlt' : (n : Int) < 6 := by omega
      have HOW := hid hown
      have HQ := hid hq
      clear hown hq
      go_wp2_with (at_builtin; refine wpList_append_own _ rfl _ _ 35 rfl w.heap.size 23 i0 (.agg #[.int .i64 0, .int .i64 0, .int .i64 0]) 3 24 Try.underlying35 HI.out HZ.out.1 HZ.out.2.1 HZ.out.2.2 rfl (by decide) _ _ _ rfl (HOW.out.alloc _) ⟨wr.heap.size, 0, none⟩ 2 2 [.int .i64 1, .int .i64 n, .int .i64 0, .int .i64 2, .int .i64 n, .int .i64 0] rfl rfl ?c1 ?c2 ?c3 ?c4 ?c5 ?_)
      case c1 =>
        intro j u hj
        match j, hj with
        | 0, hj => simp at hj; subst hj; simp [Addr.add]
        | 1, hj => simp at hj; subst hj; simp [Addr.add]
        | 2, hj => simp at hj; subst hj; simp [Addr.add]
        | 3, hj => simp at hj; subst hj; simp [Addr.add]
        | 4, hj => simp at hj; subst hj; simp [Addr.add]
        | 5, hj => simp at hj; subst hj; simp [Addr.add]
        | j + 6, hj => simp at hj
      case c2 =>
        intro u hu
        simp at hu
        rcases hu with rfl | rfl | rfl | rfl | rfl | rfl <;> rfl
      case c3 => unfold maxLen; omega
      case c4 => omega
      case c5 => have := HQ.out.size; simp; omega
      · intro v' w3 hown' hgrow _
        have HO2 : Hid (w3.ownsRow w.heap.size 23 3 v' (L ++ [Ax.Ln.mk 1 n 0, Ax.Ln.mk 2 n 0]).length (flat (L ++ [Ax.Ln.mk 1 n 0, Ax.Ln.mk 2 n 0]))) := by
          show World.ownsRow _ _ _ _ _ _ _
          have e : flat (L ++ [Ax.Ln.mk 1 n 0, Ax.Ln.mk 2 n 0]) = flat L ++ [.int .i64 1, .int .i64 n, .int .i64 0, .int .i64 2, .int .i64 n, .int .i64 0] := by unfold flat lc; simp
          rw [e, List.length_append]
          exact hown'
        have HQ2 : Hid (Q w w3) := Below.grown (HQ.out.alloc _) hgrow (by have := HQ.out.size; simp; omega) (own_blk HOW.out)
        have hL2 : (L ++ [Ax.Ln.mk 1 n 0, Ax.Ln.mk 2 n 0]).length ≤ 10 * n + 2 := by simp; omega
        generalize L ++ [Ax.Ln.mk 1 n 0, Ax.Ln.mk 2 n 0] = L' at *
        clear hown' hgrow HOW HQ hL
        go_wp2
        go_loopw [1, 3] (fun v s W => ∃ (m : Nat) (L : List Ax.Ln), m ≤ 7 ∧ s = .int .i64 m ∧ L.length ≤ 10 * n + 2 + m ∧ W.ownsRow w.heap.size 23 3 v L.length (flat L) ∧ Q w W) (fun _ s _ => 7 - (intOf s).toNat)
        case atStart => exact ⟨0, L', Nat.zero_le _, rfl, by omega, HO2.out, HQ2.out⟩
        case round =>
          clear HO2 HQ2 hL2
          obtain ⟨m, L, hm, rfl, hL, hown, hq⟩ := hrel
          by_cases hmt : m < 7
          · have hmt' : (m : Int) ≤ 6 := by omega
            have HOW := hid hown
            have HQ := hid hq
            by_cases e1 : (m : Int) = n
            · have e1' : ((m : Int) != n) = false := by simpa using e1
              clear e1 hown hq
              go_wp2
              go_roundw
              case rel => exact ⟨m + 1, L, by omega, by go_num, by omega, HOW.out, HQ.out⟩
              case measure => simp [intOf]; omega
            · have e1' : ((m : Int) != n) = true := by simpa using e1
              by_cases e2 : (m : Int) = n + 1
              · have e2' : ((m : Int) != n + 1) = false := by simpa using e2
                clear e1 e2 hown hq
                go_wp2
                go_roundw
                case rel => exact ⟨m + 1, L, by omega, by go_num, by omega, HOW.out, HQ.out⟩
                case measure => simp [intOf]; omega
              · have e2' : ((m : Int) != n + 1) = true := by simpa using e2
                clear e1 e2 hown hq
                go_wp2_with (at_builtin; refine wpList_append_own _ rfl _ _ 35 rfl w.heap.size 23 i0 (.agg #[.int .i64 0, .int .i64 0, .int .i64 0]) 3 24 Try.underlying35 HI.out HZ.out.1 HZ.out.2.1 HZ.out.2.2 rfl (by decide) _ _ _ rfl (HOW.out.alloc _) ⟨wr.heap.size, 0, none⟩ 1 1 [.int .i64 3, .int .i64 n, .int .i64 m] rfl rfl ?d1 ?d2 ?d3 ?d4 ?d5 ?_)
                case d1 =>
                  intro j u hj
                  match j, hj with
                  | 0, hj => simp at hj; subst hj; simp [Addr.add]
                  | 1, hj => simp at hj; subst hj; simp [Addr.add]
                  | 2, hj => simp at hj; subst hj; simp [Addr.add]
                  | j + 3, hj => simp at hj
                case d2 =>
                  intro u hu
                  simp at hu
                  rcases hu with rfl | rfl | rfl <;> rfl
                case d3 => unfold maxLen; omega
                case d4 => omega
                case d5 => have := HQ.out.size; simp; omega
                · intro v5 w5 hown5 hgrow5 _
                  have HO5 : Hid (w5.ownsRow w.heap.size 23 3 v5 (L ++ [Ax.Ln.mk 3 n m]).length (flat (L ++ [Ax.Ln.mk 3 n m]))) := by
                    show World.ownsRow _ _ _ _ _ _ _
                    rw [flat_snoc, List.length_append]
                    exact hown5
                  have HQ5 : Hid (Q w w5) := Below.grown (HQ.out.alloc _) hgrow5 (by have := HQ.out.size; simp; omega) (own_blk HOW.out)
                  clear hown5 hgrow5
                  go_wp2
                  go_roundw
                  case rel => exact ⟨m + 1, L ++ [Ax.Ln.mk 3 n m], by omega, by go_num, by simp; omega, HO5.out, HQ5.out⟩
                  case measure => simp [intOf]; omega
          · have hmt' : ¬ (m : Int) ≤ 6 := by omega
            have HOW := hid hown
            have HQ := hid hq
            clear hown hq
            go_wp2
            go_roundw
            case rel => exact ⟨n + 1, L, by omega, by go_num, by omega, HOW.out, HQ.out⟩
            case measure => simp [intOf]; omega
    · have hlt' : ¬ (n : Int) < 6 := by omega
      have HS := hid (sl_own hown)
      have HQ := hid hq
      have hL6 : L.length ≤ 60 := by omega
      clear hown hq hL
      go_wp2
      go_loopw [4] (fun s W => ∃ n : Nat, n ≤ L.length ∧ s = .int .i64 n ∧ Sl W u1 L ∧ Q w W) (fun s _ => L.length - (intOf s).toNat)
      case atStart => exact ⟨0, Nat.zero_le _, rfl, HS.out, HQ.out⟩
      case round =>
        clear HS HQ
        obtain ⟨n, hn, rfl, hs, hq⟩ := hrel
        have HS := hid hs
        have HQ := hid hq
        clear hs hq
        by_cases hnl : n < L.length
        · have hnl' : (n : Int) < (L.length : Int) := by omega
          obtain ⟨g, off, cap, rfl, hsa⟩ := HS.out.sa (by omega)
          have HA := hid hsa
          clear HS hsa
          go_wp2
          go_loopw [5] (fun s W => ∃ m : Nat, m ≤ L.length ∧ s = .int .i64 m ∧ SA W g off L ∧ Q w W) (fun s _ => L.length - (intOf s).toNat)
          case atStart => exact ⟨0, Nat.zero_le _, rfl, HA.out, HQ.out⟩
          case round =>
            clear HA HQ
            obtain ⟨m, hm, rfl, hs, hq⟩ := hrel
            have HA := hid hs
            have HQ := hid hq
            clear hs hq
            by_cases hml : m < L.length
            · have hml' : (m : Int) < (L.length : Int) := by omega
              go_wp2
              go_loopw [6] (fun s W => ∃ c : Nat, c ≤ 8 ∧ s = .int .i64 c ∧ SA W g off L ∧ Q w W) (fun s _ => 8 - (intOf s).toNat)
              case atStart => exact ⟨0, Nat.zero_le _, rfl, HA.out, HQ.out⟩
              case round =>
                clear HA HQ
                obtain ⟨c, hc, rfl, hs, hq⟩ := hrel
                have HA := hid hs
                have HQ := hid hq
                clear hs hq
                by_cases hcl : c < 8
                · have hcl' : (c : Int) < 8 := by omega
                  obtain ⟨x, hx⟩ : ∃ x, L[n] = x := ⟨_, rfl⟩
                  obtain ⟨y, hy⟩ : ∃ y, L[m] = y := ⟨_, rfl⟩
                  have HX : Hid (∀ W, SA W g off L → At3 W g (off + n * 3) x) := fun W h => hx ▸ h n hnl
                  have HY : Hid (∀ W, SA W g off L → At3 W g (off + m * 3) y) := fun W h => hy ▸ h m hml
                  clear hx hy
                  obtain ⟨xk, xa, xt⟩ := x
                  obtain ⟨yk, ya, yt⟩ := y
                  go_upto_region 20 with fail
                  have hk0 : Hid (wr.drew.cell? ⟨g, off + n * 3, none⟩ = some (.int .i64 xk) ∧ wr.drew.cell? ⟨g, off + n * 3 + 1, none⟩ = some (.int .i64 xa) ∧ wr.drew.cell? ⟨g, off + n * 3 + 2, none⟩ = some (.int .i64 xt) ∧ wr.drew.cell? ⟨g, off + m * 3, none⟩ = some (.int .i64 yk) ∧ wr.drew.cell? ⟨g, off + m * 3 + 1, none⟩ = some (.int .i64 ya) ∧ wr.drew.cell? ⟨g, off + m * 3 + 2, none⟩ = some (.int .i64 yt)) := ⟨(HX.out _ (HA.out.on (Q.refl _).drew)).c0, (HX.out _ (HA.out.on (Q.refl _).drew)).c1, (HX.out _ (HA.out.on (Q.refl _).drew)).c2, (HY.out _ (HA.out.on (Q.refl _).drew)).c0, (HY.out _ (HA.out.on (Q.refl _).drew)).c1, (HY.out _ (HA.out.on (Q.refl _).drew)).c2⟩
                  go_region_held3 (fun W => (W.cell? ⟨g, off + n * 3, none⟩ = some (.int .i64 xk) ∧ W.cell? ⟨g, off + n * 3 + 1, none⟩ = some (.int .i64 xa) ∧ W.cell? ⟨g, off + n * 3 + 2, none⟩ = some (.int .i64 xt) ∧ W.cell? ⟨g, off + m * 3, none⟩ = some (.int .i64 yk) ∧ W.cell? ⟨g, off + m * 3 + 1, none⟩ = some (.int .i64 ya) ∧ W.cell? ⟨g, off + m * 3 + 2, none⟩ = some (.int .i64 yt))) (with_reducible (first | exact hk0.out | exact hk1.out))
                    (first
                      | (go_at_call 5; refine (sides_walk _ _ _ _ _ _ _ _).mono ?_; rintro r w8 ⟨rfl, q8⟩; replace HA := hid (HA.out.on ((Q.refl _).drew.trans q8)); replace HQ := hid (HQ.out.trans ((Q.refl _).drew.trans q8)); clear q8; have hk1 : Hid (w8.cell? ⟨g, off + n * 3, none⟩ = some (.int .i64 xk) ∧ w8.cell? ⟨g, off + n * 3 + 1, none⟩ = some (.int .i64 xa) ∧ w8.cell? ⟨g, off + n * 3 + 2, none⟩ = some (.int .i64 xt) ∧ w8.cell? ⟨g, off + m * 3, none⟩ = some (.int .i64 yk) ∧ w8.cell? ⟨g, off + m * 3 + 1, none⟩ = some (.int .i64 ya) ∧ w8.cell? ⟨g, off + m * 3 + 2, none⟩ = some (.int .i64 yt)) := ⟨(HX.out _ HA.out).c0, (HX.out _ HA.out).c1, (HX.out _ HA.out).c2, (HY.out _ HA.out).c0, (HY.out _ HA.out).c1, (HY.out _ HA.out).c2⟩))
                  go_wp2
                  go_roundw
                  case rel => exact ⟨c + 1, by omega, by go_num, HA.out, HQ.out⟩
                  case measure => simp [intOf]; omega
                · have hcl' : ¬ (c : Int) < 8 := by omega
                  go_wp2
                  go_roundw
                  case rel => exact ⟨m + 1, by omega, by go_num, HA.out, HQ.out⟩
                  case measure => simp [intOf]; omega
            · have hml' : ¬ (m : Int) < (L.length : Int) := by omega
              go_wp2
              go_roundw
              case rel => exact ⟨n + 1, by omega, by go_num, HA.out.sl, HQ.out⟩
              case measure => simp [intOf]; omega
        · obtain ⟨ao, cap, rfl⟩ := HS.out.len
          have hnl' : ¬ (n : Int) < (L.length : Int) := by omega
          go_wp2_with (go_at_call 9; refine (begun_any _).mono ?_; rintro e w7 ⟨rfl, q7⟩)
          go_ret
          exact ⟨rfl, HQ.out.trans q7⟩
end Go.Proofs.Ytkdapaebcjgckaa
