/- Numbers of four bytes; sums. -/
import Derived.Test.YtcefpjjefokjjaaDoorFb
import Derived.BigQuiet
namespace Go.Proofs.YtcefpjjefokjjaaDoor
open Go.RowKit
set_option linter.unusedVariables false
set_option linter.unusedSimpArgs false

theorem w32 {n : Nat} (h : n < 4294967296) : IntKind.u32.wrap (n : Int) = (n : Int) := by
  simp only [IntKind.wrap, IntKind.bits, IntKind.signed, Bool.false_and, Bool.false_eq_true, if_false]
  omega
theorem bits_xor {a b : Nat} (ha : a < 4294967296) (hb : b < 4294967296) : bits .xor .u32 (a : Int) (b : Int) = ((a ^^^ b : Nat) : Int) := by
  have h7 : (BitVec.ofInt 32 (a : Int) ^^^ BitVec.ofInt 32 (b : Int)).toNat = a ^^^ b := by
    rw [BitVec.toNat_xor, BitVec.ofInt_natCast, BitVec.ofInt_natCast, BitVec.toNat_ofNat, BitVec.toNat_ofNat, Nat.mod_eq_of_lt ha, Nat.mod_eq_of_lt hb]
  unfold bits
  show IntKind.u32.wrap ((BitVec.ofInt 32 (a : Int) ^^^ BitVec.ofInt 32 (b : Int)).toNat : Int) = _
  rw [h7, w32 (Nat.xor_lt_two_pow (n := 32) ha hb)]
theorem bits_or {a b : Nat} (k : Nat) (ha : a < 2 ^ k) (hb : b * 2 ^ k < 4294967296) (ha' : a < 4294967296) : bits .or .u32 (a : Int) ((b * 2 ^ k : Nat) : Int) = ((a + b * 2 ^ k : Nat) : Int) := by
  have h3 : a + b * 2 ^ k = b * 2 ^ k ||| a := by
    rw [← Nat.shiftLeft_eq, ← Nat.shiftLeft_add_eq_or_of_lt ha, Nat.add_comm]
  have h7 : (BitVec.ofInt 32 (a : Int) ||| BitVec.ofInt 32 ((b * 2 ^ k : Nat) : Int)).toNat = a + b * 2 ^ k := by
    rw [BitVec.toNat_or, BitVec.ofInt_natCast, BitVec.ofInt_natCast, BitVec.toNat_ofNat, BitVec.toNat_ofNat, Nat.mod_eq_of_lt ha', Nat.mod_eq_of_lt hb, h3, Nat.or_comm]
  unfold bits
  show IntKind.u32.wrap ((BitVec.ofInt 32 (a : Int) ||| BitVec.ofInt 32 ((b * 2 ^ k : Nat) : Int)).toNat : Int) = _
  rw [h7]
  apply w32
  rw [h3]
  exact Nat.or_lt_two_pow (n := 32) hb ha'
theorem or_at {a b : Nat} (k p : Nat) (hp : p = 2 ^ k) (ha : a < p) (hb : b * p < 4294967296) (ha' : a < 4294967296) : bits .or .u32 (a : Int) ((b : Int) * (p : Int)) = ((a + b * p : Nat) : Int) := by
  subst hp
  rw [← bits_or k ha hb ha', Int.natCast_mul]
theorem and15 (a : Nat) (ha : a < 4294967296) : bits .and .u32 (a : Int) 15 = ((a % 16 : Nat) : Int) := by
  have h7 : (BitVec.ofInt 32 (a : Int) &&& BitVec.ofInt 32 ((15 : Nat) : Int)).toNat = a % 16 := by
    rw [BitVec.toNat_and, BitVec.ofInt_natCast, BitVec.ofInt_natCast, BitVec.toNat_ofNat, BitVec.toNat_ofNat, Nat.mod_eq_of_lt ha]
    exact Nat.and_two_pow_sub_one_eq_mod a 4
  unfold bits
  show IntKind.u32.wrap ((BitVec.ofInt 32 (a : Int) &&& BitVec.ofInt 32 ((15 : Nat) : Int)).toNat : Int) = _
  rw [h7]
  exact w32 (by omega)
theorem not32 (X : Nat) (h : X < 4294967296) : 4294967295 ^^^ X = 4294967295 - X := by
  apply Nat.eq_of_testBit_eq
  intro i
  have h1 := Nat.testBit_two_pow_sub_succ (n := 32) (x := X) h i
  have h2 := Nat.testBit_two_pow_sub_one 32 i
  rw [show 2 ^ 32 - (X + 1) = 4294967295 - X by omega] at h1
  rw [show (2 : Nat) ^ 32 - 1 = 4294967295 by decide] at h2
  rw [Nat.testBit_xor, h1, h2]
  by_cases hi : i < 32
  · rw [decide_eq_true hi]
    cases X.testBit i <;> rfl
  · rw [decide_eq_false hi, Nat.testBit_lt_two_pow (Nat.lt_of_lt_of_le (show X < 2 ^ 32 from h) (Nat.pow_le_pow_right (by omega) (by omega)))]
    rfl
theorem xor_all {X : Nat} (h : X < 4294967296) : bits .xor .u32 IntKind.u32.max (X : Int) = ((4294967295 - X : Nat) : Int) := by
  have e : IntKind.u32.max = ((4294967295 : Nat) : Int) := by decide
  rw [e, bits_xor (by omega) h, not32 X h]
/-- four bytes behind one another in a slice -/
theorem sl_four {w : World} {v : Value} {D : List UInt8} (h : Sl eb 1 w v D) (h4 : 4 ≤ D.length) : ∃ g o cap, v = .slice (some ⟨g, o, none⟩) D.length cap ∧ ∀ i, i < 4 → w.cell? ⟨g, o + i, none⟩ = some (.int .u8 (D.getD i 0).toNat) := by
  obtain ⟨ao, cap, rfl, h1, h2, hc⟩ := h
  obtain ⟨g, o, rfl, hd⟩ := hc (by omega)
  refine ⟨g, o, cap, rfl, fun i hi => ?_⟩
  have := hd i (by omega) 0 (.int .u8 (D[i]'(by omega)).toNat) rfl
  rw [show o + i * 1 + 0 = o + i by omega] at this
  rw [this, List.getD_eq_getElem?_getD, List.getElem?_eq_getElem (by omega)]
  rfl
set_option maxRecDepth 100000 in
set_option maxHeartbeats 2000000 in
theorem number_any (v : Value) (D : List UInt8) (w : World) (hv : Sl eb 1 w v D) (h4 : 4 ≤ D.length) : Calls Tryd.prog 18 #[v] w fun e W' => e = .returned (.int .u32 (rd4 D)) ∧ ∃ m, W' = w.drewN m := by
  obtain ⟨g, o, cap, rfl, hc⟩ := sl_four hv h4
  have c0 : w.cell? ⟨g, o, none⟩ = some (.int .u8 (D.getD 0 0).toNat) := hc 0 (by omega)
  have n0 : (0 : Int) < (D.length : Int) := by omega
  have n1 : (1 : Int) < (D.length : Int) := by omega
  have n2 : (2 : Int) < (D.length : Int) := by omega
  have n3 : (3 : Int) < (D.length : Int) := by omega
  have c1 := hc 1 (by omega)
  have c2 := hc 2 (by omega)
  have c3 := hc 3 (by omega)
  clear hc hv
  unfold rd4
  have l0 := (D.getD 0 0).toNat_lt
  have l1 := (D.getD 1 0).toNat_lt
  have l2 := (D.getD 2 0).toNat_lt
  have l3 := (D.getD 3 0).toNat_lt
  generalize (D.getD 0 0).toNat = a at *
  generalize (D.getD 1 0).toNat = b at *
  generalize (D.getD 2 0).toNat = c at *
  generalize (D.getD 3 0).toNat = d at *
  generalize D.length = n at *
  go_enter Tryd.func18, Tryd.ntmps18
  go_wp2_with fail
  go_quiet (fail)
  rename_i nq
  have HQ : Hid (∃ m, w.drewN nq = w.drewN m) := hid ⟨nq, rfl⟩
  generalize hw1 : w.drewN nq = w1 at HQ ⊢
  clear hw1
  go_wp2_with fail
  go_ret
  have e1 : bits .or .u32 (a : Int) ((b : Int) * 256) = ((a + b * 256 : Nat) : Int) := or_at 8 256 rfl (by omega) (by omega) (by omega)
  have e2 : bits .or .u32 ((a + b * 256 : Nat) : Int) ((c : Int) * 65536) = ((a + b * 256 + c * 65536 : Nat) : Int) := or_at 16 65536 rfl (by omega) (by omega) (by omega)
  have e3 : bits .or .u32 ((a + b * 256 + c * 65536 : Nat) : Int) ((d : Int) * 16777216) = ((a + b * 256 + c * 65536 + d * 16777216 : Nat) : Int) := or_at 24 16777216 rfl (by omega) (by omega) (by omega)
  exact ⟨ret_int (by rw [e1, e2, e3]; omega), HQ.out⟩
/-- a value in a row of slices -/
def ev (v : Value) : List Value := [v]
theorem ev_len (v : Value) : (ev v).length = 1 := rfl
theorem sl_cell {w : World} {v : Value} {D : List UInt8} (h : Sl eb 1 w v D) (h0 : 0 < D.length) : ∃ g o cap, v = .slice (some ⟨g, o, none⟩) D.length cap ∧ ∀ i (hi : i < D.length), w.cell? ⟨g, o + i, none⟩ = some (.int .u8 D[i].toNat) := by
  obtain ⟨ao, cap, rfl, h1, h2, hc⟩ := h
  obtain ⟨g, o, rfl, hd⟩ := hc (by omega)
  refine ⟨g, o, cap, rfl, fun i hi => ?_⟩
  have := hd i (by omega) 0 (.int .u8 (D[i]'(by omega)).toNat) rfl
  rw [show o + i * 1 + 0 = o + i by omega] at this
  exact this
theorem ev_cell {w : World} {v : Value} {D : List Value} (h : Sl ev 1 w v D) (h0 : 0 < D.length) : ∃ g o cap, v = .slice (some ⟨g, o, none⟩) D.length cap ∧ ∀ i (hi : i < D.length), w.cell? ⟨g, o + i, none⟩ = some D[i] := by
  obtain ⟨ao, cap, rfl, h1, h2, hc⟩ := h
  obtain ⟨g, o, rfl, hd⟩ := hc (by omega)
  refine ⟨g, o, cap, rfl, fun i hi => ?_⟩
  have := hd i (by omega) 0 (D[i]'(by omega)) rfl
  rw [show o + i * 1 + 0 = o + i by omega] at this
  exact this
set_option maxRecDepth 100000 in
set_option maxHeartbeats 4000000 in
theorem sum_any (p : Value) (vs : List Value) (LL : List (List UInt8)) (w : World) (ht : Tab w) (hp : Sl ev 1 w p vs) (hl : vs.length = LL.length) (hv : ∀ i (h : i < vs.length) (h' : i < LL.length), Sl eb 1 w vs[i] LL[i]) :
    Calls Tryd.prog 13 #[p] w fun e W' => e = .returned (.int .u32 (sm LL.flatten)) ∧ W' = w := by
  have HT := hid ht
  have HP := hid hp
  have HV := hid hv
  obtain ⟨ao, cap, rfl, hc1, hc2⟩ := hp.len
  clear ht hp hv
  have hm : vs.length ≤ 9223372036854775807 := by unfold maxLen at hc2; omega
  have hl1 : vs.length ≤ LL.length := by omega
  have hl2 : LL.length ≤ vs.length := by omega
  clear hl
  go_enter Tryd.func13, Tryd.ntmps13
  go_wp2_with fail
  go_loop [3, 10] (fun a i => ∃ n : Nat, n ≤ vs.length ∧ i = .int .i64 n ∧ a = .int .u32 (cr 4294967295 (LL.take n).flatten)) (fun _ i => vs.length - (intOf i).toNat)
  case atStart => exact ⟨0, by omega, rfl, rfl⟩
  case round =>
    obtain ⟨n, hn, rfl, rfl⟩ := hrel
    have hX : cr 4294967295 (LL.take n).flatten < 4294967296 := cr_lt _ _ (by omega)
    by_cases hlt : n < vs.length
    · obtain ⟨g, o, cap', e, hc⟩ := ev_cell HP.out (by omega)
      cases e
      have c0 := hc n hlt
      have hs := HV.out n hlt (by omega)
      have HE : Hid ((LL.take (n + 1)).flatten = (LL.take n).flatten ++ LL[n]'(by omega)) := hid (by rw [List.take_succ_eq_append_getElem (by omega), List.flatten_append]; simp)
      generalize (LL.take n).flatten = F at HE hX ⊢
      generalize LL[n]'(by omega) = D at HE hs
      generalize vs[n] = v at c0 hs
      have HS := hid hs
      obtain ⟨ao2, cap2, rfl, hd1, hd2⟩ := hs.len
      have hm2 : D.length ≤ 9223372036854775807 := by unfold maxLen at hd2; omega
      clear hc hs
      generalize hXe : cr 4294967295 F = X at hX ⊢
      go_wp2_with fail
      go_loop [3, 16] (fun a i => ∃ m : Nat, m ≤ D.length ∧ i = .int .i64 m ∧ a = .int .u32 (cr X (D.take m))) (fun _ i => D.length - (intOf i).toNat)
      case atStart => exact ⟨0, by omega, rfl, rfl⟩
      case round =>
        obtain ⟨m, hm', rfl, rfl⟩ := hrel
        have hY : cr X (D.take m) < 4294967296 := cr_lt _ _ hX
        by_cases hlt2 : m < D.length
        · obtain ⟨g2, o2, cap3, e, hd⟩ := sl_cell HS.out (by omega)
          cases e
          have d0 := hd m hlt2
          clear hd
          have HN : Hid (cr X (D.take (m + 1)) = st (cr X (D.take m)) D[m]) := hid (cr_take X D m hlt2)
          have hb := D[m].toNat_lt
          have hx := xb_lt (cr X (D.take m)) D[m] hY
          unfold st at HN
          generalize cr X (D.take m) = r at hY HN hx ⊢
          generalize D[m] = bb at hx HN hb d0
          generalize bb.toNat = b at hx HN hb d0
          have e1 : bits .xor .u32 (r : Int) (b : Int) = ((r ^^^ b : Nat) : Int) := bits_xor hY (by omega)
          generalize r ^^^ b = x at e1 hx HN
          have e2 := and15 x hx
          have hk1 : x % 16 < 16 := by omega
          have hy := hf_lt x hx
          unfold hf at HN hy
          have t1 := HT.out.2 (x % 16) hk1
          have e3 : (x : Int) / 16 = ((x / 16 : Nat) : Int) := by omega
          have e4 : bits .xor .u32 (tb (x % 16) : Int) ((x / 16 : Nat) : Int) = ((tb (x % 16) ^^^ (x / 16) : Nat) : Int) := bits_xor (tb_lt _ hk1) (by omega)
          have b1 := tb_lt _ hk1
          have hq1 : x / 16 < 4294967296 := by omega
          generalize tb (x % 16) ^^^ (x / 16) = y at e4 hy HN
          generalize x / 16 = q1 at e3 e4 hq1
          generalize tb (x % 16) = T1 at t1 e4 b1
          generalize x % 16 = k1 at e2 t1 hk1
          have f2 := and15 y hy
          have hk2 : y % 16 < 16 := by omega
          have hz := hf_lt y hy
          unfold hf at hz
          have t2 := HT.out.2 (y % 16) hk2
          have f3 : (y : Int) / 16 = ((y / 16 : Nat) : Int) := by omega
          have f4 : bits .xor .u32 (tb (y % 16) : Int) ((y / 16 : Nat) : Int) = ((tb (y % 16) ^^^ (y / 16) : Nat) : Int) := bits_xor (tb_lt _ hk2) (by omega)
          have b2 := tb_lt _ hk2
          have hq2 : y / 16 < 4294967296 := by omega
          generalize tb (y % 16) ^^^ (y / 16) = z at f4 hz HN
          generalize y / 16 = q2 at f3 f4 hq2
          generalize tb (y % 16) = T2 at t2 f4 b2
          generalize y % 16 = k2 at f2 t2 hk2
          go_wp2_with fail
          go_round
          case rel => exact ⟨m + 1, by omega, by go_num, by rw [HN.out]⟩
          case measure => simp [intOf]; omega
        · have hme : m = D.length := by omega
          have HR : Hid (cr X (D.take m) = cr 4294967295 (LL.take (n + 1)).flatten) := hid (by rw [HE.out, cr_app, hXe, List.take_of_length_le (by omega)])
          generalize cr X (D.take m) = r at HR hY ⊢
          clear hme
          go_wp2_with fail
          go_round
          case rel => exact ⟨n + 1, by omega, by go_num, by rw [HR.out]⟩
          case measure => simp [intOf]; omega
    · have HR : Hid (((4294967295 - cr 4294967295 (LL.take n).flatten : Nat) : Int) = (sm LL.flatten : Int)) := hid (by unfold sm; rw [List.take_of_length_le (by omega)])
      generalize cr 4294967295 (LL.take n).flatten = X at hX HR ⊢
      go_wp2_with fail
      go_ret
      rw [show bits .xor .u32 IntKind.u32.max (X : Int) = ((4294967295 - X : Nat) : Int) from xor_all hX]
      exact ⟨ret_int HR.out, rfl⟩
end Go.Proofs.YtcefpjjefokjjaaDoor
