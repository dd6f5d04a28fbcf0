/- lex.sign, walked; strings.Builder: copyCheck, WriteByte, walked; lex.quoted, walked; lex.first, walked; A number of six digits by a magnitude: the product, where it has room; counterpaneref1.times, walked: a number of six digits by a magnitude; How long a word is, plainly. -/
import Derived.Test.YtgheopdadfnilaaGreatDoorKs11
import Derived.Test.YtgheopdadfnilaaGreatDoorKs02
import Derived.Test.YtgheopdadfnilaaGreatDoorKs00
import Derived.Laws.Bits64b
import Derived.Handy
import Derived.Deep.RegionHeld
namespace Go.Proofs.YtgheopdadfnilaaGreatDoor
open Go.RowKit
set_option linter.unusedVariables false
set_option linter.unusedSimpArgs false
/-- the letters in which a sign is handed round -/
theorem sig_step (k : Nat) (h : k < 15) : sgL.drop k = (sgL.getD k []) :: sgL.drop (k + 1) := by
  rcases (by omega : k = 0 ∨ k = 1 ∨ k = 2 ∨ k = 3 ∨ k = 4 ∨ k = 5 ∨ k = 6 ∨ k = 7 ∨ k = 8 ∨ k = 9 ∨ k = 10 ∨ k = 11 ∨ k = 12 ∨ k = 13 ∨ k = 14) with rfl | rfl | rfl | rfl | rfl | rfl | rfl | rfl | rfl | rfl | rfl | rfl | rfl | rfl | rfl <;> rfl
theorem sig_len (k : Nat) (h : k < 15) : (sgL.getD k []).length ≤ 2 := by
  rcases (by omega : k = 0 ∨ k = 1 ∨ k = 2 ∨ k = 3 ∨ k = 4 ∨ k = 5 ∨ k = 6 ∨ k = 7 ∨ k = 8 ∨ k = 9 ∨ k = 10 ∨ k = 11 ∨ k = 12 ∨ k = 13 ∨ k = 14) with rfl | rfl | rfl | rfl | rfl | rfl | rfl | rfl | rfl | rfl | rfl | rfl | rfl | rfl | rfl <;> decide
theorem run_sig (a : Array Value) (k : Nat) (v : Value) (w : World) (hk : k < 15) (hv : a[k]? = some v) : (Instr.index 196 (.agg a) (.int .i64 (k : Int))).run Tryz.prog w = .ok v w := by
  have h1 : (k : Int) < 15 := by omega
  have h0 : (0 : Int) ≤ k := by omega
  simp [Instr.index, run_underlying Tryz.underlying196, asIntOf, go_sem, h0, h1]
  rw [if_pos hk, hv]
  rfl
def sgA : Array Value := #[.string ⟨#[60, 62]⟩, .string ⟨#[60, 61]⟩, .string ⟨#[62, 61]⟩, .string ⟨#[60]⟩, .string ⟨#[62]⟩, .string ⟨#[61]⟩, .string ⟨#[43]⟩, .string ⟨#[45]⟩, .string ⟨#[42]⟩, .string ⟨#[47]⟩, .string ⟨#[38]⟩, .string ⟨#[40]⟩, .string ⟨#[41]⟩, .string ⟨#[44]⟩, .string ⟨#[58]⟩]
theorem sgA_at (k : Nat) (h : k < 15) : sgA[k]? = some (.string ⟨(sgL.getD k []).toArray⟩) := by
  rcases (by omega : k = 0 ∨ k = 1 ∨ k = 2 ∨ k = 3 ∨ k = 4 ∨ k = 5 ∨ k = 6 ∨ k = 7 ∨ k = 8 ∨ k = 9 ∨ k = 10 ∨ k = 11 ∨ k = 12 ∨ k = 13 ∨ k = 14) with rfl | rfl | rfl | rfl | rfl | rfl | rfl | rfl | rfl | rfl | rfl | rfl | rfl | rfl | rfl <;> rfl
set_option maxHeartbeats 8000000 in
set_option maxRecDepth 20000 in
theorem sign_any (s : ByteArray) (w : World) (hw : Std w) (hs : s.size ≤ 1000000) :
    Calls Tryz.prog 165 #[.string s] w fun e w' => e = .returned (wv (sigW s.data.toList)) ∧ w' = w := by
  obtain ⟨jw, hj⟩ : ∃ jw, sigW s.data.toList = jw := ⟨_, rfl⟩
  rw [hj]
  have HJ := hid hj
  clear hj
  have c0 : w.cell? ⟨5, 0, none⟩ = some (.string ⟨#[60, 62]⟩) := hw.sg 0 (by omega)
  have c1 : w.cell? ⟨5, 1, none⟩ = some (.string ⟨#[60, 61]⟩) := hw.sg 1 (by omega)
  have c2 : w.cell? ⟨5, 2, none⟩ = some (.string ⟨#[62, 61]⟩) := hw.sg 2 (by omega)
  have c3 : w.cell? ⟨5, 3, none⟩ = some (.string ⟨#[60]⟩) := hw.sg 3 (by omega)
  have c4 : w.cell? ⟨5, 4, none⟩ = some (.string ⟨#[62]⟩) := hw.sg 4 (by omega)
  have c5 : w.cell? ⟨5, 5, none⟩ = some (.string ⟨#[61]⟩) := hw.sg 5 (by omega)
  have c6 : w.cell? ⟨5, 6, none⟩ = some (.string ⟨#[43]⟩) := hw.sg 6 (by omega)
  have c7 : w.cell? ⟨5, 7, none⟩ = some (.string ⟨#[45]⟩) := hw.sg 7 (by omega)
  have c8 : w.cell? ⟨5, 8, none⟩ = some (.string ⟨#[42]⟩) := hw.sg 8 (by omega)
  have c9 : w.cell? ⟨5, 9, none⟩ = some (.string ⟨#[47]⟩) := hw.sg 9 (by omega)
  have c10 : w.cell? ⟨5, 10, none⟩ = some (.string ⟨#[38]⟩) := hw.sg 10 (by omega)
  have c11 : w.cell? ⟨5, 11, none⟩ = some (.string ⟨#[40]⟩) := hw.sg 11 (by omega)
  have c12 : w.cell? ⟨5, 12, none⟩ = some (.string ⟨#[41]⟩) := hw.sg 12 (by omega)
  have c13 : w.cell? ⟨5, 13, none⟩ = some (.string ⟨#[44]⟩) := hw.sg 13 (by omega)
  have c14 : w.cell? ⟨5, 14, none⟩ = some (.string ⟨#[58]⟩) := hw.sg 14 (by omega)
  clear hw
  go_enter Tryz.func165, Tryz.ntmps165
  go_wp2
  clear c0 c1 c2 c3 c4 c5 c6 c7 c8 c9 c10 c11 c12 c13 c14
  obtain ⟨A, hA⟩ : ∃ A, sgA = A := ⟨_, rfl⟩
  have HA := hid hA
  unfold sgA at hA
  rw [hA]
  clear hA
  go_loop [8] (fun i => ∃ k : Nat, k ≤ 15 ∧ i = .int .i64 (k : Int) ∧ Hid (sigP ((sgL.drop k).find? (fun t => Lib.hasPrefix s.data.toList t)) = jw)) (fun i => 15 - (intOf i).toNat)
  case atStart => exact ⟨0, by omega, rfl, HJ⟩
  case round =>
    obtain ⟨k, hk, rfl, hr⟩ := hrel
    by_cases hlt : k < 15
    · have hI := fun W => run_sig A k _ W hlt (by rw [← HA.out]; exact sgA_at k hlt)
      obtain ⟨N, eN⟩ : ∃ N : ByteArray, ⟨(sgL.getD k []).toArray⟩ = N := ⟨_, rfl⟩
      have lN : N.data.toList = sgL.getD k [] := by rw [← eN]
      have zN : N.size ≤ 2 := by rw [← len_data, lN]; exact sig_len k hlt
      rw [eN] at hI
      have hp := Tryz.strings_HasPrefix s N w
      have hr2 := hr.out
      rw [sig_step k hlt, List.find?_cons, ← lN] at hr2
      clear lN hr eN
      cases hb : Lib.hasPrefix s.data.toList N.data.toList
      · rw [hb] at hp hr2
        have H2 := hid hp
        have HR := hid hr2
        clear hp hr2 hb
        go_wp2_with (go_at_call 180; refine H2.out.mono ?_; rintro e w1 ⟨rfl, h1⟩; replace h1 := h1.symm; subst h1)
        go_round
        case rel => exact ⟨k + 1, by omega, by go_num, HR⟩
        case measure => simp [intOf]; omega
      · rw [hb] at hp hr2
        have H2 := hid hp
        have HR : Hid (jw = (6, N.data.toList, N.data.toList.length)) := by show _ = _; rw [← hr2]; rfl
        clear hp hr2 hb
        go_wp2_with (go_at_call 180; refine H2.out.mono ?_; rintro e w1 ⟨rfl, h1⟩; replace h1 := h1.symm; subst h1)
        go_ret3
        exact ⟨ret_wv (by rw [HR.out]; rfl) (by rw [HR.out]) (by rw [HR.out]; simp), rfl⟩
    · have e : k = 15 := by omega
      subst e
      have HR := hid hr.out.symm
      clear hr
      go_wp2_with fail
      go_ret3
      exact ⟨ret_bad HR.out, rfl⟩
end Go.Proofs.YtgheopdadfnilaaGreatDoor
namespace Go.Proofs.YtgheopdadfnilaaGreatDoor
open Go.RowKit
set_option linter.unusedVariables false
set_option linter.unusedSimpArgs false
theorem size53 : (Tryz.prog.info? 54).map (·.size) = some 2 := by kernel_rfl
theorem lies53 : liesAt Tryz.prog Tryz.prog.depth 54 (2 / Tryz.prog.cellsOf 54) 0 54 1 = true := by kernel_rfl
theorem info5 : (Tryz.prog.info? 5).map (fun i => (i.zero, i.size, i.bytes)) = some (some (.int .u8 0), 1, 1) := by kernel_rfl
set_option maxHeartbeats 1000000 in
set_option maxRecDepth 100000 in
theorem check_used (b : Nat) (w : World) (h0 : w.cell? ⟨b, 0, none⟩ = some (.pointer (some ⟨b, 0, none⟩))) :
    Calls Tryz.prog 94 #[.pointer (some ⟨b, 0, none⟩)] w fun e w' => e = .returned (.tuple #[]) ∧ w' = w := by
  obtain ⟨j, hj, _⟩ := Option.map_eq_some_iff.1 size53
  go_enter Tryz.func94, Tryz.ntmps94
  go_wp2
  rw [Lib.run_neq_ptr_same w _ Tryz.underlying51 hj]
  go_wp2
  go_end0
  exact ⟨rfl, rfl⟩
set_option maxHeartbeats 1000000 in
set_option maxRecDepth 100000 in
theorem check_new (b : Nat) (w : World) (h0 : w.cell? ⟨b, 0, none⟩ = some (.pointer none)) (hsh : w.shape? b = some (54, 2)) (hfz : w.frozen? ⟨b, 0, none⟩ = false) :
    Calls Tryz.prog 94 #[.pointer (some ⟨b, 0, none⟩)] w fun e w' => e = .returned (.tuple #[]) ∧ w' = w.setCell ⟨b, 0, none⟩ (.pointer (some ⟨b, 0, none⟩)) := by
  obtain ⟨j, hj, hjs⟩ := Option.map_eq_some_iff.1 size53
  go_enter Tryz.func94, Tryz.ntmps94
  go_wp2
  rw [Lib.run_to_unsafe w ⟨b, 0, none⟩ Tryz.underlying51 Tryz.underlying154 hj (by rw [hjs]; decide) hsh (Nat.zero_lt_succ 1)]
  simp only [Result.andThen]
  rw [Oper.upon_value]
  go_wp2
  rw [run_callFunc_extern Tryz.func128 (by kernel_rfl) (by kernel_rfl) (by kernel_rfl) (e := Extern.AbiNoEscape.same) (by kernel_rfl)]
  rw [Lib.run_noEscape]
  simp only [Result.andThen]
  rw [Oper.upon_value]
  go_wp2
  rw [Lib.run_from_unsafe w ⟨b, 0, none⟩ Tryz.underlying154 Tryz.underlying51 hj hsh lies53]
  simp only [Result.andThen]
  rw [Oper.upon_value]
  go_wp2
  go_end0
  exact ⟨rfl, rfl⟩
theorem check_any (B b : Nat) (bs : List Value) (w : World) (h : Lib.IsBuilder 54 5 B b bs w) :
    Calls Tryz.prog 94 #[.pointer (some ⟨b, 0, none⟩)] w fun e w' => e = .returned (.tuple #[]) ∧ Lib.BuilderAt 54 5 B b (.pointer (some ⟨b, 0, none⟩)) bs w' ∧ Below B w w' := by
  rcases h with h | h
  · refine (check_new b w h.cell0 h.shape h.frozen0).mono ?_
    rintro e w' ⟨rfl, rfl⟩
    exact ⟨rfl, h.used _, (Below.refl B w).setCell (p := ⟨b, 0, none⟩) h.1 _⟩
  · refine (check_used b w h.cell0).mono ?_
    rintro e w' ⟨rfl, rfl⟩
    exact ⟨rfl, h, Below.refl B _⟩
set_option maxHeartbeats 2000000 in
theorem writeByte_any (B b : Nat) (bs : List Value) (c : Int) (w : World) (h : Lib.IsBuilder 54 5 B b bs w) (hlen : bs.length + 1 ≤ 1000000) (hBw : B ≤ w.heap.size) :
    Calls Tryz.prog 182 #[.pointer (some ⟨b, 0, none⟩), .int .u8 c] w fun e w' => e = .returned .nilIface ∧ Lib.BuilderAt 54 5 B b (.pointer (some ⟨b, 0, none⟩)) (bs ++ [.int .u8 c]) w' ∧ Below B w w' := by
  obtain ⟨i0, hi, hz0, hz1, hz2⟩ := inf_of info5
  have HC := hid (check_any B b bs w h)
  clear h
  go_enter Tryz.func182, Tryz.ntmps182
  go_wp2_with (go_at_call 94; refine HC.out.mono ?_)
  rintro e w1 ⟨rfl, h1, hb1⟩
  obtain ⟨hB, v, hbk, hown, hne⟩ := h1
  have c0 : w1.cell? ⟨b, 0, none⟩ = some (.pointer (some ⟨b, 0, none⟩)) := by rw [Lib.cell_of_heap hbk]; rfl
  have c1 : w1.cell? ⟨b, 1, none⟩ = some v := by rw [Lib.cell_of_heap hbk]; rfl
  go_wp2_with (at_builtin; refine wpList_append_own _ rfl _ _ 52 rfl B 5 i0 (.int .u8 0) 1 1 Tryz.underlying52 hi hz0 hz1 hz2 rfl (by decide) _ _ _ rfl (hown.alloc _) ⟨w1.heap.size, 0, none⟩ 1 1 [.int .u8 c] rfl rfl (news_at _ [.int .u8 c] 5 _ rfl) (by intro u hu; simp at hu; subst hu; rfl) (by unfold maxLen; omega) (by omega) (by have := hb1.size; simp; omega) ?_)
  intro v' w2 hown' hgrow _
  have hlt : b < w1.heap.size := by
    rcases Nat.lt_or_ge b w1.heap.size with h' | h'
    · exact h'
    · simp [Array.getElem?_eq_none h'] at hbk
  have hb2 : w2.heap[b]? = some (.cells #[.pointer (some ⟨b, 0, none⟩), v] 54 (0, 0)) := by
    rw [hgrow.block b (by simp; omega) (fun e => hne e.symm), Lib.alloc_old w1 _ b hlt]
    exact hbk
  have d0 : w2.cell? ⟨b, 0, none⟩ = some (.pointer (some ⟨b, 0, none⟩)) := by rw [Lib.cell_of_heap hb2]; rfl
  have d1 : w2.cell? ⟨b, 1, none⟩ = some v := by rw [Lib.cell_of_heap hb2]; rfl
  have f1 : w2.frozen? ⟨b, 1, none⟩ = false := Lib.frozen_of_heap hb2 1
  obtain ⟨g, cap, rfl⟩ : ∃ g cap, v' = .slice (some ⟨g, 0, none⟩) (bs.length + 1) cap := by
    rcases hown'.2 with ⟨_, h0⟩ | ⟨g, cap, cur, hv, _⟩
    · omega
    · exact ⟨g, cap, hv⟩
  go_wp2
  go_ret
  refine ⟨rfl, ?_, ?_⟩
  · exact Lib.BuilderAt.put (T := 54) (e := 5) hB hb2 (bs' := bs ++ [.int .u8 c]) (by simpa using hown') (by decide)
  · exact ((hb1.alloc (by have := hb1.size; omega) _).grown hgrow (by have := hb1.size; simp; omega) (fun k hk => (hown.lt k hk).1)).setCell (p := ⟨b, 1, none⟩) hB _
end Go.Proofs.YtgheopdadfnilaaGreatDoor
namespace Go.Proofs.YtgheopdadfnilaaGreatDoor
open Go.RowKit
set_option linter.unusedVariables false
set_option linter.unusedSimpArgs false
theorem bld_new (w : World) : Lib.IsBuilder 54 5 w.heap.size w.heap.size (Lib.byteCells []) (w.alloc (.cells #[.pointer none, .slice none 0 0] 54)) := by
  refine .inl ⟨Nat.le_refl _, .slice none 0 0, by exact Array.getElem?_push_size, World.ownsRow_nil _ _ _ _, by simp [Value.ownBlock]⟩
theorem cells_snoc (l : List UInt8) (c : UInt8) : Lib.byteCells l ++ [.int .u8 (c.toNat : Int)] = Lib.byteCells (l ++ [c]) := by simp [Lib.byteCells]
theorem cells_len (l : List UInt8) : (Lib.byteCells l).length = l.length := by simp [Lib.byteCells]
theorem drop_letters (s : ByteArray) (k : Nat) : ∃ T : ByteArray, s.extract k s.size = T ∧ T.data.toList = s.data.toList.drop k ∧ T.size = s.size - k := by
  refine ⟨_, rfl, ?_, by simp⟩
  rw [Lib.extract_data]
  exact List.take_of_length_le (by simp)
set_option maxHeartbeats 4000000 in
theorem quoted_any (s : ByteArray) (w : World) (hw : Std w) (hp : 0 < s.size) (hs : s.size ≤ 100000) :
    Calls Tryz.prog 161 #[.string s] w fun e w' => e = .returned (wv (quoW s.data.toList)) ∧ Q w w' := by
  obtain ⟨R, hR⟩ : ∃ R, quoF (s.data.toList.drop 1) [] 1 = R := ⟨_, rfl⟩
  have hq : quoW s.data.toList = quoP R := by unfold quoW; rw [hR]
  rw [hq]
  have HR := hid hR
  have HW := hid hw
  clear hR hq hw
  go_enter Tryz.func161, Tryz.ntmps161
  go_wp2
  go_loopw [6] (fun x W => ∃ (k : Nat) (acc : List UInt8), k ≤ s.size ∧ x = .int .i64 (k : Int) ∧ 1 ≤ k ∧ acc.length ≤ k ∧ Lib.IsBuilder 54 5 w.heap.size w.heap.size (Lib.byteCells acc) W ∧ Q w W ∧ Hid (quoF (s.data.toList.drop k) acc k = R)) (fun x _ => s.size - (intOf x).toNat)
  case atStart => exact ⟨1, [], by omega, rfl, by omega, by simp, bld_new w, (Q.refl _).alloc _, HR⟩
  case round =>
    obtain ⟨k, acc, hk, rfl, h1, hl, hB, hQ, hr⟩ := hrel
    have HB := hid hB
    have HQ := hid hQ
    clear hB hQ
    by_cases hlt : k < s.size
    · have ed := drop_cons s k hlt
      by_cases hc : s[k] = 34
      · have e34 := eq_byte (n := 34) (by omega) hc
        obtain ⟨T, eT, lT, zT⟩ := drop_letters s (k + 1)
        have hp2 := fun W => Tryz.strings_HasPrefix T ⟨#[34]⟩ W
        have hr2 := hr.out
        rw [ed, hc] at hr2
        rw [lT] at hp2
        have eT' : s.extract ((k : Int) + 1).toNat s.size = T := by rw [show ((k : Int) + 1).toNat = k + 1 by omega]; exact eT
        cases hb : Lib.hasPrefix (s.data.toList.drop (k + 1)) [34]
        · rw [show (⟨#[34]⟩ : ByteArray).data.toList = [34] from rfl, hb] at hp2
          rw [quoF_end hb] at hr2
          have HP := hid hp2
          have HS := hid (Tryz.Builder_String_any w.heap.size w.heap.size acc wr HB.out HQ.out.size)
          have HC := hid (fun W (q : Q w W) => closed_any ⟨acc.toArray⟩ (k + 1) W (HW.out.on q) (by rw [size_mk]; omega))
          have HR2 : Hid (quoP R = quoP (some (acc, k + 1))) := by show _ = _; rw [← hr2]
          have HC2 : Hid (∀ W, Q w W → Calls Tryz.prog 181 #[.string ⟨acc.toArray⟩, .int .i64 ((k : Int) + 1)] W fun e w' => e = .returned (wv (quoP (some (acc, k + 1)))) ∧ Q W w') := HC
          clear hp2 hr2 hb lT ed hr HC
          generalize quoP (some (acc, k + 1)) = q at HR2 HC2
          obtain ⟨a, t, n⟩ := q
          unfold wv at HC2
          simp only at HC2
          have HQ2 : Hid (∀ W, Below w.heap.size wr W → Q w W) := hid (fun W h => Below.trans HQ.out h)
          go_wp2_with (first | (go_at_call 180; refine (HP.out _).mono ?_; rintro e w1 ⟨rfl, h1⟩; replace h1 := h1.symm; subst h1) | (go_at_call 29; refine HS.out.mono ?_; rintro e w2 ⟨rfl, q2⟩; have Q2 := hid (HQ2.out _ q2); clear q2) | (go_at_call 181; refine (HC2.out _ Q2.out).mono ?_; rintro e w3 ⟨rfl, q3⟩; have Q3 := hid q3; clear q3))
          go_ret3
          exact ⟨by rw [HR2.out]; rfl, Q2.out.trans Q3.out⟩
        · rw [show (⟨#[34]⟩ : ByteArray).data.toList = [34] from rfl, hb] at hp2
          obtain ⟨r', er⟩ := two_of hb
          have hz : k + 1 < s.size := by
            have := congrArg List.length er
            simp at this
            omega
          have ed2 := drop_cons s (k + 1) hz
          have hc2 : s[k + 1] = 34 := by rw [er] at ed2; exact (List.cons.inj ed2).1.symm
          rw [ed2, hc2, quoF_two] at hr2
          have HP := hid hp2
          have HR2 := hid hr2
          have e2 := hid (writeByte_any w.heap.size w.heap.size (Lib.byteCells acc) (s[k + 1].toNat : Int) wr HB.out (by rw [cells_len]; omega) HQ.out.size)
          rw [cells_snoc, hc2] at e2
          have hget : ((s[k + 1].toNat : Nat) : Int) = 34 := by rw [hc2]; rfl
          clear hp2 hr2 hb lT ed ed2 hr er
          go_wp2_with (first | (go_at_call 180; refine (HP.out _).mono ?_; rintro e w1 ⟨rfl, h1⟩; replace h1 := h1.symm; subst h1) | (go_at_call 182; refine e2.out.mono ?_; rintro e w2 ⟨rfl, h2, q2⟩; have B2 := hid h2; have Q2 := hid (Below.trans HQ.out q2); clear q2 h2))
          go_roundw
          case rel => exact ⟨k + 2, acc ++ [34], by omega, by go_num, by omega, by simp; omega, .inr B2.out, Q2.out, HR2⟩
          case measure => simp [intOf]; omega
      · have e34 := byte_ne (n := 34) (by omega) hc
        have hr2 := hr.out
        rw [ed, quoF_not hc] at hr2
        have HR2 := hid hr2
        have e2 := hid (writeByte_any w.heap.size w.heap.size (Lib.byteCells acc) (s[k].toNat : Int) wr HB.out (by rw [cells_len]; omega) HQ.out.size)
        rw [cells_snoc] at e2
        clear hr2 ed hr
        go_wp2_with (go_at_call 182; refine e2.out.mono ?_; rintro e w2 ⟨rfl, h2, q2⟩; have B2 := hid h2; have Q2 := hid (Below.trans HQ.out q2); clear q2 h2)
        go_roundw
        case rel => exact ⟨k + 1, acc ++ [s[k]], by omega, by go_num, by omega, by simp; omega, .inr B2.out, Q2.out, HR2⟩
        case measure => simp [intOf]; omega
    · have hr2 := hr.out
      rw [List.drop_of_length_le (by simp; omega)] at hr2
      have HR2 : Hid (quoP R = bad) := by show _ = _; rw [← hr2]; rfl
      clear hr2 hr
      go_wp2_with fail
      go_ret3
      exact ⟨ret_bad HR2.out, HQ.out⟩
end Go.Proofs.YtgheopdadfnilaaGreatDoor
namespace Go.Proofs.YtgheopdadfnilaaGreatDoor
open Go.RowKit
set_option linter.unusedVariables false
set_option linter.unusedSimpArgs false
theorem ret_tup {t : Nat × List UInt8 × Nat} {a n : Nat} {l : List UInt8} (h : t = (a, l, n)) : Ending.returned (.tuple #[.int .i64 (a : Int), .string ⟨l.toArray⟩, .int .i64 (n : Int)]) = .returned (wv t) := by
  subst h
  rfl
theorem first_any (s : ByteArray) (w : World) (hw : Std w) (hp : 0 < s.size) (hs : s.size ≤ 100000) :
    Calls Tryz.prog 141 #[.string s] w fun e w' => e = .returned (wv (wordF s.data.toList)) ∧ Q w w' := by
  have hh := headD_get s hp
  by_cases h34 : s[0] = 34
  · have e34 := eq_byte (n := 34) (by omega) h34
    have HX := hid (quoted_any s w hw hp hs)
    have HF : Hid (wordF s.data.toList = quoW s.data.toList) := by show _ = _; unfold wordF; rw [hh, if_pos h34]
    clear hh hw
    generalize quoW s.data.toList = q at HF HX
    generalize wordF s.data.toList = f at HF ⊢
    obtain ⟨a, l, n⟩ := q
    unfold wv at HX
    simp only at HX
    go_enter Tryz.func141, Tryz.ntmps141
    go_wp2_with (go_at_call 161; refine HX.out.mono ?_; rintro e w1 ⟨rfl, q1⟩; have Q1 := hid q1; clear q1)
    go_ret3
    exact ⟨ret_tup HF.out, Q1.out⟩
  · have n34 := byte_ne (n := 34) (by omega) h34
    by_cases h35 : s[0] = 35
    · have e35 := eq_byte (n := 35) (by omega) h35
      have HX := hid (failure_any s w hw (by omega))
      have HF : Hid (wordF s.data.toList = errW s.data.toList) := by show _ = _; unfold wordF; rw [hh, if_neg h34, if_pos h35]
      clear hh hw
      generalize errW s.data.toList = q at HF HX
      generalize wordF s.data.toList = f at HF ⊢
      obtain ⟨a, l, n⟩ := q
      unfold wv at HX
      simp only at HX
      go_enter Tryz.func141, Tryz.ntmps141
      go_wp2_with (go_at_call 162; refine HX.out.mono ?_; rintro e w1 ⟨rfl, h1⟩; replace h1 := h1.symm; subst h1)
      go_ret3
      exact ⟨ret_tup HF.out, Q.refl _⟩
    · have n35 := byte_ne (n := 35) (by omega) h35
      have HJ := hid (fun W => joins_any s[0] W)
      cases hj : joinB s[0]
      · rw [hj] at HJ
        have HX := hid (sign_any s w hw (by omega))
        have HF : Hid (wordF s.data.toList = sigW s.data.toList) := by show _ = _; unfold wordF; rw [hh, if_neg h34, if_neg h35, if_neg (by simp [hj])]
        clear hh hw
        generalize sigW s.data.toList = q at HF HX
        generalize wordF s.data.toList = f at HF ⊢
        obtain ⟨a, l, n⟩ := q
        unfold wv at HX
        simp only at HX
        go_enter Tryz.func141, Tryz.ntmps141
        go_wp2_with (first | (go_at_call 163; refine (HJ.out _).mono ?_; rintro e w1 ⟨rfl, h1⟩; replace h1 := h1.symm; subst h1) | (go_at_call 165; refine HX.out.mono ?_; rintro e w1 ⟨rfl, h1⟩; replace h1 := h1.symm; subst h1))
        go_ret3
        exact ⟨ret_tup HF.out, Q.refl _⟩
      · rw [hj] at HJ
        have HX := hid (joined_any s w hw (by omega))
        have HF : Hid (wordF s.data.toList = joinW s.data.toList) := by show _ = _; unfold wordF; rw [hh, if_neg h34, if_neg h35, if_pos hj]
        clear hh hw
        generalize joinW s.data.toList = q at HF HX
        generalize wordF s.data.toList = f at HF ⊢
        obtain ⟨a, l, n⟩ := q
        unfold wv at HX
        simp only at HX
        go_enter Tryz.func141, Tryz.ntmps141
        go_wp2_with (first | (go_at_call 163; refine (HJ.out _).mono ?_; rintro e w1 ⟨rfl, h1⟩; replace h1 := h1.symm; subst h1) | (go_at_call 164; refine HX.out.mono ?_; rintro e w1 ⟨rfl, q1⟩; have Q1 := hid q1; clear q1))
        go_ret3
        exact ⟨ret_tup HF.out, Q1.out⟩
end Go.Proofs.YtgheopdadfnilaaGreatDoor
namespace Go.Proofs.YtgheopdadfnilaaGreatDoor.V
open Go.RowKit
theorem Q.setCell {a w : World} (h : Q a w) {b k : Nat} (hb : a.heap.size ≤ b) (v : Value) : Q a (w.setCell ⟨b, k, none⟩ v) := Below.setCell h hb v
end Go.Proofs.YtgheopdadfnilaaGreatDoor.V
namespace Go.Proofs.YtgheopdadfnilaaGreatDoor.V
open Go.RowKit
set_option linter.unusedVariables false
theorem room2 {r p : Int} (h : 0 ≤ p ∧ p ≤ 18446744065119617025) (r0 : 0 ≤ r) (r1 : r < 4294967296) : 0 ≤ r + p ∧ r + p < 18446744073709551616 := by omega
end Go.Proofs.YtgheopdadfnilaaGreatDoor.V
namespace Go.Proofs.YtgheopdadfnilaaGreatDoor
open Go.RowKit
set_option linter.unusedVariables false
set_option linter.unusedSimpArgs false
theorem quoF_le : ∀ (l acc : List UInt8) (n : Nat) (t : List UInt8) (m : Nat), quoF l acc n = some (t, m) → n < m ∧ m ≤ n + l.length
  | [], _, _, _, _, h => by simp [quoF] at h
  | [c], acc, n, t, m, h => by
    unfold quoF at h
    split at h
    · simp only [Option.some.injEq, Prod.mk.injEq] at h
      simp
      omega
    · cases h
  | c :: d :: r, acc, n, t, m, h => by
    unfold quoF at h
    split at h
    · split at h
      · have := quoF_le r _ _ _ _ h
        simp
        omega
      · simp only [Option.some.injEq, Prod.mk.injEq] at h
        simp
        omega
    · have := quoF_le (d :: r) _ _ _ _ h
      simp at this ⊢
      omega
theorem prefix_len {l p : List UInt8} (h : Lib.hasPrefix l p = true) : p.length ≤ l.length := by
  unfold Lib.hasPrefix at h
  rw [List.isPrefixOf_iff_prefix] at h
  exact h.length_le
theorem len_tw (l : List UInt8) (p : UInt8 → Bool) : (l.takeWhile p).length ≤ l.length := (List.takeWhile_prefix _).length_le
theorem word_len (l : List UInt8) : (wordF l).2.2 ≤ l.length := by
  unfold wordF
  split
  · rename_i h
    have hl : 0 < l.length := by
      cases l with
      | nil => exact absurd h (by decide)
      | cons c r => simp
    unfold quoW
    cases hq : quoF (l.drop 1) [] 1 with
    | none => simp [quoP, bad]
    | some p =>
      obtain ⟨t, m⟩ := p
      have := quoF_le _ _ _ _ _ hq
      simp only [quoP]
      split
      · rw [List.length_drop] at this
        simp only
        omega
      · simp [bad]
  · split
    · unfold errW
      cases he : errF l with
      | none => simp [errP, bad]
      | some e =>
        unfold errF at he
        have h2 := List.find?_some he
        exact prefix_len h2
    · split
      · unfold joinW
        split
        · simp [bad]
        · exact len_tw _ _
      · unfold sigW
        cases he : sigF l with
        | none => simp [sigP, bad]
        | some e =>
          unfold sigF at he
          have h2 := List.find?_some he
          exact prefix_len h2
end Go.Proofs.YtgheopdadfnilaaGreatDoor
