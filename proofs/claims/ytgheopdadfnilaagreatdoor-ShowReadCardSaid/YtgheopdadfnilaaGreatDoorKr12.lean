/- lex.sign, walked; strings.Builder: copyCheck, WriteByte, walked; lex.quoted, walked; lex.first, walked; Numbers of six digits of 32 bits (counterpaneref1.W): wh. -/
import Derived.Test.YtgheopdadfnilaaGreatDoorKr11
import Derived.Test.YtgheopdadfnilaaGreatDoorKr02
import Derived.Test.YtgheopdadfnilaaGreatDoorKr00
import Derived.Handy
set_option linter.unusedVariables false
set_option linter.unusedSimpArgs false
set_option maxRecDepth 100000
namespace Go.Proofs.YtgheopdadfnilaaGreatDoor
open Go.RowKit
theorem sig_step (k : Nat) (h : k < 15) : sgL.drop k = (sgL.getD k []) :: sgL.drop (k + 1) := by
  rcases (by omega : k = 0 ∨ k = 1 ∨ k = 2 ∨ k = 3 ∨ k = 4 ∨ k = 5 ∨ k = 6 ∨ k = 7 ∨ k = 8 ∨ k = 9 ∨ k = 10 ∨ k = 11 ∨ k = 12 ∨ k = 13 ∨ k = 14) with rfl | rfl | rfl | rfl | rfl | rfl | rfl | rfl | rfl | rfl | rfl | rfl | rfl | rfl | rfl <;> rfl
theorem sig_len (k : Nat) (h : k < 15) : (sgL.getD k []).length ≤ 2 := by
  rcases (by omega : k = 0 ∨ k = 1 ∨ k = 2 ∨ k = 3 ∨ k = 4 ∨ k = 5 ∨ k = 6 ∨ k = 7 ∨ k = 8 ∨ k = 9 ∨ k = 10 ∨ k = 11 ∨ k = 12 ∨ k = 13 ∨ k = 14) with rfl | rfl | rfl | rfl | rfl | rfl | rfl | rfl | rfl | rfl | rfl | rfl | rfl | rfl | rfl <;> decide
theorem run_sig (a : Array Value) (k : Nat) (v : Value) (w : World) (hk : k < 15) (hv : a[k]? = some v) : (Instr.index 196 (.agg a) (.int .i64 (k : Int))).run Tryz.prog w = .ok v w := by
  have h1 : (k : Int) < 15 := by omega
  have h0 : (0 : Int) ≤ k := by omega
  simp [Instr.index, run_underlying Tryz.underlying196, asIntOf, go_sem, h0, h1]
  rw [if_pos hk, hv]
  rfl
def sgA : Array Value := #[.string ⟨#[60, 62]⟩, .string ⟨#[60, 61]⟩, .string ⟨#[62, 61]⟩, .string ⟨#[60]⟩, .string ⟨#[62]⟩, .string ⟨#[61]⟩, .string ⟨#[43]⟩, .string ⟨#[45]⟩, .string ⟨#[42]⟩, .string ⟨#[47]⟩, .string ⟨#[38]⟩, .string ⟨#[40]⟩, .string ⟨#[41]⟩, .string ⟨#[44]⟩, .string ⟨#[58]⟩]
theorem sgA_at (k : Nat) (h : k < 15) : sgA[k]? = some (.string ⟨(sgL.getD k []).toArray⟩) := by
  rcases (by omega : k = 0 ∨ k = 1 ∨ k = 2 ∨ k = 3 ∨ k = 4 ∨ k = 5 ∨ k = 6 ∨ k = 7 ∨ k = 8 ∨ k = 9 ∨ k = 10 ∨ k = 11 ∨ k = 12 ∨ k = 13 ∨ k = 14) with rfl | rfl | rfl | rfl | rfl | rfl | rfl | rfl | rfl | rfl | rfl | rfl | rfl | rfl | rfl <;> rfl
set_option maxHeartbeats 8000000 in
set_option maxRecDepth 20000 in
theorem sign_any (s : ByteArray) (w : World) (hw : Std w) (hs : s.size ≤ 1000000) :
    Calls Tryz.prog 165 #[.string s] w fun e w' => e = .returned (wv (sigW s.data.toList)) ∧ w' = w := by
  obtain ⟨jw, hj⟩ : ∃ jw, sigW s.data.toList = jw := ⟨_, rfl⟩
  rw [hj]
  have HJ := hid hj
  clear hj
  have c0 : w.cell? ⟨5, 0, none⟩ = some (.string ⟨#[60, 62]⟩) := hw.sg 0 (by omega)
  have c1 : w.cell? ⟨5, 1, none⟩ = some (.string ⟨#[60, 61]⟩) := hw.sg 1 (by omega)
  have c2 : w.cell? ⟨5, 2, none⟩ = some (.string ⟨#[62, 61]⟩) := hw.sg 2 (by omega)
  have c3 : w.cell? ⟨5, 3, none⟩ = some (.string ⟨#[60]⟩) := hw.sg 3 (by omega)
  have c4 : w.cell? ⟨5, 4, none⟩ = some (.string ⟨#[62]⟩) := hw.sg 4 (by omega)
  have c5 : w.cell? ⟨5, 5, none⟩ = some (.string ⟨#[61]⟩) := hw.sg 5 (by omega)
  have c6 : w.cell? ⟨5, 6, none⟩ = some (.string ⟨#[43]⟩) := hw.sg 6 (by omega)
  have c7 : w.cell? ⟨5, 7, none⟩ = some (.string ⟨#[45]⟩) := hw.sg 7 (by omega)
  have c8 : w.cell? ⟨5, 8, none⟩ = some (.string ⟨#[42]⟩) := hw.sg 8 (by omega)
  have c9 : w.cell? ⟨5, 9, none⟩ = some (.string ⟨#[47]⟩) := hw.sg 9 (by omega)
  have c10 : w.cell? ⟨5, 10, none⟩ = some (.string ⟨#[38]⟩) := hw.sg 10 (by omega)
  have c11 : w.cell? ⟨5, 11, none⟩ = some (.string ⟨#[40]⟩) := hw.sg 11 (by omega)
  have c12 : w.cell? ⟨5, 12, none⟩ = some (.string ⟨#[41]⟩) := hw.sg 12 (by omega)
  have c13 : w.cell? ⟨5, 13, none⟩ = some (.string ⟨#[44]⟩) := hw.sg 13 (by omega)
  have c14 : w.cell? ⟨5, 14, none⟩ = some (.string ⟨#[58]⟩) := hw.sg 14 (by omega)
  clear hw
  go_enter Tryz.func165, Tryz.ntmps165
  go_wp2
  clear c0 c1 c2 c3 c4 c5 c6 c7 c8 c9 c10 c11 c12 c13 c14
  obtain ⟨A, hA⟩ : ∃ A, sgA = A := ⟨_, rfl⟩
  have HA := hid hA
  unfold sgA at hA
  rw [hA]
  clear hA
  go_loop [8] (fun i => ∃ k : Nat, k ≤ 15 ∧ i = .int .i64 (k : Int) ∧ Hid (sigP ((sgL.drop k).find? (fun t => Lib.hasPrefix s.data.toList t)) = jw)) (fun i => 15 - (intOf i).toNat)
  case atStart => exact ⟨0, by omega, rfl, HJ⟩
  case round =>
    obtain ⟨k, hk, rfl, hr⟩ := hrel
    by_cases hlt : k < 15
    · have hI := fun W => run_sig A k _ W hlt (by rw [← HA.out]; exact sgA_at k hlt)
      obtain ⟨N, eN⟩ : ∃ N : ByteArray, ⟨(sgL.getD k []).toArray⟩ = N := ⟨_, rfl⟩
      have lN : N.data.toList = sgL.getD k [] := by rw [← eN]
      have zN : N.size ≤ 2 := by rw [← len_data, lN]; exact sig_len k hlt
      rw [eN] at hI
      have hp := Tryz.strings_HasPrefix s N w
      have hr2 := hr.out
      rw [sig_step k hlt, List.find?_cons, ← lN] at hr2
      clear lN hr eN
      cases hb : Lib.hasPrefix s.data.toList N.data.toList
      · rw [hb] at hp hr2
        have H2 := hid hp
        have HR := hid hr2
        clear hp hr2 hb
        go_wp2_with (go_at_call 180; refine H2.out.mono ?_; rintro e w1 ⟨rfl, h1⟩; replace h1 := h1.symm; subst h1)
        go_round
        case rel => exact ⟨k + 1, by omega, by go_num, HR⟩
        case measure => simp [intOf]; omega
      · rw [hb] at hp hr2
        have H2 := hid hp
        have HR : Hid (jw = (6, N.data.toList, N.data.toList.length)) := by show _ = _; rw [← hr2]; rfl
        clear hp hr2 hb
        go_wp2_with (go_at_call 180; refine H2.out.mono ?_; rintro e w1 ⟨rfl, h1⟩; replace h1 := h1.symm; subst h1)
        go_ret3
        exact ⟨ret_wv (by rw [HR.out]; rfl) (by rw [HR.out]) (by rw [HR.out]; simp), rfl⟩
    · have e : k = 15 := by omega
      subst e
      have HR := hid hr.out.symm
      clear hr
      go_wp2_with fail
      go_ret3
      exact ⟨ret_bad HR.out, rfl⟩
theorem size53 : (Tryz.prog.info? 54).map (·.size) = some 2 := by kernel_rfl
theorem lies53 : liesAt Tryz.prog Tryz.prog.depth 54 (2 / Tryz.prog.cellsOf 54) 0 54 1 = true := by kernel_rfl
theorem info5 : (Tryz.prog.info? 5).map (fun i => (i.zero, i.size, i.bytes)) = some (some (.int .u8 0), 1, 1) := by kernel_rfl
set_option maxHeartbeats 1000000 in
theorem check_used (b : Nat) (w : World) (h0 : w.cell? ⟨b, 0, none⟩ = some (.pointer (some ⟨b, 0, none⟩))) :
    Calls Tryz.prog 94 #[.pointer (some ⟨b, 0, none⟩)] w fun e w' => e = .returned (.tuple #[]) ∧ w' = w := by
  obtain ⟨j, hj, _⟩ := Option.map_eq_some_iff.1 size53
  go_enter Tryz.func94, Tryz.ntmps94
  go_wp2
  rw [Lib.run_neq_ptr_same w _ Tryz.underlying51 hj]
  go_wp2
  go_end0
  exact ⟨rfl, rfl⟩
set_option maxHeartbeats 1000000 in
theorem check_new (b : Nat) (w : World) (h0 : w.cell? ⟨b, 0, none⟩ = some (.pointer none)) (hsh : w.shape? b = some (54, 2)) (hfz : w.frozen? ⟨b, 0, none⟩ = false) :
    Calls Tryz.prog 94 #[.pointer (some ⟨b, 0, none⟩)] w fun e w' => e = .returned (.tuple #[]) ∧ w' = w.setCell ⟨b, 0, none⟩ (.pointer (some ⟨b, 0, none⟩)) := by
  obtain ⟨j, hj, hjs⟩ := Option.map_eq_some_iff.1 size53
  go_enter Tryz.func94, Tryz.ntmps94
  go_wp2
  rw [Lib.run_to_unsafe w ⟨b, 0, none⟩ Tryz.underlying51 Tryz.underlying154 hj (by rw [hjs]; decide) hsh (Nat.zero_lt_succ 1)]
  simp only [Result.andThen]
  rw [Oper.upon_value]
  go_wp2
  rw [run_callFunc_extern Tryz.func128 (by kernel_rfl) (by kernel_rfl) (by kernel_rfl) (e := Extern.AbiNoEscape.same) (by kernel_rfl)]
  rw [Lib.run_noEscape]
  simp only [Result.andThen]
  rw [Oper.upon_value]
  go_wp2
  rw [Lib.run_from_unsafe w ⟨b, 0, none⟩ Tryz.underlying154 Tryz.underlying51 hj hsh lies53]
  simp only [Result.andThen]
  rw [Oper.upon_value]
  go_wp2
  go_end0
  exact ⟨rfl, rfl⟩
theorem check_any (B b : Nat) (bs : List Value) (w : World) (h : Lib.IsBuilder 54 5 B b bs w) :
    Calls Tryz.prog 94 #[.pointer (some ⟨b, 0, none⟩)] w fun e w' => e = .returned (.tuple #[]) ∧ Lib.BuilderAt 54 5 B b (.pointer (some ⟨b, 0, none⟩)) bs w' ∧ Below B w w' := by
  rcases h with h | h
  · refine (check_new b w h.cell0 h.shape h.frozen0).mono ?_
    rintro e w' ⟨rfl, rfl⟩
    exact ⟨rfl, h.used _, (Below.refl B w).setCell (p := ⟨b, 0, none⟩) h.1 _⟩
  · refine (check_used b w h.cell0).mono ?_
    rintro e w' ⟨rfl, rfl⟩
    exact ⟨rfl, h, Below.refl B _⟩
set_option maxHeartbeats 2000000 in
theorem writeByte_any (B b : Nat) (bs : List Value) (c : Int) (w : World) (h : Lib.IsBuilder 54 5 B b bs w) (hlen : bs.length + 1 ≤ 1000000) (hBw : B ≤ w.heap.size) :
    Calls Tryz.prog 182 #[.pointer (some ⟨b, 0, none⟩), .int .u8 c] w fun e w' => e = .returned .nilIface ∧ Lib.BuilderAt 54 5 B b (.pointer (some ⟨b, 0, none⟩)) (bs ++ [.int .u8 c]) w' ∧ Below B w w' := by
  obtain ⟨i0, hi, hz0, hz1, hz2⟩ := inf_of info5
  have HC := hid (check_any B b bs w h)
  clear h
  go_enter Tryz.func182, Tryz.ntmps182
  go_wp2_with (go_at_call 94; refine HC.out.mono ?_)
  rintro e w1 ⟨rfl, h1, hb1⟩
  obtain ⟨hB, v, hbk, hown, hne⟩ := h1
  have c0 : w1.cell? ⟨b, 0, none⟩ = some (.pointer (some ⟨b, 0, none⟩)) := by rw [Lib.cell_of_heap hbk]; rfl
  have c1 : w1.cell? ⟨b, 1, none⟩ = some v := by rw [Lib.cell_of_heap hbk]; rfl
  go_wp2_with (at_builtin; refine wpList_append_own _ rfl _ _ 52 rfl B 5 i0 (.int .u8 0) 1 1 Tryz.underlying52 hi hz0 hz1 hz2 rfl (by decide) _ _ _ rfl (hown.alloc _) ⟨w1.heap.size, 0, none⟩ 1 1 [.int .u8 c] rfl rfl (news_at _ [.int .u8 c] 5 _ rfl) (by intro u hu; simp at hu; subst hu; rfl) (by unfold maxLen; omega) (by omega) (by have := hb1.size; simp; omega) ?_)
  intro v' w2 hown' hgrow _
  have hlt : b < w1.heap.size := by
    rcases Nat.lt_or_ge b w1.heap.size with h' | h'
    · exact h'
    · simp [Array.getElem?_eq_none h'] at hbk
  have hb2 : w2.heap[b]? = some (.cells #[.pointer (some ⟨b, 0, none⟩), v] 54 (0, 0)) := by
    rw [hgrow.block b (by simp; omega) (fun e => hne e.symm), Lib.alloc_old w1 _ b hlt]
    exact hbk
  have d0 : w2.cell? ⟨b, 0, none⟩ = some (.pointer (some ⟨b, 0, none⟩)) := by rw [Lib.cell_of_heap hb2]; rfl
  have d1 : w2.cell? ⟨b, 1, none⟩ = some v := by rw [Lib.cell_of_heap hb2]; rfl
  have f1 : w2.frozen? ⟨b, 1, none⟩ = false := Lib.frozen_of_heap hb2 1
  obtain ⟨g, cap, rfl⟩ : ∃ g cap, v' = .slice (some ⟨g, 0, none⟩) (bs.length + 1) cap := by
    rcases hown'.2 with ⟨_, h0⟩ | ⟨g, cap, cur, hv, _⟩
    · omega
    · exact ⟨g, cap, hv⟩
  go_wp2
  go_ret
  refine ⟨rfl, ?_, ?_⟩
  · exact Lib.BuilderAt.put (T := 54) (e := 5) hB hb2 (bs' := bs ++ [.int .u8 c]) (by simpa using hown') (by decide)
  · exact ((hb1.alloc (by have := hb1.size; omega) _).grown hgrow (by have := hb1.size; simp; omega) (fun k hk => (hown.lt k hk).1)).setCell (p := ⟨b, 1, none⟩) hB _
theorem bld_new (w : World) : Lib.IsBuilder 54 5 w.heap.size w.heap.size (Lib.byteCells []) (w.alloc (.cells #[.pointer none, .slice none 0 0] 54)) := by
  refine .inl ⟨Nat.le_refl _, .slice none 0 0, by exact Array.getElem?_push_size, World.ownsRow_nil _ _ _ _, by simp [Value.ownBlock]⟩
theorem cells_snoc (l : List UInt8) (c : UInt8) : Lib.byteCells l ++ [.int .u8 (c.toNat : Int)] = Lib.byteCells (l ++ [c]) := by simp [Lib.byteCells]
theorem cells_len (l : List UInt8) : (Lib.byteCells l).length = l.length := by simp [Lib.byteCells]
theorem drop_letters (s : ByteArray) (k : Nat) : ∃ T : ByteArray, s.extract k s.size = T ∧ T.data.toList = s.data.toList.drop k ∧ T.size = s.size - k := by
  refine ⟨_, rfl, ?_, by simp⟩
  rw [Lib.extract_data]
  exact List.take_of_length_le (by simp)
set_option maxHeartbeats 4000000 in
theorem quoted_any (s : ByteArray) (w : World) (hw : Std w) (hp : 0 < s.size) (hs : s.size ≤ 100000) :
    Calls Tryz.prog 161 #[.string s] w fun e w' => e = .returned (wv (quoW s.data.toList)) ∧ Q w w' := by
  obtain ⟨R, hR⟩ : ∃ R, quoF (s.data.toList.drop 1) [] 1 = R := ⟨_, rfl⟩
  have hq : quoW s.data.toList = quoP R := by unfold quoW; rw [hR]
  rw [hq]
  have HR := hid hR
  have HW := hid hw
  clear hR hq hw
  go_enter Tryz.func161, Tryz.ntmps161
  go_wp2
  go_loopw [6] (fun x W => ∃ (k : Nat) (acc : List UInt8), k ≤ s.size ∧ x = .int .i64 (k : Int) ∧ 1 ≤ k ∧ acc.length ≤ k ∧ Lib.IsBuilder 54 5 w.heap.size w.heap.size (Lib.byteCells acc) W ∧ Q w W ∧ Hid (quoF (s.data.toList.drop k) acc k = R)) (fun x _ => s.size - (intOf x).toNat)
  case atStart => exact ⟨1, [], by omega, rfl, by omega, by simp, bld_new w, (Q.refl _).alloc _, HR⟩
  case round =>
    obtain ⟨k, acc, hk, rfl, h1, hl, hB, hQ, hr⟩ := hrel
    have HB := hid hB
    have HQ := hid hQ
    clear hB hQ
    by_cases hlt : k < s.size
    · have ed := drop_cons s k hlt
      by_cases hc : s[k] = 34
      · have e34 := eq_byte (n := 34) (by omega) hc
        obtain ⟨T, eT, lT, zT⟩ := drop_letters s (k + 1)
        have hp2 := fun W => Tryz.strings_HasPrefix T ⟨#[34]⟩ W
        have hr2 := hr.out
        rw [ed, hc] at hr2
        rw [lT] at hp2
        have eT' : s.extract ((k : Int) + 1).toNat s.size = T := by rw [show ((k : Int) + 1).toNat = k + 1 by omega]; exact eT
        cases hb : Lib.hasPrefix (s.data.toList.drop (k + 1)) [34]
        · rw [show (⟨#[34]⟩ : ByteArray).data.toList = [34] from rfl, hb] at hp2
          rw [quoF_end hb] at hr2
          have HP := hid hp2
          have HS := hid (Tryz.Builder_String_any w.heap.size w.heap.size acc wr HB.out HQ.out.size)
          have HC := hid (fun W (q : Q w W) => closed_any ⟨acc.toArray⟩ (k + 1) W (HW.out.on q) (by rw [size_mk]; omega))
          have HR2 : Hid (quoP R = quoP (some (acc, k + 1))) := by show _ = _; rw [← hr2]
          have HC2 : Hid (∀ W, Q w W → Calls Tryz.prog 181 #[.string ⟨acc.toArray⟩, .int .i64 ((k : Int) + 1)] W fun e w' => e = .returned (wv (quoP (some (acc, k + 1)))) ∧ Q W w') := HC
          clear hp2 hr2 hb lT ed hr HC
          generalize quoP (some (acc, k + 1)) = q at HR2 HC2
          obtain ⟨a, t, n⟩ := q
          unfold wv at HC2
          simp only at HC2
          have HQ2 : Hid (∀ W, Below w.heap.size wr W → Q w W) := hid (fun W h => Below.trans HQ.out h)
          go_wp2_with (first | (go_at_call 180; refine (HP.out _).mono ?_; rintro e w1 ⟨rfl, h1⟩; replace h1 := h1.symm; subst h1) | (go_at_call 29; refine HS.out.mono ?_; rintro e w2 ⟨rfl, q2⟩; have Q2 := hid (HQ2.out _ q2); clear q2) | (go_at_call 181; refine (HC2.out _ Q2.out).mono ?_; rintro e w3 ⟨rfl, q3⟩; have Q3 := hid q3; clear q3))
          go_ret3
          exact ⟨by rw [HR2.out]; rfl, Q2.out.trans Q3.out⟩
        · rw [show (⟨#[34]⟩ : ByteArray).data.toList = [34] from rfl, hb] at hp2
          obtain ⟨r', er⟩ := two_of hb
          have hz : k + 1 < s.size := by
            have := congrArg List.length er
            simp at this
            omega
          have ed2 := drop_cons s (k + 1) hz
          have hc2 : s[k + 1] = 34 := by rw [er] at ed2; exact (List.cons.inj ed2).1.symm
          rw [ed2, hc2, quoF_two] at hr2
          have HP := hid hp2
          have HR2 := hid hr2
          have e2 := hid (writeByte_any w.heap.size w.heap.size (Lib.byteCells acc) (s[k + 1].toNat : Int) wr HB.out (by rw [cells_len]; omega) HQ.out.size)
          rw [cells_snoc, hc2] at e2
          have hget : ((s[k + 1].toNat : Nat) : Int) = 34 := by rw [hc2]; rfl
          clear hp2 hr2 hb lT ed ed2 hr er
          go_wp2_with (first | (go_at_call 180; refine (HP.out _).mono ?_; rintro e w1 ⟨rfl, h1⟩; replace h1 := h1.symm; subst h1) | (go_at_call 182; refine e2.out.mono ?_; rintro e w2 ⟨rfl, h2, q2⟩; have B2 := hid h2; have Q2 := hid (Below.trans HQ.out q2); clear q2 h2))
          go_roundw
          case rel => exact ⟨k + 2, acc ++ [34], by omega, by go_num, by omega, by simp; omega, .inr B2.out, Q2.out, HR2⟩
          case measure => simp [intOf]; omega
      · have e34 := byte_ne (n := 34) (by omega) hc
        have hr2 := hr.out
        rw [ed, quoF_not hc] at hr2
        have HR2 := hid hr2
        have e2 := hid (writeByte_any w.heap.size w.heap.size (Lib.byteCells acc) (s[k].toNat : Int) wr HB.out (by rw [cells_len]; omega) HQ.out.size)
        rw [cells_snoc] at e2
        clear hr2 ed hr
        go_wp2_with (go_at_call 182; refine e2.out.mono ?_; rintro e w2 ⟨rfl, h2, q2⟩; have B2 := hid h2; have Q2 := hid (Below.trans HQ.out q2); clear q2 h2)
        go_roundw
        case rel => exact ⟨k + 1, acc ++ [s[k]], by omega, by go_num, by omega, by simp; omega, .inr B2.out, Q2.out, HR2⟩
        case measure => simp [intOf]; omega
    · have hr2 := hr.out
      rw [List.drop_of_length_le (by simp; omega)] at hr2
      have HR2 : Hid (quoP R = bad) := by show _ = _; rw [← hr2]; rfl
      clear hr2 hr
      go_wp2_with fail
      go_ret3
      exact ⟨ret_bad HR2.out, HQ.out⟩
theorem ret_tup {t : Nat × List UInt8 × Nat} {a n : Nat} {l : List UInt8} (h : t = (a, l, n)) : Ending.returned (.tuple #[.int .i64 (a : Int), .string ⟨l.toArray⟩, .int .i64 (n : Int)]) = .returned (wv t) := by
  subst h
  rfl
theorem first_any (s : ByteArray) (w : World) (hw : Std w) (hp : 0 < s.size) (hs : s.size ≤ 100000) :
    Calls Tryz.prog 141 #[.string s] w fun e w' => e = .returned (wv (wordF s.data.toList)) ∧ Q w w' := by
  have hh := headD_get s hp
  by_cases h34 : s[0] = 34
  · have e34 := eq_byte (n := 34) (by omega) h34
    have HX := hid (quoted_any s w hw hp hs)
    have HF : Hid (wordF s.data.toList = quoW s.data.toList) := by show _ = _; unfold wordF; rw [hh, if_pos h34]
    clear hh hw
    generalize quoW s.data.toList = q at HF HX
    generalize wordF s.data.toList = f at HF ⊢
    obtain ⟨a, l, n⟩ := q
    unfold wv at HX
    simp only at HX
    go_enter Tryz.func141, Tryz.ntmps141
    go_wp2_with (go_at_call 161; refine HX.out.mono ?_; rintro e w1 ⟨rfl, q1⟩; have Q1 := hid q1; clear q1)
    go_ret3
    exact ⟨ret_tup HF.out, Q1.out⟩
  · have n34 := byte_ne (n := 34) (by omega) h34
    by_cases h35 : s[0] = 35
    · have e35 := eq_byte (n := 35) (by omega) h35
      have HX := hid (failure_any s w hw (by omega))
      have HF : Hid (wordF s.data.toList = errW s.data.toList) := by show _ = _; unfold wordF; rw [hh, if_neg h34, if_pos h35]
      clear hh hw
      generalize errW s.data.toList = q at HF HX
      generalize wordF s.data.toList = f at HF ⊢
      obtain ⟨a, l, n⟩ := q
      unfold wv at HX
      simp only at HX
      go_enter Tryz.func141, Tryz.ntmps141
      go_wp2_with (go_at_call 162; refine HX.out.mono ?_; rintro e w1 ⟨rfl, h1⟩; replace h1 := h1.symm; subst h1)
      go_ret3
      exact ⟨ret_tup HF.out, Q.refl _⟩
    · have n35 := byte_ne (n := 35) (by omega) h35
      have HJ := hid (fun W => joins_any s[0] W)
      cases hj : joinB s[0]
      · rw [hj] at HJ
        have HX := hid (sign_any s w hw (by omega))
        have HF : Hid (wordF s.data.toList = sigW s.data.toList) := by show _ = _; unfold wordF; rw [hh, if_neg h34, if_neg h35, if_neg (by simp [hj])]
        clear hh hw
        generalize sigW s.data.toList = q at HF HX
        generalize wordF s.data.toList = f at HF ⊢
        obtain ⟨a, l, n⟩ := q
        unfold wv at HX
        simp only at HX
        go_enter Tryz.func141, Tryz.ntmps141
        go_wp2_with (first | (go_at_call 163; refine (HJ.out _).mono ?_; rintro e w1 ⟨rfl, h1⟩; replace h1 := h1.symm; subst h1) | (go_at_call 165; refine HX.out.mono ?_; rintro e w1 ⟨rfl, h1⟩; replace h1 := h1.symm; subst h1))
        go_ret3
        exact ⟨ret_tup HF.out, Q.refl _⟩
      · rw [hj] at HJ
        have HX := hid (joined_any s w hw (by omega))
        have HF : Hid (wordF s.data.toList = joinW s.data.toList) := by show _ = _; unfold wordF; rw [hh, if_neg h34, if_neg h35, if_pos hj]
        clear hh hw
        generalize joinW s.data.toList = q at HF HX
        generalize wordF s.data.toList = f at HF ⊢
        obtain ⟨a, l, n⟩ := q
        unfold wv at HX
        simp only at HX
        go_enter Tryz.func141, Tryz.ntmps141
        go_wp2_with (first | (go_at_call 163; refine (HJ.out _).mono ?_; rintro e w1 ⟨rfl, h1⟩; replace h1 := h1.symm; subst h1) | (go_at_call 164; refine HX.out.mono ?_; rintro e w1 ⟨rfl, q1⟩; have Q1 := hid q1; clear q1))
        go_ret3
        exact ⟨ret_tup HF.out, Q1.out⟩
end Go.Proofs.YtgheopdadfnilaaGreatDoor
namespace Go.Proofs.YtgheopdadfnilaaGreatDoor.V
open Go.RowKit
structure Dg (a0 a1 a2 a3 a4 a5 n : Int) : Prop where
  l0 : 0 ≤ a0
  h0 : a0 < 4294967296
  l1 : 0 ≤ a1
  h1 : a1 < 4294967296
  l2 : 0 ≤ a2
  h2 : a2 < 4294967296
  l3 : 0 ≤ a3
  h3 : a3 < 4294967296
  l4 : 0 ≤ a4
  h4 : a4 < 4294967296
  l5 : 0 ≤ a5
  h5 : a5 < 4294967296
  e : n = a0 + a1 * 4294967296 + a2 * 18446744073709551616 + a3 * 79228162514264337593543950336 + a4 * 340282366920938463463374607431768211456 + a5 * 1461501637330902918203684832716283019655932542976
def WR (n : Int) (e : Ending) : Prop := ∃ a0 a1 a2 a3 a4 a5 : Int, e = .returned (.agg #[.int .u64 a0, .int .u64 a1, .int .u64 a2, .int .u64 a3, .int .u64 a4, .int .u64 a5]) ∧ Dg a0 a1 a2 a3 a4 a5 n
set_option maxHeartbeats 400000 in
theorem one_any (n : Int) (w : World) (h0 : 0 ≤ n) (h1 : n < 18446744073709551616) :
    Calls Tryz.prog 85 #[.int .u64 n] w fun e w' => WR n e ∧ Q w w' := by
  go_enter Tryz.func85, Tryz.ntmps85
  go_wp2
  refine bodyPost_ret (v := .agg #[.int .u64 (n % 4294967296), .int .u64 (n / 4294967296), .int .u64 0, .int .u64 0, .int .u64 0, .int .u64 0]) (by simp [results, Tryz.results85, go_sem]) rfl ⟨⟨_, _, _, _, _, _, rfl, ?_⟩, ((Q.refl w).alloc _).alloc _⟩
  exact ⟨by omega, by omega, by omega, by omega, by omega, by omega, by omega, by omega, by omega, by omega, by omega, by omega, by omega⟩
set_option maxHeartbeats 2000000 in
theorem plus_any (a0 a1 a2 a3 a4 a5 a b0 b1 b2 b3 b4 b5 b : Int) (w : World) (ha : Dg a0 a1 a2 a3 a4 a5 a) (hb : Dg b0 b1 b2 b3 b4 b5 b) (hlt : a + b < 6277101735386680763835789423207666416102355444464034512896) :
    Calls Tryz.prog 84 #[.agg #[.int .u64 a0, .int .u64 a1, .int .u64 a2, .int .u64 a3, .int .u64 a4, .int .u64 a5], .agg #[.int .u64 b0, .int .u64 b1, .int .u64 b2, .int .u64 b3, .int .u64 b4, .int .u64 b5]] w fun e w' => WR (a + b) e ∧ Q w w' := by
  obtain ⟨x0, y0, x1, y1, x2, y2, x3, y3, x4, y4, x5, y5, ea⟩ := ha
  obtain ⟨u0, v0, u1, v1, u2, v2, u3, v3, u4, v4, u5, v5, eb⟩ := hb
  obtain ⟨r0, E0⟩ : ∃ r, (a0 + b0) % 4294967296 = r := ⟨_, rfl⟩
  obtain ⟨c0, F0⟩ : ∃ c, (a0 + b0) / 4294967296 = c := ⟨_, rfl⟩
  have rl0 : 0 ≤ r0 := by omega
  have rh0 : r0 < 4294967296 := by omega
  have cl0 : 0 ≤ c0 := by omega
  have ch0 : c0 ≤ 1 := by omega
  obtain ⟨r1, E1⟩ : ∃ r, (a1 + b1 + c0) % 4294967296 = r := ⟨_, rfl⟩
  obtain ⟨c1, F1⟩ : ∃ c, (a1 + b1 + c0) / 4294967296 = c := ⟨_, rfl⟩
  have rl1 : 0 ≤ r1 := by omega
  have rh1 : r1 < 4294967296 := by omega
  have cl1 : 0 ≤ c1 := by omega
  have ch1 : c1 ≤ 1 := by omega
  obtain ⟨r2, E2⟩ : ∃ r, (a2 + b2 + c1) % 4294967296 = r := ⟨_, rfl⟩
  obtain ⟨c2, F2⟩ : ∃ c, (a2 + b2 + c1) / 4294967296 = c := ⟨_, rfl⟩
  have rl2 : 0 ≤ r2 := by omega
  have rh2 : r2 < 4294967296 := by omega
  have cl2 : 0 ≤ c2 := by omega
  have ch2 : c2 ≤ 1 := by omega
  obtain ⟨r3, E3⟩ : ∃ r, (a3 + b3 + c2) % 4294967296 = r := ⟨_, rfl⟩
  obtain ⟨c3, F3⟩ : ∃ c, (a3 + b3 + c2) / 4294967296 = c := ⟨_, rfl⟩
  have rl3 : 0 ≤ r3 := by omega
  have rh3 : r3 < 4294967296 := by omega
  have cl3 : 0 ≤ c3 := by omega
  have ch3 : c3 ≤ 1 := by omega
  obtain ⟨r4, E4⟩ : ∃ r, (a4 + b4 + c3) % 4294967296 = r := ⟨_, rfl⟩
  obtain ⟨c4, F4⟩ : ∃ c, (a4 + b4 + c3) / 4294967296 = c := ⟨_, rfl⟩
  have rl4 : 0 ≤ r4 := by omega
  have rh4 : r4 < 4294967296 := by omega
  have cl4 : 0 ≤ c4 := by omega
  have ch4 : c4 ≤ 1 := by omega
  obtain ⟨r5, E5⟩ : ∃ r, (a5 + b5 + c4) % 4294967296 = r := ⟨_, rfl⟩
  obtain ⟨c5, F5⟩ : ∃ c, (a5 + b5 + c4) / 4294967296 = c := ⟨_, rfl⟩
  have rl5 : 0 ≤ r5 := by omega
  have rh5 : r5 < 4294967296 := by omega
  have cl5 : 0 ≤ c5 := by omega
  have ch5 : c5 ≤ 1 := by omega
  have HD : Hid (Dg r0 r1 r2 r3 r4 r5 (a + b)) := ⟨rl0, rh0, rl1, rh1, rl2, rh2, rl3, rh3, rl4, rh4, rl5, rh5, by omega⟩
  clear ea eb hlt
  go_enter Tryz.func84, Tryz.ntmps84
  go_wp2
  refine wp_loop_rounds 7 ?_
  rw [rounds_succ]
  go_wp2
  go_region
  go_wp2
  rw [rounds_succ]
  go_wp2
  go_region
  go_wp2
  rw [rounds_succ]
  go_wp2
  go_region
  go_wp2
  rw [rounds_succ]
  go_wp2
  go_region
  go_wp2
  rw [rounds_succ]
  go_wp2
  go_region
  go_wp2
  rw [rounds_succ]
  go_wp2
  go_region
  go_wp2
  rw [rounds_succ]
  go_wp2
  exact bodyPost_ret (v := .agg #[.int .u64 r0, .int .u64 r1, .int .u64 r2, .int .u64 r3, .int .u64 r4, .int .u64 r5]) (by simp [results, Tryz.results84, go_sem]) rfl ⟨⟨_, _, _, _, _, _, rfl, HD.out⟩, (by repeat (first | exact Q.refl _ | refine Q.drew ?_ | refine Q.alloc ?_ _))⟩
end Go.Proofs.YtgheopdadfnilaaGreatDoor.V
