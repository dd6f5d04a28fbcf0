/- strconv.FormatUint at base 10 and fixnum.Print, walked, for every number; How long a printed tree is at most; P.first of the reference, walked: references; The program's reader: references. -/
import Derived.Test.YtgheopdadfnilaaGreatDoorKs17
import Derived.Test.YtgheopdadfnilaaGreatDoorKs20
import Derived.Lib.Walk
import Derived.Lib.ItoaMem
import Derived.BigCall
import Derived.BigGuard
import Derived.Test.YtgheopdadfnilaaGreatDoorKs13
import Derived.Test.YtgheopdadfnilaaGreatDoorKs16
namespace Go.Proofs.YtgheopdadfnilaaGreatDoor
open Go.RowKit Go.Sort
set_option linter.unusedVariables false
set_option linter.unusedSimpArgs false
set_option maxHeartbeats 400000 in
theorem size_any (a : Int) (w : World) (h : V.fitB a = true) :
    Calls Tryz.prog 147 #[.int .i64 a] w fun e w' => e = .returned (.int .u64 (a.natAbs : Int)) ∧ w' = w := by
  obtain ⟨h0, h1⟩ := of_decide_eq_true h
  clear h
  by_cases hn : a < 0
  · have H : Hid (-(a + 1) + 1 = (a.natAbs : Int)) := by show -(a + 1) + 1 = (a.natAbs : Int); omega
    go_enter Tryz.func147, Tryz.ntmps147
    go_wp2
    go_ret
    exact ⟨ret_int H.out, rfl⟩
  · have H : Hid (a = (a.natAbs : Int)) := by show a = (a.natAbs : Int); omega
    go_enter Tryz.func147, Tryz.ntmps147
    go_wp2
    go_ret
    exact ⟨ret_int H.out, rfl⟩
theorem holds_zero0 (w : World) (nd : Nat) (hs : nd ≤ 24) : Holds (fun (b : UInt8) => Value.int .u8 (b.toNat : Int)) (w.alloc (.cells Lib.zeros24 179)) w.heap.size 0 (Array.replicate nd (0 : UInt8)) := fun j hj => by
  have hj' : j < nd := by simpa using hj
  refine ⟨?_, World.frozen?_alloc_new _ _ _ _⟩
  rw [World.cell?_alloc_new, Lib.zeros24_at _ (by omega), getElem!_pos _ j hj]
  simp
theorem q_putRow (w : World) (o : Obj) (dk : Array UInt8) (k : Nat) : Q w ((putRow (fun (b : UInt8) => Value.int .u8 (b.toNat : Int)) (w.alloc o) w.heap.size 0 dk).drewN k) := by
  rw [alloc_eq_grow]
  obtain ⟨os', _, e⟩ := putRow_grow_new (fun (b : UInt8) => Value.int .u8 (b.toNat : Int)) w #[o] w.heap.size 0 dk (Nat.le_refl _)
  rw [e]
  refine Q.drewN ?_ k
  refine ⟨rfl, rfl, rfl, by simp [grow], fun i hi => ?_⟩
  show (w.heap ++ os')[i]? = w.heap[i]?
  rw [Array.getElem?_append_left hi]
set_option maxHeartbeats 400000 in
theorem ffmt_small (u : Nat) (w : World) (hu : u < 100) :
    Calls Tryz.prog 168 #[.int .u64 (u : Int), .int .i64 10] w fun e w' => e = .returned (.string ⟨(Lib.decDigits u).toArray⟩) ∧ Q w w' := by
  go_enter Tryz.func168, Tryz.ntmps168
  go_wp2_with (go_at_call 157; refine (Tryz.internal_strconv_small u hu _).mono ?_; rintro e w' ⟨rfl, rfl⟩)
  go_ret
  exact ⟨rfl, Q.refl _⟩
set_option maxHeartbeats 1000000 in
set_option maxRecDepth 100000 in
theorem ffmt_big (u : Nat) (w : World) (hs : Gd w) (hu : 100 ≤ u) (hu64 : u < 18446744073709551616) :
    Calls Tryz.prog 168 #[.int .u64 (u : Int), .int .i64 10] w fun e w' => e = .returned (.string ⟨(Lib.decDigits u).toArray⟩) ∧ Q w w' := by
  have hu1 : 1 ≤ u := by omega
  have hnd20 : Lib.nDigits u ≤ 20 := by have := Lib.numDigits_eq u hu1 hu64; split at this <;> omega
  have hal : Tryz.prog.arrayLen 179 = 24 := by kernel_rfl
  have hsl1 : ∀ W, (Instr.sliceAt 179 (.pointer (some ⟨w.heap.size, 0, none⟩)) none (some (.int .i64 (Lib.nDigits u : Int))) none).run Tryz.prog W = .ok (.slice (some ⟨w.heap.size, 0, none⟩) (Lib.nDigits u) 24) W := fun W => by
    rw [run_sliceAt_array_h W 179 ⟨w.heap.size, 0, none⟩ (by kernel_rfl) .i64 (Lib.nDigits u : Int) (by omega) (by rw [hal]; omega)]
    go_simp
  have hH0 := holds_zero0 w (Lib.nDigits u) (by omega)
  have hfmt := Tryz.internal_strconv_formatBase10 w.heap.size 0 24 u (Array.replicate (Lib.nDigits u) 0) (w.alloc (.cells Lib.zeros24 179)) hH0 (by rw [Array.size_replicate]; exact Lib.lt_pow_nDigits u) hu64 (by rw [Array.size_replicate]; omega)
  rw [Array.size_replicate] at hfmt
  have HH0 := hid hH0
  have HT := hid (hs.2 w (Q.refl w))
  have HF := hid hfmt
  clear hH0 hal hs hfmt
  go_enter Tryz.func168, Tryz.ntmps168
  go_wp2_with (first | (go_at_call 158; refine (Tryz.internal_strconv_numDigits u hu1 hu64 _ (Lib.tabIs_alloc HT.out _)).mono ?_; rintro e w' ⟨rfl, rfl⟩))
  refine HF.out.mono ?_
  rintro e w' ⟨rfl, k, v', dk, rfl, hF⟩
  have hcv : (convert 52 9 (.slice (some ⟨w.heap.size, 0, none⟩) (Lib.nDigits u) 24)).run Tryz.prog ((putRow (fun (b : UInt8) => Value.int .u8 (b.toNat : Int)) (w.alloc (.cells Lib.zeros24 179)) w.heap.size 0 dk).drewN k) = .ok (.string ⟨(Lib.decDigits u).toArray⟩) ((putRow (fun (b : UInt8) => Value.int .u8 (b.toNat : Int)) (w.alloc (.cells Lib.zeros24 179)) w.heap.size 0 dk).drewN k) := by
    have h := run_convert_bytes_back (P := Tryz.prog) ((putRow (fun (b : UInt8) => Value.int .u8 (b.toNat : Int)) (w.alloc (.cells Lib.zeros24 179)) w.heap.size 0 dk).drewN k) 52 9 5 ⟨w.heap.size, 0, none⟩ 24 (Lib.decDigits u) Tryz.underlying52 Tryz.underlying5 Tryz.underlying9 (fun j hj => by
      rw [Lib.row_is_numeral hF j hj, Lib.add_plain, World.cell?_drewN]
      exact cell?_putRow (fun (b : UInt8) => Value.int .u8 (b.toNat : Int)) _ w.heap.size 0 _ dk HH0.out (by rw [hF.size, Array.size_replicate]) j (by rw [hF.size]; rw [Lib.decDigits_length] at hj; exact hj))
    rw [Lib.decDigits_length] at h
    exact h
  go_wp2
  go_ret
  exact ⟨rfl, q_putRow w _ dk k⟩
theorem ffmt_any (u : Nat) (w : World) (hs : Gd w) (hu64 : u < 18446744073709551616) :
    Calls Tryz.prog 168 #[.int .u64 (u : Int), .int .i64 10] w fun e w' => e = .returned (.string ⟨(Lib.decDigits u).toArray⟩) ∧ Q w w' := by
  by_cases h : u < 100
  · exact ffmt_small u w h
  · exact ffmt_big u w hs (by omega) hu64
set_option maxHeartbeats 400000 in
theorem ffmtUint_any (u : Nat) (w : World) (hs : Gd w) (hu64 : u < 18446744073709551616) :
    Calls Tryz.prog 148 #[.int .u64 (u : Int), .int .i64 10] w fun e w' => e = .returned (.string ⟨(Lib.decDigits u).toArray⟩) ∧ Q w w' := by
  go_enter Tryz.func148, Tryz.ntmps148
  go_wp2_with (go_at_call 168; refine (ffmt_any u _ hs hu64).mono ?_; rintro e w' ⟨rfl, hq⟩)
  go_ret
  exact ⟨rfl, hq⟩
theorem trim_le (l : List UInt8) (c : UInt8) : (Lib.trimRightB l c).length ≤ l.length := by
  unfold Lib.trimRightB
  rw [List.length_reverse]
  have := (List.dropWhile_sublist (l := l.reverse) (fun x => x == c)).length_le
  rw [List.length_reverse] at this
  exact this
set_option maxHeartbeats 400000 in
theorem fpart_zero (w : World) :
    Calls Tryz.prog 149 #[.int .u64 0] w fun e w' => e = .returned (.string ⟨(V.partL 0).toArray⟩) ∧ Q w w' := by
  go_enter Tryz.func149, Tryz.ntmps149
  go_wp2
  go_ret
  exact ⟨rfl, Q.refl _⟩
set_option maxHeartbeats 400000 in
theorem fpart_some (r : Nat) (w : World) (hs : Gd w) (h0 : 0 < r) (h1 : r < 10000) :
    Calls Tryz.prog 149 #[.int .u64 (r : Int)] w fun e w' => e = .returned (.string ⟨(V.partL r).toArray⟩) ∧ Q w w' := by
  have hz : ((r : Int) == 0) = false := beq_eq_false_iff_ne.2 (by omega)
  have HP : Hid (V.partL r = 46 :: Lib.trimRightB ((Lib.decDigits (10000 + r)).drop 1) 48) := by show _ = _; unfold V.partL; rw [if_neg (by omega)]
  have hlen : (Lib.decDigits (10000 + r)).length = 5 := by rw [Lib.decDigits_length]; exact Lib.nDigits_unique 4 _ (by omega) (by omega)
  have hc := hid (ffmtUint_any (10000 + r) w hs (by omega))
  rw [show ((10000 + r : Nat) : Int) = 10000 + (r : Int) by omega] at hc
  generalize Lib.decDigits (10000 + r) = ds at *
  obtain ⟨t, ht⟩ : ∃ t, t = ds.drop 1 := ⟨_, rfl⟩
  have htl : t.length = 4 := by rw [ht, List.length_drop, hlen]
  have eX : ByteArray.extract ⟨ds.toArray⟩ 1 5 = ⟨t.toArray⟩ := by
    apply ByteArray.ext
    apply Array.ext'
    rw [Lib.extract_data]
    show (ds.drop 1).take (5 - 1) = t
    rw [← ht, List.take_of_length_le (by omega)]
  have hsz : (⟨t.toArray⟩ : ByteArray).size ≤ 9223372036854775807 := by
    have : (⟨t.toArray⟩ : ByteArray).size = t.length := by simp [ByteArray.size]
    omega
  rw [← ht] at HP
  clear ht
  have htb : (Lib.trimRightB t 48).length ≤ 4 := by have := trim_le t 48; omega
  go_enter Tryz.func149, Tryz.ntmps149
  go_wp2_with (first | (go_at_call 148; refine hc.out.mono ?_; rintro e w1 ⟨rfl, hq1⟩) | (go_at_call 169; refine (Tryz.strings_TrimRight_one ⟨t.toArray⟩ 48 (by decide) _ hsz).mono ?_; rintro e w2 ⟨rfl, rfl⟩))
  go_ret
  exact ⟨ret_str (by rw [HP.out]; exact bytes_cat [46] _), hq1⟩
theorem fpart_any (r : Nat) (w : World) (hs : Gd w) (h1 : r < 10000) :
    Calls Tryz.prog 149 #[.int .u64 (r : Int)] w fun e w' => e = .returned (.string ⟨(V.partL r).toArray⟩) ∧ Q w w' := by
  rcases Nat.eq_zero_or_pos r with rfl | h0
  · exact fpart_zero w
  · exact fpart_some r w hs h0 h1
theorem part_le (r : Nat) (h1 : r < 10000) : (V.partL r).length ≤ 5 := by
  unfold V.partL
  split
  · simp
  · have hlen : (Lib.decDigits (10000 + r)).length = 5 := by rw [Lib.decDigits_length]; exact Lib.nDigits_unique 4 _ (by omega) (by omega)
    have := trim_le ((Lib.decDigits (10000 + r)).drop 1) 48
    rw [List.length_drop, hlen] at this
    rw [List.length_cons]
    omega
set_option maxHeartbeats 400000 in
theorem fprint_any (a : Int) (w : World) (hs : Gd w) (ha : V.fitB a = true) (haU : a.natAbs < 18446744073709551616) :
    Calls Tryz.prog 120 #[.int .i64 a] w fun e w' => e = .returned (.string ⟨(V.printL a).toArray⟩) ∧ Q w w' := by
  obtain ⟨m, hm⟩ : ∃ m, m = a.natAbs := ⟨_, rfl⟩
  have hsz := hid (size_any a w ha)
  rw [← hm] at hsz haU
  have hf := hid (fun w1 hs1 => ffmtUint_any (m / 10000) w1 hs1 (by omega))
  have hp := hid (fun w1 hs1 => fpart_any (m % 10000) w1 hs1 (by omega))
  have hL : Hid (V.magL m = Lib.decDigits (m / 10000) ++ V.partL (m % 10000)) := rfl
  have l1 : (Lib.decDigits (m / 10000)).length ≤ 20 := by rw [Lib.decDigits_length]; exact nDigits_le _ (by omega)
  have l2 := part_le (m % 10000) (by omega)
  have hP : Hid (V.printL a = if a < 0 then 45 :: V.magL m else V.magL m) := by show _ = _; unfold V.printL; rw [hm]
  clear hm
  rw [show ((m / 10000 : Nat) : Int) = (m : Int) / 10000 by omega] at hf
  rw [show ((m % 10000 : Nat) : Int) = (m : Int) % 10000 by omega] at hp
  generalize Lib.decDigits (m / 10000) = dl at *
  generalize V.partL (m % 10000) = pl at *
  by_cases hn : a < 0
  · go_enter Tryz.func120, Tryz.ntmps120
    go_wp2_with (first | (go_at_call 147; refine hsz.out.mono ?_; rintro e w1 ⟨rfl, rfl⟩) | (go_at_call 148; refine (hf.out _ hs).mono ?_; rintro e w2 ⟨rfl, hq2⟩) | (go_at_call 149; refine (hp.out _ (hs.on hq2)).mono ?_; rintro e w3 ⟨rfl, hq3⟩))
    go_ret
    exact ⟨ret_str (by rw [hP.out, if_pos hn, hL.out, bytes_cat]; exact bytes_cat [45] _), hq2.trans hq3⟩
  · go_enter Tryz.func120, Tryz.ntmps120
    go_wp2_with (first | (go_at_call 147; refine hsz.out.mono ?_; rintro e w1 ⟨rfl, rfl⟩) | (go_at_call 148; refine (hf.out _ hs).mono ?_; rintro e w2 ⟨rfl, hq2⟩) | (go_at_call 149; refine (hp.out _ (hs.on hq2)).mono ?_; rintro e w3 ⟨rfl, hq3⟩))
    go_ret
    exact ⟨ret_str (by rw [hP.out, if_neg (by omega), hL.out, bytes_cat]), hq2.trans hq3⟩
end Go.Proofs.YtgheopdadfnilaaGreatDoor
namespace Go.Proofs.YtgheopdadfnilaaGreatDoor
open Go.RowKit
set_option linter.unusedVariables false
set_option linter.unusedSimpArgs false
theorem num_len {l : List UInt8} {m : Nat} (h : numF l m = true) (hm : m < 1000000000000000) : l.length ≤ 15 := by
  rcases Nat.lt_or_ge 15 l.length with h' | h'
  · rw [numF_long l m h' hm] at h
    cases h
  · exact h'
theorem id_len {l : List UInt8} (h : idB l = true) : l.length ≤ 32 := by
  unfold idB at h
  have h' := of_decide_eq_true h
  unfold ownK at h'
  split at h'
  · rename_i hp
    have e1 : l = 99 :: Lib.trimPrefix l [99] := by
      match l, hp with
      | [], hp => unfold Lib.hasPrefix at hp; simp at hp
      | c :: l, hp =>
        have hc : c = 99 := by
          have h2 := hp
          unfold Lib.hasPrefix at h2
          simp at h2
          exact h2.symm
        unfold Lib.trimPrefix
        rw [if_pos hp, hc]
        rfl
    generalize Lib.trimPrefix l [99] = t at *
    rcases cut_any 110 t with ⟨a, b, rfl, hn⟩ | hn
    · rw [cut_at 110 a b hn] at h'
      unfold ownP at h'
      cases ha : numF a 15 with
      | false => rw [ha] at h'; simp at h'
      | true =>
        cases hb : numF b 999999 with
        | false => rw [ha, hb] at h'; simp at h'
        | true =>
          have la := num_len ha (by omega)
          have lb := num_len hb (by omega)
          rw [e1]
          simp only [List.length_cons, List.length_append]
          omega
    · rw [cut_free 110 t hn] at h'
      unfold ownP at h'
      simp at h'
  · omega
theorem sheet_len {sh : List UInt8} {row col : Int} (h : mayR sh row col = true) : sh.length ≤ 32 := by
  unfold mayR at h
  simp only [Bool.and_eq_true] at h
  rcases Bool.or_eq_true_iff.1 h.1 with h' | h'
  · cases sh with
    | nil => simp
    | cons c l => cases h'
  · exact id_len h'
theorem prf_len {r : Rf} (h : mayR r.1 r.2.1 r.2.2.1 = true) : (prf r).length ≤ 64 := by
  have hs := sheet_len h
  obtain ⟨sh, row, col, ra, ca⟩ := r
  simp only [prf] at h hs ⊢
  have h' := h
  unfold mayR at h'
  simp only [Bool.and_eq_true, decide_eq_true_eq] at h'
  obtain ⟨-, ⟨r0, r1⟩, -⟩ := h'
  unfold prR prL
  rw [h]
  simp only [if_true, List.length_append]
  have h1 := shX_len sh
  have h2 := sg_len ca
  have h3 := sg_len ra
  have h4 := cn_len col
  have h5 := dec_len (row + 1).toNat (by omega)
  omega
theorem print_len (a : Int) (ha : V.fitB a = true) : (V.printL a).length ≤ 30 := by
  obtain ⟨h0, h1⟩ := of_decide_eq_true ha
  have hm : (V.magL a.natAbs).length ≤ 29 := by
    unfold V.magL
    rw [List.length_append, Lib.decDigits_length]
    have l1 := nDigits_le (a.natAbs / 10000) (by omega)
    have l2 := part_le (a.natAbs % 10000) (by omega)
    omega
  unfold V.printL
  split
  · rw [List.length_cons]; omega
  · omega
theorem brk_le (br : Bool) (T : List UInt8) : (brk br T).length ≤ T.length + 2 := by
  cases br
  · exact Nat.le_add_right _ _
  · unfold brk; simp
theorem lvl_len {o : List UInt8} (h : 1 ≤ lvl o) : o.length ≤ 2 := by
  rcases lvl_cases h with rfl | rfl | rfl | rfl | rfl | rfl | rfl | rfl | rfl | rfl | rfl <;> decide
theorem joinT_len : ∀ (ks : List Ex), (∀ y ∈ ks, (fmE y).length + 3 ≤ 410 * nodes y) → (joinT (ks.map fmE)).length ≤ 410 * nodes.nodesL ks
  | [], _ => by simp [joinT]
  | [x], h => by
    have := h x (by simp)
    simp only [List.map_cons, List.map_nil, joinT]
    rw [nodes.nodesL, nodes.nodesL]
    omega
  | x :: y :: ks, h => by
    have h1 := h x (by simp)
    have h2 := joinT_len (y :: ks) (fun z hz => h z (List.mem_cons_of_mem _ hz))
    simp only [List.map_cons, joinT, List.length_append, List.length_cons] at h2 ⊢
    rw [nodes.nodesL]
    omega
theorem fm_len : ∀ (m : Nat) (x : Ex), nodes x ≤ m → mall mayN x = true → Rn x → (fmE x).length + 3 ≤ 410 * nodes x := by
  intro m
  induction m with
  | zero =>
    intro x h
    obtain ⟨k, n, t, b, e, rs, ks⟩ := x
    rw [nodes] at h
    omega
  | succ m ih =>
    intro x hm hx hr
    obtain ⟨hn, hk⟩ : mayN x = true ∧ ∀ y ∈ x.ks, mall mayN y = true := by
      obtain ⟨k, n, t, b, e, rs, ks⟩ := x
      exact mall_kids hx
    have hkr : ∀ y ∈ x.ks, Rn y := by
      obtain ⟨k, n, t, b, e, rs, ks⟩ := x
      rw [Rn] at hr
      exact rn_kid hr.2
    have hkm : ∀ y ∈ x.ks, nodes y ≤ m := by
      obtain ⟨k, n, t, b, e, rs, ks⟩ := x
      rw [nodes] at hm
      intro y hy
      have := nodes_lt (show y ∈ ks from hy)
      omega
    have IH : ∀ y ∈ x.ks, (fmE y).length + 3 ≤ 410 * nodes y := fun y hy => ih y (hkm y hy) (hk y hy) (hkr y hy)
    rcases may_cases x hn with ⟨n, rfl, h0⟩ | ⟨t, rfl, h0⟩ | ⟨b, rfl⟩ | ⟨e, rfl, h0, h1⟩ | ⟨r, rfl, h0⟩ | ⟨r, q, rfl, h0, h1, h2⟩ | ⟨y, rfl⟩ | ⟨o, y, z, rfl, h0⟩ | ⟨t, ks, rfl, h0, h1⟩
    · have hn' : n ≤ 9223372036854775807 := by unfold numE at hr; rw [Rn] at hr; exact hr.1
      have := print_len n (decide_eq_true ⟨by omega, hn'⟩)
      rw [fm_num, numE, nodes_leaf]
      omega
    · unfold V.mtB at h0
      simp only [Bool.and_eq_true, decide_eq_true_eq] at h0
      have := dbl_len t
      rw [fm_text, textE, nodes_leaf]
      simp only [List.length_cons, List.length_append, List.length_nil]
      omega
    · rw [fm_bool, boolE, nodes_leaf]
      cases b <;> decide
    · rw [fm_err, errE, nodes_leaf]
      rcases en_cases h0 with h | h | h | h | h | h | h <;> rw [h] <;> decide
    · have := prf_len h0
      rw [fm_ref, refE, nodes_leaf]
      omega
    · have h3 := prf_len h0
      have h4 := prf_len h1
      rw [fm_range, rangeE, nodes_leaf]
      simp only [List.length_append, List.length_cons]
      omega
    · have h1 := IH y (by simp [negE])
      have h2 := brk_le (decide (y.k = 8)) (fmE y)
      rw [fm_neg, nodes_neg, List.length_cons]
      omega
    · have h1 := IH y (by simp [binE])
      have h2 := IH z (by simp [binE])
      have h3 := brk_le (decide (sgE y.k y.t < sgE 8 o)) (fmE y)
      have h4 := brk_le (decide (sgE z.k z.t ≤ sgE 8 o)) (fmE z)
      have h5 := lvl_len h0
      rw [fm_bin, nodes_bin, List.length_append, List.length_append]
      omega
    · have h2 := joinT_len ks (fun y hy => IH y hy)
      have h3 : t.length ≤ 20 := by
        unfold namF at h0
        simp only [Bool.and_eq_true, decide_eq_true_eq] at h0
        exact h0.2.1
      rw [fm_call, nodes_call]
      simp only [List.length_append, List.length_cons, List.length_nil]
      omega
end Go.Proofs.YtgheopdadfnilaaGreatDoor
namespace Go.Proofs.YtgheopdadfnilaaGreatDoor
open Go.RowKit
set_option linter.unusedVariables false
set_option linter.unusedSimpArgs false
/-- the five cells of a reference -/
structure R5 (W : World) (q o : Nat) (S : ByteArray) (row col : Int) (ra ca : Bool) : Prop where
  g0 : W.cell? ⟨q, o, none⟩ = some (.string S)
  g1 : W.cell? ⟨q, o + 1, none⟩ = some (.int .i64 row)
  g2 : W.cell? ⟨q, o + 2, none⟩ = some (.int .i64 col)
  g3 : W.cell? ⟨q, o + 3, none⟩ = some (.bool ra)
  g4 : W.cell? ⟨q, o + 4, none⟩ = some (.bool ca)
theorem R5.on {p : Nat} {W W' : World} {q o : Nat} {S : ByteArray} {row col : Int} {ra ca : Bool} (h : R5 W q o S row col ra ca) (x : Qx p W W') (hq : q ≠ p) : R5 W' q o S row col ra ca := by
  have hl : q < W.heap.size := World.block_lt_of_cell? W ⟨q, o, none⟩ h.g0
  exact ⟨(x.cell hl hq).trans h.g0, (x.cell hl hq).trans h.g1, (x.cell hl hq).trans h.g2, (x.cell hl hq).trans h.g3, (x.cell hl hq).trans h.g4⟩
theorem r5_new (W : World) (S : ByteArray) (row col : Int) (ra ca : Bool) (t : TypeId) : R5 (W.alloc (.cells #[.string S, .int .i64 row, .int .i64 col, .bool ra, .bool ca] t)) W.heap.size 0 S row col ra ca := by
  refine ⟨?_, ?_, ?_, ?_, ?_⟩
  all_goals simp [World.cell?_alloc_new]
theorem r5_two (W : World) (S : ByteArray) (row col : Int) (ra ca : Bool) (S' : ByteArray) (row' col' : Int) (ra' ca' : Bool) (t : TypeId) : R5 (W.alloc (.cells #[.string S, .int .i64 row, .int .i64 col, .bool ra, .bool ca, .string S', .int .i64 row', .int .i64 col', .bool ra', .bool ca'] t)) W.heap.size 0 S row col ra ca ∧ R5 (W.alloc (.cells #[.string S, .int .i64 row, .int .i64 col, .bool ra, .bool ca, .string S', .int .i64 row', .int .i64 col', .bool ra', .bool ca'] t)) W.heap.size 5 S' row' col' ra' ca' := by
  refine ⟨⟨?_, ?_, ?_, ?_, ?_⟩, ?_, ?_, ?_, ?_, ?_⟩
  all_goals simp [World.cell?_alloc_new]
theorem R5.ats {W : World} {q o : Nat} {S : ByteArray} {row col : Int} {ra ca : Bool} (h : R5 W q o S row col ra ca) : Ats rf W q o (S.data.toList, row, col, ra, ca) := by
  intro j u hu
  unfold rf at hu
  rcases j with _ | _ | _ | _ | _ | j
  · simp at hu; subst hu; exact h.g0
  · simp at hu; subst hu; exact h.g1
  · simp at hu; subst hu; exact h.g2
  · simp at hu; subst hu; exact h.g3
  · simp at hu; subst hu; exact h.g4
  · simp at hu
theorem rdg_ref {g : Nat → Prop} {W : World} {q : Nat} {S : ByteArray} {row col : Int} {ra ca : Bool} (hq : g q) (h : R5 W q 0 S row col ra ca) : Rdg g W (refE (S.data.toList, row, col, ra, ca)) (.agg #[.int .i64 5, .int .i64 0, .string ⟨#[]⟩, .bool false, .int .i64 0, .slice (some ⟨q, 0, none⟩) 1 1, .slice none 0 0]) := by
  unfold refE Rdg
  refine ⟨_, _, rfl, ⟨some ⟨q, 0, none⟩, 1, rfl, by simp, by unfold maxLen; omega, fun _ => ⟨q, 0, rfl, hq, fun i hi => ?_⟩⟩, none, 0, rfl, Nat.le_refl _, Nat.zero_le _, fun h => absurd rfl h⟩
  have : i = 0 := by simpa using hi
  subst this
  exact h.ats
theorem rdg_range {g : Nat → Prop} {W : World} {q : Nat} {S : ByteArray} {row col : Int} {ra ca : Bool} {S' : ByteArray} {row' col' : Int} {ra' ca' : Bool} (hq : g q) (h : R5 W q 0 S row col ra ca) (h' : R5 W q 5 S' row' col' ra' ca') : Rdg g W (rangeE (S.data.toList, row, col, ra, ca) (S'.data.toList, row', col', ra', ca')) (.agg #[.int .i64 6, .int .i64 0, .string ⟨#[]⟩, .bool false, .int .i64 0, .slice (some ⟨q, 0, none⟩) 2 2, .slice none 0 0]) := by
  unfold rangeE Rdg
  refine ⟨_, _, rfl, ⟨some ⟨q, 0, none⟩, 2, rfl, by simp, by unfold maxLen; omega, fun _ => ⟨q, 0, rfl, hq, fun i hi => ?_⟩⟩, none, 0, rfl, Nat.le_refl _, Nat.zero_le _, fun h => absurd rfl h⟩
  have : i = 0 ∨ i = 1 := by simp at hi; omega
  rcases this with rfl | rfl
  · exact h.ats
  · exact h'.ats
/-- what a text is read as, in parts -/
theorem ref_parts (l : List UInt8) : ∃ (S : ByteArray) (row col : Int) (ra ca : Bool), refT l = (S.data.toList, row, col, ra, ca) ∧ refA (refT l) = .agg #[.string S, .int .i64 row, .int .i64 col, .bool ra, .bool ca] := by
  obtain ⟨a, b, c, d, e⟩ := refT l
  exact ⟨⟨a.toArray⟩, b, c, d, e, rfl, rfl⟩
end Go.Proofs.YtgheopdadfnilaaGreatDoor
namespace Go.Proofs.YtgheopdadfnilaaGreatDoor
open Go.RowKit
set_option linter.unusedVariables false
set_option linter.unusedSimpArgs false
set_option maxRecDepth 100000 in
set_option maxHeartbeats 8000000 in
theorem pref_one (L : List Wd) (p b off cap i : Nat) (W : World) (T : ByteArray) (t : List UInt8) (hT : T.data.toList = t) (h : PT W p L b off cap i) (hi : i < L.length) (hr : L.length ≤ 50000) (hs : Std W) (h5 : 6 ≤ p) (hz : t.length ≤ 1000) (hok : refF t = true) (hw : isW L i [58] = false) :
    Calls Tryz.prog 186 #[.pointer (some ⟨p, 0, none⟩), .string T] W fun e W' => RepP p L b off cap W (some (refE (refT t), i)) e W' := by
  have hlt := h.lt
  have hbW := h.blk i hi
  have HP := hid h
  have HZ := hid (tb_new W (.int .i64 0) (.int .i64 0) (.string ⟨#[]⟩) (.bool false) (.int .i64 0) (.slice none 0 0) (.slice none 0 0) 26)
  obtain ⟨S, row, col, ra, ca, hS, hA⟩ := ref_parts T.data.toList
  have HRf := hid (fun W1 (g : Std W1) => parse_any T W1 g (by rw [← hT] at hz; simp at hz; omega))
  rw [hA, hT, hok] at HRf
  have HS := hid hS
  have HTT := hid hT
  have HSt := hid hs
  clear hA hS hs hok
  have hc := hid (fun W1 (g : PT W1 p L b off cap i) => ptake_any W1 p L b off cap i ⟨#[58]⟩ g hi hr (by simp))
  rw [show (⟨#[58]⟩ : ByteArray).data.toList = [58] from rfl, hw] at hc
  clear h hT hz
  go_enter Tryz.func186, Tryz.ntmps186
  go_wp2_with (first | (go_at_call 196; refine (HRf.out _ (HSt.out.on (by repeat (first | with_reducible exact Q.refl _ | with_reducible refine Q.drewN ?_ _ | with_reducible refine Q.drew ?_ | with_reducible refine Q.alloc ?_ _ | with_reducible refine Q.setCell ?_ (by simp) _)))).mono ?_; rintro e w1 ⟨rfl, q1⟩; have Q1 : Hid (Q W w1) := hid (Q.trans (by repeat (first | with_reducible exact Q.refl _ | with_reducible refine Q.drewN ?_ _ | with_reducible refine Q.drew ?_ | with_reducible refine Q.alloc ?_ _ | with_reducible refine Q.setCell ?_ (by simp) _)) q1); have hs1 : W.heap.size < w1.heap.size := (by have := q1.size; simp at this; omega); have P1 := hid ((HP.out.on Q1.out).on ((Q.refl _).alloc (.cells #[.string S, .int .i64 row, .int .i64 col, .bool ra, .bool ca] 63))); have Z1 := hid (HZ.out.on (Qx.of (p := p) q1) (by omega)); clear q1) | (go_at_call 166; refine (hc.out _ P1.out).mono ?_; rintro e w2 ⟨rfl, q2, p2⟩; have Q2 := hid q2; have P2 := hid p2; have A2 := hid ((r5_new w1 S row col ra ca 63).on q2 (by omega)); have hs2 : w1.heap.size + 1 ≤ w2.heap.size := (by simpa using q2.size); have Z2 := hid ((Z1.out.on ((Qx.refl p _).alloc _) (by omega)).on q2 (by omega)); clear q2 p2; have Z3 := hid (Z2.out.on ((Qx.refl p _).alloc (.cells #[.string S, .int .i64 row, .int .i64 col, .bool ra, .bool ca] 63)) (by omega)); have d0 := Z3.out.g0; have d1 := Z3.out.g1; have d2 := Z3.out.g2; have d3 := Z3.out.g3; have d4 := Z3.out.g4; have d5 := Z3.out.g5; have d6 := Z3.out.g6; have y0 := Z3.out.f 0; have y1 := Z3.out.f 1; have y2 := Z3.out.f 2; have y3 := Z3.out.f 3; have y4 := Z3.out.f 4; have y5 := Z3.out.f 5; have y6 := Z3.out.f 6; have m0 := A2.out.g0; have m1 := A2.out.g1; have m2 := A2.out.g2; have m3 := A2.out.g3; have m4 := A2.out.g4; simp only [Nat.zero_add] at m1 m2 m3 m4))
  refine bodyPost_ret (v := .tuple #[.agg #[.int .i64 5, .int .i64 0, .string ⟨#[]⟩, .bool false, .int .i64 0, .slice (some ⟨w2.heap.size, 0, none⟩) 1 1, .slice none 0 0], .bool true]) (by simp [results, Tryz.results186, go_sem, d0, d1, d2, d3, d4, d5, d6]) rfl ?_
  have eT : refT t = (S.data.toList, row, col, ra, ca) := by rw [← HTT.out]; exact HS.out
  rw [eT]
  refine finP (some (refE (S.data.toList, row, col, ra, ca), i)) 5 0 ⟨#[]⟩ false 0 (some ⟨w2.heap.size, 0, none⟩) 1 1 none 0 0 hlt hbW ((((Qx.of Q1.out).alloc _).trans Q2.out).alloc _) (fun x j e => ?_)
  cases e
  exact ⟨rdg_ref (show _ ≤ _ by omega) (r5_new w2 S row col ra ca 63), P2.out.on ((Q.refl _).alloc _)⟩
set_option maxRecDepth 100000 in
set_option maxHeartbeats 8000000 in
theorem pref_kind (L : List Wd) (p b off cap i : Nat) (W : World) (T : ByteArray) (t : List UInt8) (hT : T.data.toList = t) (h : PT W p L b off cap i) (hi : i < L.length) (hr : L.length ≤ 50000) (hs : Std W) (h5 : 6 ≤ p) (hz : t.length ≤ 1000) (hok : refF t = true) (hE : Ends L) (hw : isW L i [58] = true) (h3 : kAt L (i + 1) ≠ 3) :
    Calls Tryz.prog 186 #[.pointer (some ⟨p, 0, none⟩), .string T] W fun e W' => RepP p L b off cap W none e W' := by
  have hlt := h.lt
  have hbW := h.blk i hi
  have HP := hid h
  have HZ := hid (tb_new W (.int .i64 0) (.int .i64 0) (.string ⟨#[]⟩) (.bool false) (.int .i64 0) (.slice none 0 0) (.slice none 0 0) 26)
  obtain ⟨S, row, col, ra, ca, hS, hA⟩ := ref_parts T.data.toList
  have HRf := hid (fun W1 (g : Std W1) => parse_any T W1 g (by rw [← hT] at hz; simp at hz; omega))
  rw [hA, hT, hok] at HRf
  have HS := hid hS
  have HTT := hid hT
  have HSt := hid hs
  clear hA hS hs hok
  have hc := hid (fun W1 (g : PT W1 p L b off cap i) => ptake_any W1 p L b off cap i ⟨#[58]⟩ g hi hr (by simp))
  rw [show (⟨#[58]⟩ : ByteArray).data.toList = [58] from rfl, hw] at hc
  obtain ⟨j, hj⟩ : ∃ j, j = i + 1 := ⟨_, rfl⟩
  have hij : j < L.length := by rw [hj]; exact hE.sign hw
  obtain ⟨T2, hT2, lT2⟩ : ∃ T2 : ByteArray, T2 = ⟨(tAt L j).toArray⟩ ∧ T2.data.toList = tAt L j := ⟨_, rfl, rfl⟩
  have HWd := hid (fun W1 (g : PT W1 p L b off cap j) => word_any W1 p L.length b off cap j _ _ _ (g.kw hij) hij hr)
  rw [← hT2] at HWd
  generalize ((L.getD j ⟨7, [], 0⟩).p : Int) = q at HWd
  have F0 : ∀ (k : Int) (w : World), (Instr.field 141 (.agg #[.int .i64 k, .string T2, .int .i64 q]) 0).run Tryz.prog w = .ok (.int .i64 k) w := fun k w => fd0 _ _ _ w
  have F1 : ∀ (k : Int) (w : World), (Instr.field 141 (.agg #[.int .i64 k, .string T2, .int .i64 q]) 1).run Tryz.prog w = .ok (.string T2) w := fun k w => fd1 _ _ _ w
  have HJ := hid hj
  have HT2 := hid lT2
  rw [← hj] at h3
  have k3 : ((kAt L j : Int) == 3) = false := by rw [beq_eq_false_iff_ne]; omega
  have k3b : ¬ (kAt L j : Int) = 3 := by omega
  generalize (kAt L j : Int) = kk at HWd k3 k3b
  clear hj hT2 lT2 h3
  clear h hT hz
  go_enter Tryz.func186, Tryz.ntmps186
  go_wp2_with (first | (go_at_call 109; refine (HWd.out _ P2.out).mono ?_; rintro e w3 ⟨rfl, q3⟩; have Q3 := hid q3; have P3 := hid (P2.out.on q3); have Z3 := hid (Z2.out.on (Qx.of (p := p) q3) (by omega)); have hs3 : w2.heap.size ≤ w3.heap.size := q3.size; clear q3; have d0 := Z3.out.g0; have d1 := Z3.out.g1; have d2 := Z3.out.g2; have d3 := Z3.out.g3; have d4 := Z3.out.g4; have d5 := Z3.out.g5; have d6 := Z3.out.g6; have y0 := Z3.out.f 0; have y1 := Z3.out.f 1; have y2 := Z3.out.f 2; have y3 := Z3.out.f 3; have y4 := Z3.out.f 4; have y5 := Z3.out.f 5; have y6 := Z3.out.f 6) | (go_at_call 196; refine (HRf.out _ (HSt.out.on (by repeat (first | with_reducible exact Q.refl _ | with_reducible refine Q.drewN ?_ _ | with_reducible refine Q.drew ?_ | with_reducible refine Q.alloc ?_ _ | with_reducible refine Q.setCell ?_ (by simp) _)))).mono ?_; rintro e w1 ⟨rfl, q1⟩; have Q1 : Hid (Q W w1) := hid (Q.trans (by repeat (first | with_reducible exact Q.refl _ | with_reducible refine Q.drewN ?_ _ | with_reducible refine Q.drew ?_ | with_reducible refine Q.alloc ?_ _ | with_reducible refine Q.setCell ?_ (by simp) _)) q1); have hs1 : W.heap.size < w1.heap.size := (by have := q1.size; simp at this; omega); have P1 := hid ((HP.out.on Q1.out).on ((Q.refl _).alloc (.cells #[.string S, .int .i64 row, .int .i64 col, .bool ra, .bool ca] 63))); have Z1 := hid (HZ.out.on (Qx.of (p := p) q1) (by omega)); clear q1) | (go_at_call 166; refine (hc.out _ P1.out).mono ?_; rintro e w2 ⟨rfl, q2, p2⟩; have Q2 := hid q2; have P2 : Hid (PT w2 p L b off cap j) := hid (by rw [HJ.out]; exact p2); have A2 := hid ((r5_new w1 S row col ra ca 63).on q2 (by omega)); have hs2 : w1.heap.size + 1 ≤ w2.heap.size := (by simpa using q2.size); have Z2 := hid ((Z1.out.on ((Qx.refl p _).alloc _) (by omega)).on q2 (by omega)); clear q2 p2; have m0 := A2.out.g0; have m1 := A2.out.g1; have m2 := A2.out.g2; have m3 := A2.out.g3; have m4 := A2.out.g4; simp only [Nat.zero_add] at m1 m2 m3 m4))
  refine bodyPost_ret (v := .tuple #[.agg #[.int .i64 0, .int .i64 0, .string ⟨#[]⟩, .bool false, .int .i64 0, .slice none 0 0, .slice none 0 0], .bool false]) (by simp [results, Tryz.results186, go_sem, d0, d1, d2, d3, d4, d5, d6]) rfl ?_
  exact finP none 0 0 ⟨#[]⟩ false 0 none 0 0 none 0 0 hlt hbW ((((Qx.of Q1.out).alloc _).trans Q2.out).trans (Qx.of Q3.out)) (fun x j e => by cases e)
end Go.Proofs.YtgheopdadfnilaaGreatDoor
