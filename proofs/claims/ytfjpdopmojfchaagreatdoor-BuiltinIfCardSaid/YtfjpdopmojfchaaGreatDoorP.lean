/- strconv.FormatUint at base 10 (the library's own text): the decimal numeral, for every uint64. -/
import Derived.Test.YtfjpdopmojfchaaGreatDoorQ
import Derived.Test.YtfjpdopmojfchaaGreatDoorShelf
import Derived.Lib.Walk
import Derived.Lib.ItoaMem
import Derived.BigCall
import Derived.BigGuard
namespace Go.Proofs.YtfjpdopmojfchaaGreatDoor
open Go.RowKit Go.Sort
/-- What of the world the library's functions ask: the table of powers of ten, and a variable of package bytealg that holds some int. -/
structure Std (w : World) : Prop where
  tab : Lib.TabIs Tryz.prog w "internal/strconv.uint64pow10" .u64 Lib.pow10Tab
  len : ∃ m : Int, w.cell? ⟨6, 0, none⟩ = some (.int .i64 m)
  big : 6 < w.heap.size
theorem glob_tab : Tryz.prog.globalNamed "internal/strconv.uint64pow10" = some 5 := by kernel_rfl
theorem Std.on {w w' : World} (h : Std w) (q : Q w w') : Std w' := by
  refine ⟨?_, ?_, q.lt h.big⟩
  · have h1 := h.tab
    unfold Lib.TabIs World.var? at *
    rw [glob_tab] at *
    simp only [Option.bind_some] at h1 ⊢
    have hlt : 5 < w.heap.size := by
      rcases Nat.lt_or_ge 5 w.heap.size with h' | h'
      · exact h'
      · rw [Array.getElem?_eq_none h'] at h1; simp at h1
    rw [Below.block q 5 hlt]
    exact h1
  · obtain ⟨m, hm⟩ := h.len
    exact ⟨m, by rw [q.cell h.big]; exact hm⟩
theorem holds_zero0 (w : World) (nd : Nat) (hs : nd ≤ 24) : Holds (fun (b : UInt8) => Value.int .u8 (b.toNat : Int)) (w.alloc (.cells Lib.zeros24 165)) w.heap.size 0 (Array.replicate nd (0 : UInt8)) := fun j hj => by
  have hj' : j < nd := by simpa using hj
  refine ⟨?_, World.frozen?_alloc_new _ _ _ _⟩
  rw [World.cell?_alloc_new, Lib.zeros24_at _ (by omega), getElem!_pos _ j hj]
  simp
theorem q_putRow (w : World) (o : Obj) (dk : Array UInt8) (k : Nat) : Q w ((putRow (fun (b : UInt8) => Value.int .u8 (b.toNat : Int)) (w.alloc o) w.heap.size 0 dk).drewN k) := by
  rw [alloc_eq_grow]
  obtain ⟨os', _, e⟩ := putRow_grow_new (fun (b : UInt8) => Value.int .u8 (b.toNat : Int)) w #[o] w.heap.size 0 dk (Nat.le_refl _)
  rw [e]
  refine Q.drewN ?_ k
  refine ⟨rfl, rfl, rfl, by simp [grow], fun i hi => ?_⟩
  show (w.heap ++ os')[i]? = w.heap[i]?
  rw [Array.getElem?_append_left hi]
set_option maxHeartbeats 400000 in
theorem fmt_small (u : Nat) (w : World) (hu : u < 100) :
    Calls Tryz.prog 144 #[.int .u64 (u : Int), .int .i64 10] w fun e w' => e = .returned (.string ⟨(Lib.decDigits u).toArray⟩) ∧ Q w w' := by
  go_enter Tryz.func144, Tryz.ntmps144
  go_wp2_with (go_at_call 157; refine (Tryz.internal_strconv_small u hu _).mono ?_; rintro e w' ⟨rfl, rfl⟩)
  go_ret
  exact ⟨rfl, Q.refl _⟩
set_option maxHeartbeats 1000000 in
set_option maxRecDepth 100000 in
theorem fmt_big (u : Nat) (w : World) (hs : Std w) (hu : 100 ≤ u) (hu64 : u < 18446744073709551616) :
    Calls Tryz.prog 144 #[.int .u64 (u : Int), .int .i64 10] w fun e w' => e = .returned (.string ⟨(Lib.decDigits u).toArray⟩) ∧ Q w w' := by
  have hu1 : 1 ≤ u := by omega
  have hnd20 : Lib.nDigits u ≤ 20 := by have := Lib.numDigits_eq u hu1 hu64; split at this <;> omega
  have hal : Tryz.prog.arrayLen 165 = 24 := by kernel_rfl
  have hsl1 : ∀ W, (Instr.sliceAt 165 (.pointer (some ⟨w.heap.size, 0, none⟩)) none (some (.int .i64 (Lib.nDigits u : Int))) none).run Tryz.prog W = .ok (.slice (some ⟨w.heap.size, 0, none⟩) (Lib.nDigits u) 24) W := fun W => by
    rw [run_sliceAt_array_h W 165 ⟨w.heap.size, 0, none⟩ (by kernel_rfl) .i64 (Lib.nDigits u : Int) (by omega) (by rw [hal]; omega)]
    go_simp
  have hH0 := holds_zero0 w (Lib.nDigits u) (by omega)
  have hfmt := Tryz.internal_strconv_formatBase10 w.heap.size 0 24 u (Array.replicate (Lib.nDigits u) 0) (w.alloc (.cells Lib.zeros24 165)) hH0 (by rw [Array.size_replicate]; exact Lib.lt_pow_nDigits u) hu64 (by rw [Array.size_replicate]; omega)
  rw [Array.size_replicate] at hfmt
  have HH0 := hid hH0
  have HT := hid hs.tab
  have HF := hid hfmt
  clear hH0 hal hs hfmt
  go_enter Tryz.func144, Tryz.ntmps144
  go_wp2_with (first | (go_at_call 158; refine (Tryz.internal_strconv_numDigits u hu1 hu64 _ (Lib.tabIs_alloc HT.out _)).mono ?_; rintro e w' ⟨rfl, rfl⟩))
  refine HF.out.mono ?_
  rintro e w' ⟨rfl, k, v', dk, rfl, hF⟩
  have hcv : (convert 97 9 (.slice (some ⟨w.heap.size, 0, none⟩) (Lib.nDigits u) 24)).run Tryz.prog ((putRow (fun (b : UInt8) => Value.int .u8 (b.toNat : Int)) (w.alloc (.cells Lib.zeros24 165)) w.heap.size 0 dk).drewN k) = .ok (.string ⟨(Lib.decDigits u).toArray⟩) ((putRow (fun (b : UInt8) => Value.int .u8 (b.toNat : Int)) (w.alloc (.cells Lib.zeros24 165)) w.heap.size 0 dk).drewN k) := by
    have h := run_convert_bytes_back (P := Tryz.prog) ((putRow (fun (b : UInt8) => Value.int .u8 (b.toNat : Int)) (w.alloc (.cells Lib.zeros24 165)) w.heap.size 0 dk).drewN k) 97 9 5 ⟨w.heap.size, 0, none⟩ 24 (Lib.decDigits u) Tryz.underlying97 Tryz.underlying5 Tryz.underlying9 (fun j hj => by
      rw [Lib.row_is_numeral hF j hj, Lib.add_plain, World.cell?_drewN]
      exact cell?_putRow (fun (b : UInt8) => Value.int .u8 (b.toNat : Int)) _ w.heap.size 0 _ dk HH0.out (by rw [hF.size, Array.size_replicate]) j (by rw [hF.size]; rw [Lib.decDigits_length] at hj; exact hj))
    rw [Lib.decDigits_length] at h
    exact h
  go_wp2
  go_ret
  exact ⟨rfl, q_putRow w _ dk k⟩
theorem fmt_any (u : Nat) (w : World) (hs : Std w) (hu64 : u < 18446744073709551616) :
    Calls Tryz.prog 144 #[.int .u64 (u : Int), .int .i64 10] w fun e w' => e = .returned (.string ⟨(Lib.decDigits u).toArray⟩) ∧ Q w w' := by
  by_cases h : u < 100
  · exact fmt_small u w h
  · exact fmt_big u w hs (by omega) hu64
set_option maxHeartbeats 400000 in
theorem fmtUint_any (u : Nat) (w : World) (hs : Std w) (hu64 : u < 18446744073709551616) :
    Calls Tryz.prog 126 #[.int .u64 (u : Int), .int .i64 10] w fun e w' => e = .returned (.string ⟨(Lib.decDigits u).toArray⟩) ∧ Q w w' := by
  go_enter Tryz.func126, Tryz.ntmps126
  go_wp2_with (go_at_call 144; refine (fmt_any u _ hs hu64).mono ?_; rintro e w' ⟨rfl, hq⟩)
  go_ret
  exact ⟨rfl, hq⟩
theorem trim_le (l : List UInt8) (c : UInt8) : (Lib.trimRightB l c).length ≤ l.length := by
  unfold Lib.trimRightB
  rw [List.length_reverse]
  have := (List.dropWhile_sublist (l := l.reverse) (fun x => x == c)).length_le
  rw [List.length_reverse] at this
  exact this
theorem bytes_cat (a b : List UInt8) : (⟨a.toArray⟩ : ByteArray) ++ (⟨b.toArray⟩ : ByteArray) = ⟨(a ++ b).toArray⟩ := by
  apply ByteArray.ext
  simp
theorem ret_str {a b : ByteArray} (h : a = b) : Ending.returned (.string a) = .returned (.string b) := by rw [h]
set_option maxHeartbeats 400000 in
theorem part_zero (w : World) :
    Calls Tryz.prog 127 #[.int .u64 0] w fun e w' => e = .returned (.string ⟨(partL 0).toArray⟩) ∧ Q w w' := by
  go_enter Tryz.func127, Tryz.ntmps127
  go_wp2
  go_ret
  exact ⟨rfl, Q.refl _⟩
set_option maxHeartbeats 400000 in
theorem part_some (r : Nat) (w : World) (hs : Std w) (h0 : 0 < r) (h1 : r < 10000) :
    Calls Tryz.prog 127 #[.int .u64 (r : Int)] w fun e w' => e = .returned (.string ⟨(partL r).toArray⟩) ∧ Q w w' := by
  have hz : ((r : Int) == 0) = false := beq_eq_false_iff_ne.2 (by omega)
  have HP : Hid (partL r = 46 :: Lib.trimRightB ((Lib.decDigits (10000 + r)).drop 1) 48) := by show _ = _; unfold partL; rw [if_neg (by omega)]
  have hlen : (Lib.decDigits (10000 + r)).length = 5 := by rw [Lib.decDigits_length]; exact Lib.nDigits_unique 4 _ (by omega) (by omega)
  have hc := hid (fmtUint_any (10000 + r) w hs (by omega))
  rw [show ((10000 + r : Nat) : Int) = 10000 + (r : Int) by omega] at hc
  generalize Lib.decDigits (10000 + r) = ds at *
  obtain ⟨t, ht⟩ : ∃ t, t = ds.drop 1 := ⟨_, rfl⟩
  have htl : t.length = 4 := by rw [ht, List.length_drop, hlen]
  have eX : ByteArray.extract ⟨ds.toArray⟩ 1 5 = ⟨t.toArray⟩ := by
    apply ByteArray.ext
    apply Array.ext'
    rw [Lib.extract_data]
    show (ds.drop 1).take (5 - 1) = t
    rw [← ht, List.take_of_length_le (by omega)]
  have hsz : (⟨t.toArray⟩ : ByteArray).size ≤ 9223372036854775807 := by
    have : (⟨t.toArray⟩ : ByteArray).size = t.length := by simp [ByteArray.size]
    omega
  rw [← ht] at HP
  clear ht
  have htb : (Lib.trimRightB t 48).length ≤ 4 := by have := trim_le t 48; omega
  go_enter Tryz.func127, Tryz.ntmps127
  go_wp2_with (first | (go_at_call 126; refine hc.out.mono ?_; rintro e w1 ⟨rfl, hq1⟩) | (go_at_call 145; refine (Tryz.strings_TrimRight_one ⟨t.toArray⟩ 48 (by decide) _ hsz).mono ?_; rintro e w2 ⟨rfl, rfl⟩))
  go_ret
  exact ⟨ret_str (by rw [HP.out]; exact bytes_cat [46] _), hq1⟩
theorem part_any (r : Nat) (w : World) (hs : Std w) (h1 : r < 10000) :
    Calls Tryz.prog 127 #[.int .u64 (r : Int)] w fun e w' => e = .returned (.string ⟨(partL r).toArray⟩) ∧ Q w w' := by
  rcases Nat.eq_zero_or_pos r with rfl | h0
  · exact part_zero w
  · exact part_some r w hs h0 h1
theorem part_le (r : Nat) (h1 : r < 10000) : (partL r).length ≤ 5 := by
  unfold partL
  split
  · simp
  · have hlen : (Lib.decDigits (10000 + r)).length = 5 := by rw [Lib.decDigits_length]; exact Lib.nDigits_unique 4 _ (by omega) (by omega)
    have := trim_le ((Lib.decDigits (10000 + r)).drop 1) 48
    rw [List.length_drop, hlen] at this
    rw [List.length_cons]
    omega
/-- a number's text -/

theorem nDigits_le (u : Nat) (h : u < 18446744073709551616) : Lib.nDigits u ≤ 20 := by
  rcases Nat.eq_zero_or_pos u with rfl | h1
  · rw [Lib.nDigits_small (by omega)]; omega
  · have := Lib.numDigits_eq u h1 h; split at this <;> omega
set_option maxHeartbeats 400000 in
theorem print_any (a : Int) (w : World) (hs : Std w) (ha : Fx a) (haU : a.natAbs < 18446744073709551616) :
    Calls Tryz.prog 88 #[.int .i64 a] w fun e w' => e = .returned (.string ⟨(printL a).toArray⟩) ∧ Q w w' := by
  obtain ⟨m, hm⟩ : ∃ m, m = a.natAbs := ⟨_, rfl⟩
  have hsz := hid (size_any a w ha)
  rw [← hm] at hsz haU
  have hf := hid (fun w1 hs1 => fmtUint_any (m / 10000) w1 hs1 (by omega))
  have hp := hid (fun w1 hs1 => part_any (m % 10000) w1 hs1 (by omega))
  have hL : Hid (magL m = Lib.decDigits (m / 10000) ++ partL (m % 10000)) := rfl
  have l1 : (Lib.decDigits (m / 10000)).length ≤ 20 := by rw [Lib.decDigits_length]; exact nDigits_le _ (by omega)
  have l2 := part_le (m % 10000) (by omega)
  have hP : Hid (printL a = if a < 0 then 45 :: magL m else magL m) := by show _ = _; unfold printL; rw [hm]
  clear hm
  rw [show ((m / 10000 : Nat) : Int) = (m : Int) / 10000 by omega] at hf
  rw [show ((m % 10000 : Nat) : Int) = (m : Int) % 10000 by omega] at hp
  generalize Lib.decDigits (m / 10000) = dl at *
  generalize partL (m % 10000) = pl at *
  by_cases hn : a < 0
  · go_enter Tryz.func88, Tryz.ntmps88
    go_wp2_with (first | (go_at_call 124; refine hsz.out.mono ?_; rintro e w1 ⟨rfl, rfl⟩) | (go_at_call 126; refine (hf.out _ hs).mono ?_; rintro e w2 ⟨rfl, hq2⟩) | (go_at_call 127; refine (hp.out _ (hs.on hq2)).mono ?_; rintro e w3 ⟨rfl, hq3⟩))
    go_ret
    exact ⟨ret_str (by rw [hP.out, if_pos hn, hL.out, bytes_cat]; exact bytes_cat [45] _), hq2.trans hq3⟩
  · go_enter Tryz.func88, Tryz.ntmps88
    go_wp2_with (first | (go_at_call 124; refine hsz.out.mono ?_; rintro e w1 ⟨rfl, rfl⟩) | (go_at_call 126; refine (hf.out _ hs).mono ?_; rintro e w2 ⟨rfl, hq2⟩) | (go_at_call 127; refine (hp.out _ (hs.on hq2)).mono ?_; rintro e w3 ⟨rfl, hq3⟩))
    go_ret
    exact ⟨ret_str (by rw [hP.out, if_neg (by omega), hL.out, bytes_cat]), hq2.trans hq3⟩
end Go.Proofs.YtfjpdopmojfchaaGreatDoor
