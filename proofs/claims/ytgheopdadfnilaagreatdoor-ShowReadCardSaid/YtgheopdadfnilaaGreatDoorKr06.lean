/- counterpanelaw5.same, Short; counterpaneref5.MayRef; counterpaneref1.Dec: what each returns; a1.mayLine, sign; strings.Clone: what each returns; counterpaneref5. -/
import Derived.Test.YtgheopdadfnilaaGreatDoorKr05
import Derived.Test.YtgheopdadfnilaaGreatDoorKr00
import Derived.Lib.ItoaMem
import Derived.Shelf.Strconv.Itoa4
import Derived.Test.YtgheopdadfnilaaGreatDoorProg
import Derived.Test.YtgheopdadfnilaaGreatDoorKr01
import Derived.Deep.RegionHeld3
import Derived.Deep.CutBlock
import Derived.Deep.CutRange
set_option linter.unusedVariables false
set_option linter.unusedSimpArgs false
set_option maxRecDepth 100000
namespace Go.Proofs.YtgheopdadfnilaaGreatDoor
open Go.RowKit
abbrev rv (sh : ByteArray) (row col : Int) (ra ca : Bool) : Value := .agg #[.string sh, .int .i64 row, .int .i64 col, .bool ra, .bool ca]
def mayR (sh : List UInt8) (row col : Int) : Bool := (sh.isEmpty || idB sh) && (decide (0 ≤ row ∧ row < 2199023255552) && decide (0 ≤ col ∧ col < 2199023255552))
theorem mayline_any (n : Int) (w : World) :
    Calls Tryz.prog 96 #[.int .i64 n] w fun e w' => e = .returned (.bool (decide (0 ≤ n ∧ n < 2199023255552))) ∧ w' = w := by
  by_cases h0 : 0 ≤ n
  · by_cases h1 : n < 2199023255552
    · have hd := hid (decide_eq_true (show 0 ≤ n ∧ n < 2199023255552 from ⟨h0, h1⟩))
      go_enter Tryz.func96, Tryz.ntmps96
      go_wp2
      go_ret
      exact ⟨ret_bool hd.out.symm, rfl⟩
    · have hd := hid (decide_eq_false (show ¬ (0 ≤ n ∧ n < 2199023255552) from fun h => h1 h.2))
      go_enter Tryz.func96, Tryz.ntmps96
      go_wp2
      go_ret
      exact ⟨ret_bool (by simp; omega), rfl⟩
  · have hd := hid (decide_eq_false (show ¬ (0 ≤ n ∧ n < 2199023255552) from fun h => h0 h.1))
    go_enter Tryz.func96, Tryz.ntmps96
    go_wp2
    go_ret
    exact ⟨ret_bool (by simp; omega), rfl⟩
def sgS (b : Bool) : List UInt8 := if b then [36] else []
theorem asign_any (b : Bool) (w : World) :
    Calls Tryz.prog 98 #[.bool b] w fun e w' => e = .returned (.string ⟨(sgS b).toArray⟩) ∧ w' = w := by
  cases b
  · go_enter Tryz.func98, Tryz.ntmps98
    go_wp2
    go_ret
    exact ⟨rfl, rfl⟩
  · go_enter Tryz.func98, Tryz.ntmps98
    go_wp2
    go_ret
    exact ⟨rfl, rfl⟩
def cnL (n : Int) : List UInt8 := if 0 ≤ n ∧ n < 2199023255552 then nmL (n + 1).toNat else []
theorem nm_nat (m : Nat) : ((UInt8.ofNat (65 + m % 26)).toNat : Int) = 65 + (m : Int) % 26 := by
  rw [nm_byte]
  omega
def NI (N m : Nat) (l : List UInt8) : Prop := nmL m ++ l = nmL N
theorem NI.next {N m : Nat} {l : List UInt8} (h : NI N (m + 1) l) : NI N (m / 26) (UInt8.ofNat (65 + m % 26) :: l) := by
  unfold NI at *
  rw [nm_succ] at h
  rw [← h]
  simp
theorem NI.len {N m : Nat} {l : List UInt8} (h : NI N m l) (hN : N ≤ 2199023255552) : (nmL m).length + l.length ≤ 9 := by
  have h1 := nm_nine N hN
  rw [← h, List.length_append] at h1
  exact h1
structure RM (W : World) (B : Nat) (l : List UInt8) : Prop where
  cells : ∀ o : Nat, o < 9 → ∃ v, W.cell? ⟨B, o, none⟩ = some (.int .u8 v)
  tail : ∀ j (h : j < l.length), W.cell? ⟨B, 9 - l.length + j, none⟩ = some (.int .u8 (l[j].toNat : Int))
  free : ∀ o : Nat, o < 9 → W.frozen? ⟨B, o, none⟩ = false
  big : B < W.heap.size
theorem RM.set {W : World} {B k : Nat} {l : List UInt8} (h : RM W B l) (hk : k + l.length = 8) (c : UInt8) : RM (W.setCell ⟨B, k, none⟩ (.int .u8 (c.toNat : Int))) B (c :: l) := by
  refine ⟨fun o ho => ?_, fun j hj => ?_, fun o ho => ?_, ?_⟩
  · by_cases e : o = k
    · subst e
      obtain ⟨v, hv⟩ := h.cells o ho
      exact ⟨_, World.cell?_setCell_same _ _ _ hv⟩
    · rw [World.cell?_setCell_other _ _ _ _ (by simp [Ne.symm e])]
      exact h.cells o ho
  · have e9 : 9 - (c :: l).length = k := by rw [List.length_cons]; omega
    rw [e9]
    match j, hj with
    | 0, _ =>
      obtain ⟨v, hv⟩ := h.cells k (by omega)
      exact World.cell?_setCell_same _ _ _ hv
    | j + 1, hj =>
      rw [World.cell?_setCell_other _ _ _ _ (by simp)]
      have h1 := h.tail j (by simpa using hj)
      rw [show 9 - l.length + j = k + (j + 1) by omega] at h1
      exact h1
  · rw [World.frozen?_setCell]; exact h.free o ho
  · rw [World.size_setCell]; exact h.big
theorem RM.start (w : World) : RM (w.alloc (.cells #[.int .u8 0, .int .u8 0, .int .u8 0, .int .u8 0, .int .u8 0, .int .u8 0, .int .u8 0, .int .u8 0, .int .u8 0] 160)) w.heap.size [] := by
  refine ⟨fun o ho => ⟨0, ?_⟩, fun j hj => absurd hj (by simp), fun o ho => World.frozen?_alloc_new _ _ _ _, by rw [World.size_alloc]; omega⟩
  rw [World.cell?_alloc_new]
  rcases (by omega : o = 0 ∨ o = 1 ∨ o = 2 ∨ o = 3 ∨ o = 4 ∨ o = 5 ∨ o = 6 ∨ o = 7 ∨ o = 8) with rfl | rfl | rfl | rfl | rfl | rfl | rfl | rfl | rfl <;> rfl
set_option maxHeartbeats 1000000 in
theorem name_yes (n : Int) (N : Nat) (w : World) (hN : Hid (n + 1 = (N : Int))) (n0 : 0 ≤ n) (n1 : n < 2199023255552) :
    Calls Tryz.prog 99 #[.int .i64 n] w fun e w' => e = .returned (.string ⟨(nmL N).toArray⟩) ∧ Q w w' := by
  have HM := hid (fun W => mayline_any n W)
  rw [show decide (0 ≤ n ∧ n < 2199023255552) = true from decide_eq_true ⟨n0, n1⟩] at HM
  have hal : Tryz.prog.arrayLen 160 = 9 := by kernel_rfl
  have HS := hid (RM.start w)
  go_enter Tryz.func99, Tryz.ntmps99
  go_wp2_with (go_at_call 96; refine (HM.out _).mono ?_; rintro e w1 ⟨rfl, rfl⟩)
  go_loopw [0, 4] (fun a b W => ∃ (x : Int) (m k : Nat) (l : List UInt8), a = .int .i64 x ∧ b = .int .i64 (k : Int) ∧ k + l.length = 9 ∧ Hid (x = (m : Int)) ∧ 0 ≤ x ∧ x ≤ 2199023255552 ∧ NI N m l ∧ RM W w1.heap.size l ∧ Q w1 W) (fun a b _ => (intOf a).toNat)
  case atStart => exact ⟨n + 1, N, 9, [], rfl, rfl, rfl, hN, by omega, by omega, List.append_nil _, HS.out, (Q.refl _).alloc _⟩
  case round =>
    obtain ⟨x, m, k, l, rfl, rfl, hk, hx, x0, x1, di, hr, hq⟩ := hrel
    have hl20 := di.len (by have := hN.out; omega)
    have HD := hid di
    have HR := hid hr
    have HQ := hid hq
    clear di hr hq
    by_cases hp : 0 < x
    · obtain ⟨p, rfl⟩ : ∃ p, m = p + 1 := ⟨m - 1, by have := hx.out; omega⟩
      have hne : 0 < (nmL (p + 1)).length := List.length_pos_iff.2 (nm_ne _ (by omega))
      obtain ⟨k, rfl⟩ : ∃ k', k = k' + 1 := ⟨k - 1, by omega⟩
      have HN := hid (HD.out.next)
      have hc : ((UInt8.ofNat (65 + p % 26)).toNat : Int) = 65 + (x - 1) % 26 := by rw [nm_nat p, hx.out]; omega
      obtain ⟨c, ec⟩ : ∃ c, c = UInt8.ofNat (65 + p % 26) := ⟨_, rfl⟩
      rw [← ec] at HN hc
      have hx' : Hid ((x - 1) / 26 = ((p / 26 : Nat) : Int)) := by show _ = _; rw [hx.out]; omega
      obtain ⟨v, hv⟩ := HR.out.cells k (by omega)
      have hf := HR.out.free k (by omega)
      have hbg := HR.out.big
      have HW := hid (HR.out.set (k := k) (by omega) c)
      rw [hc] at HW
      clear ec hc HD
      go_wp2
      go_roundw
      case rel => exact ⟨(x - 1) / 26, p / 26, k, c :: l, rfl, rfl, by rw [List.length_cons]; omega, hx', by omega, by omega, HN.out, HW.out, HQ.out.setCell (Nat.le_refl _) _⟩
      case measure =>
        simp only [intOf]
        omega
    · have hm0 : m = 0 := by have := hx.out; omega
      subst hm0
      have HF : Hid (l = nmL N) := by have := HD.out; unfold NI at this; rw [nmL] at this; exact this
      have hlp : 0 < l.length := by rw [HF.out]; exact List.length_pos_iff.2 (nm_ne _ (by have := hN.out; omega))
      have hsl : ∀ W, (Instr.sliceAt 160 (.pointer (some ⟨w1.heap.size, 0, none⟩)) (some (.int .i64 (k : Int))) none none).run Tryz.prog W = .ok (.slice (some ⟨w1.heap.size, k, none⟩) l.length l.length) W := fun W => by
        rw [run_sliceAt_array_l W 160 ⟨w1.heap.size, 0, none⟩ (by kernel_rfl) .i64 (k : Int) (by omega) (by rw [hal]; omega)]
        go_simp
        omega
      have hcv : (convert 52 9 (.slice (some ⟨w1.heap.size, k, none⟩) l.length l.length)).run Tryz.prog wr = .ok (.string ⟨l.toArray⟩) wr :=
        run_convert_bytes_back (P := Tryz.prog) wr 52 9 5 ⟨w1.heap.size, k, none⟩ l.length l Tryz.underlying52 Tryz.underlying5 Tryz.underlying9 (fun j hj => by
          have h1 := HR.out.tail j hj
          rw [show 9 - l.length + j = k + j by omega] at h1
          rw [Lib.add_plain]
          exact h1)
      clear HD
      go_wp2
      go_ret
      exact ⟨ret_str (by rw [HF.out]), HQ.out⟩
theorem name_any (n : Int) (w : World) :
    Calls Tryz.prog 99 #[.int .i64 n] w fun e w' => e = .returned (.string ⟨(cnL n).toArray⟩) ∧ Q w w' := by
  by_cases h : 0 ≤ n ∧ n < 2199023255552
  · unfold cnL
    rw [if_pos h]
    exact name_yes n _ w (by show _ = _; omega) h.1 h.2
  · have HC : Hid (cnL n = []) := by show _ = _; unfold cnL; rw [if_neg h]
    have HM := hid (fun W => mayline_any n W)
    rw [show decide (0 ≤ n ∧ n < 2199023255552) = false from decide_eq_false h] at HM
    clear h
    go_enter Tryz.func99, Tryz.ntmps99
    go_wp2_with (go_at_call 96; refine (HM.out _).mono ?_; rintro e w1 ⟨rfl, rfl⟩)
    go_ret
    exact ⟨ret_str (by rw [HC.out]), Q.refl _⟩
end Go.Proofs.YtgheopdadfnilaaGreatDoor
namespace Go.Proofs
open Go.Shelf
def Tryz.laysM173_ren : Go.Shelf.Ren := ⟨fun | 173 => 100 | 246 => 134 | 283 => 157 | 284 => 158 | 285 => 159 | 286 => 160 | 129 => 176 | 317 => 175 | 318 => 177 | 319 => 178 | 320 => 179 | 337 => 194 | 338 => 195 | n => n, fun | 2 => 2 | 3 => 3 | 9 => 9 | 4 => 4 | 171 => 179 | 0 => 0 | 53 => 98 | 37 => 52 | 5 => 5 | 173 => 182 | 212 => 188 | 51 => 189 | 20 => 20 | 213 => 190 | 46 => 151 | 232 => 211 | 233 => 212 | n => n, fun | 17 => 4 | 18 => 6 | 19 => 7 | n => n⟩
theorem Tryz.laysM173 : Go.Proofs.LaysM.n173 Tryz.prog Tryz.laysM173_ren := {
  mixed := by kernel_rfl
  f129 := Tryz.func176.trans (congrArg some (by kernel_rfl))
  f173 := Tryz.func100.trans (congrArg some (by kernel_rfl))
  f246 := Tryz.func134.trans (congrArg some (by kernel_rfl))
  f283 := Tryz.func157.trans (congrArg some (by kernel_rfl))
  f284 := Tryz.func158.trans (congrArg some (by kernel_rfl))
  f285 := Tryz.func159.trans (congrArg some (by kernel_rfl))
  f286 := Tryz.func160.trans (congrArg some (by kernel_rfl))
  f317 := Tryz.func175.trans (congrArg some (by kernel_rfl))
  f318 := Tryz.func177.trans (congrArg some (by kernel_rfl))
  f319 := Tryz.func178.trans (congrArg some (by kernel_rfl))
  f320 := Tryz.func179.trans (congrArg some (by kernel_rfl))
  f337 := Tryz.func194.trans (congrArg some (by kernel_rfl))
  f338 := Tryz.func195.trans (congrArg some (by kernel_rfl))
  t0 := Tryz.underlying0
  a0 := Tryz.isAgg0
  z0 := Tryz.sizeOf0
  v0 := Tryz.zeroValue0
  t2 := Tryz.underlying2
  a2 := Tryz.isAgg2
  z2 := Tryz.sizeOf2
  v2 := Tryz.zeroValue2
  t3 := Tryz.underlying3
  a3 := Tryz.isAgg3
  z3 := Tryz.sizeOf3
  v3 := Tryz.zeroValue3
  t4 := Tryz.underlying4
  a4 := Tryz.isAgg4
  z4 := Tryz.sizeOf4
  v4 := Tryz.zeroValue4
  t5 := Tryz.underlying5
  a5 := Tryz.isAgg5
  z5 := Tryz.sizeOf5
  v5 := Tryz.zeroValue5
  t9 := Tryz.underlying9
  a9 := Tryz.isAgg9
  z9 := Tryz.sizeOf9
  v9 := Tryz.zeroValue9
  t20 := Tryz.underlying20
  a20 := Tryz.isAgg20
  z20 := Tryz.sizeOf20
  v20 := Tryz.zeroValue20
  t37 := Tryz.underlying52
  a37 := Tryz.isAgg52
  z37 := Tryz.sizeOf52
  v37 := Tryz.zeroValue52
  t46 := Tryz.underlying151
  a46 := Tryz.isAgg151
  z46 := Tryz.sizeOf151
  v46 := Tryz.zeroValue151
  t51 := Tryz.underlying189
  a51 := Tryz.isAgg189
  z51 := Tryz.sizeOf189
  v51 := Tryz.zeroValue189
  t53 := Tryz.underlying98
  a53 := Tryz.isAgg98
  z53 := Tryz.sizeOf98
  v53 := Tryz.zeroValue98
  t171 := Tryz.underlying179
  a171 := Tryz.isAgg179
  z171 := Tryz.sizeOf179
  v171 := Tryz.zeroValue179
  t173 := Tryz.underlying182
  a173 := Tryz.isAgg182
  z173 := Tryz.sizeOf182
  v173 := Tryz.zeroValue182
  t212 := Tryz.underlying188
  a212 := Tryz.isAgg188
  z212 := Tryz.sizeOf188
  v212 := Tryz.zeroValue188
  t213 := Tryz.underlying190
  a213 := Tryz.isAgg190
  z213 := Tryz.sizeOf190
  t232 := Tryz.underlying211
  a232 := Tryz.isAgg211
  z232 := Tryz.sizeOf211
  v232 := Tryz.zeroValue211
  t233 := Tryz.underlying212
  a233 := Tryz.isAgg212
  z233 := Tryz.sizeOf212
  v233 := Tryz.zeroValue212
  g17 := by kernel_rfl
  g18 := by kernel_rfl
  g19 := by kernel_rfl
  i0 := by kernel_rfl
  i2 := by kernel_rfl
  i3 := by kernel_rfl
  i4 := by kernel_rfl
  i5 := by kernel_rfl
  i9 := by kernel_rfl
  i20 := by kernel_rfl
  i37 := by kernel_rfl
  i46 := by kernel_rfl
  i51 := by kernel_rfl
  i53 := by kernel_rfl
  i171 := by kernel_rfl
  i173 := by kernel_rfl
  i212 := by kernel_rfl
  i232 := by kernel_rfl
  i233 := by kernel_rfl
  m17 := by kernel_rfl
  m18 := by kernel_rfl
  m19 := by kernel_rfl }
open Go.RowKit Go.Sort Go.Lib in
theorem Tryz.strconv_FormatInt_10 (n : Int) (h0 : -9223372036854775808 ≤ n) (h1 : n ≤ 9223372036854775807) (w : World) (htab : Lib.TabIs Tryz.prog w "internal/strconv.uint64pow10" .u64 Lib.pow10Tab) :
    Calls Tryz.prog 100 #[.int .i64 n, .int .i64 10] w fun e w' => e = .returned (.string ⟨(Lib.itoa n).toArray⟩) ∧ ∃ k os, w' = grow (w.drewN k) os := Any.strconv_FormatInt_10 Tryz.laysM173 n h0 h1 w htab
end Go.Proofs
namespace Go.Proofs.YtgheopdadfnilaaGreatDoor
open Go.RowKit Go.Sort
theorem dec_small {m : Nat} (h : m < 10) : Lib.decDigits m = [UInt8.ofNat (48 + m % 10)] := by
  rw [Lib.decDigits_one h, Nat.mod_eq_of_lt h]
theorem nDigits_le (N : Nat) (h : N < 18446744073709551616) : Lib.nDigits N ≤ 20 := by
  rcases Nat.eq_zero_or_pos N with h0 | h0
  · subst h0
    have h1 := congrArg List.length (dec_small (m := 0) (by omega))
    rw [Lib.decDigits_length] at h1
    have h2 : ([UInt8.ofNat (48 + 0 % 10)] : List UInt8).length = 1 := rfl
    omega
  · have := Lib.numDigits_eq N h0 h
    split at this <;> omega
theorem Q.grow (w : World) (k : Nat) (os : Array Obj) : Q w (grow (w.drewN k) os) := by
  refine Q.trans ((Q.refl w).drewN k) ?_
  refine ⟨rfl, rfl, rfl, by simp [Go.Sort.grow], fun i hi => ?_⟩
  show ((w.drewN k).heap ++ os)[i]? = (w.drewN k).heap[i]?
  rw [Array.getElem?_append_left hi]
def shX (sh : List UInt8) : List UInt8 := if sh.isEmpty then [] else sh ++ [33]
def prL (sh : List UInt8) (row col : Int) (ra ca : Bool) : List UInt8 := (((shX sh ++ sgS ca) ++ cnL col) ++ sgS ra) ++ Lib.decDigits (row + 1).toNat
def prR (sh : List UInt8) (row col : Int) (ra ca : Bool) : List UInt8 := if mayR sh row col then prL sh row col ra ca else []
theorem sg_len (b : Bool) : (sgS b).length ≤ 1 := by cases b <;> decide
theorem cn_len (n : Int) : (cnL n).length ≤ 9 := by
  unfold cnL
  split
  · exact nm_nine _ (by omega)
  · simp
theorem shX_len (l : List UInt8) : (shX l).length ≤ l.length + 1 := by
  unfold shX
  split
  · simp
  · simp
theorem dec_len (u : Nat) (h : u ≤ 2199023255552) : (Lib.decDigits u).length ≤ 20 := by
  rw [Lib.decDigits_length]
  exact nDigits_le u (by omega)
structure Cat (SH SA NM SB DC X1 X2 X3 X4 : ByteArray) : Prop where
  e1 : SH ++ SA = X1
  e2 : X1 ++ NM = X2
  e3 : X2 ++ SB = X3
  e4 : X3 ++ DC = X4
  z0 : SH.size ≤ 100000
  z1 : X1.size ≤ 100000
  z2 : X2.size ≤ 100000
  z3 : X3.size ≤ 100000
  z4 : X4.size ≤ 100000
  y1 : SA.size ≤ 100000
  y2 : NM.size ≤ 100000
  y3 : SB.size ≤ 100000
  y4 : DC.size ≤ 100000
theorem cat_of (sh : List UInt8) (row col : Int) (ra ca : Bool) (hs : sh.length ≤ 1000) (r0 : 0 ≤ row) (r1 : row < 2199023255552) :
    ∃ X1 X2 X3, Cat ⟨(shX sh).toArray⟩ ⟨(sgS ca).toArray⟩ ⟨(cnL col).toArray⟩ ⟨(sgS ra).toArray⟩ ⟨(Lib.decDigits (row + 1).toNat).toArray⟩ X1 X2 X3 ⟨(prL sh row col ra ca).toArray⟩ := by
  have h1 := shX_len sh
  have h2 := sg_len ca
  have h3 := sg_len ra
  have h4 := cn_len col
  have h5 := dec_len (row + 1).toNat (by omega)
  refine ⟨⟨(shX sh ++ sgS ca).toArray⟩, ⟨((shX sh ++ sgS ca) ++ cnL col).toArray⟩, ⟨(((shX sh ++ sgS ca) ++ cnL col) ++ sgS ra).toArray⟩, bytes_cat _ _, bytes_cat _ _, bytes_cat _ _, bytes_cat _ _, ?_, ?_, ?_, ?_, ?_, ?_, ?_, ?_, ?_⟩
  all_goals
    rw [size_mk]
    try unfold prL
    try simp only [List.length_append]
    omega
theorem fmt_any (n : Int) (w : World) (hw : Lib.TabIs Tryz.prog w "internal/strconv.uint64pow10" .u64 Lib.pow10Tab) (n0 : 0 ≤ n) (n1 : n ≤ 2199023255552) :
    Calls Tryz.prog 100 #[.int .i64 n, .int .i64 10] w fun e w' => e = .returned (.string ⟨(Lib.decDigits n.toNat).toArray⟩) ∧ Q w w' := by
  refine (Tryz.strconv_FormatInt_10 n (by omega) (by omega) w hw).mono ?_
  rintro e w' ⟨rfl, k, os, rfl⟩
  refine ⟨ret_str ?_, Q.grow w k os⟩
  obtain ⟨m, rfl⟩ := Int.eq_ofNat_of_zero_le n0
  rfl
structure PB (w W : World) (sh : ByteArray) (row col : Int) (ra ca : Bool) : Prop where
  q : Q w W
  c0 : W.cell? ⟨w.heap.size, 0, none⟩ = some (.string sh)
  c1 : W.cell? ⟨w.heap.size, 1, none⟩ = some (.int .i64 row)
  c2 : W.cell? ⟨w.heap.size, 2, none⟩ = some (.int .i64 col)
  c3 : W.cell? ⟨w.heap.size, 3, none⟩ = some (.bool ra)
  c4 : W.cell? ⟨w.heap.size, 4, none⟩ = some (.bool ca)
theorem PB.start (w : World) (sh : ByteArray) (row col : Int) (ra ca : Bool) : PB w (w.alloc (.cells #[.string sh, .int .i64 row, .int .i64 col, .bool ra, .bool ca] 63)) sh row col ra ca := by
  refine ⟨(Q.refl _).alloc _, ?_, ?_, ?_, ?_, ?_⟩ <;> (rw [World.cell?_alloc_new]; rfl)
theorem PB.on {w W W' : World} {sh : ByteArray} {row col : Int} {ra ca : Bool} (h : PB w W sh row col ra ca) (q : Q W W') : PB w W' sh row col ra ca := by
  have hb : w.heap.size < W.heap.size := World.block_lt_of_cell? W ⟨w.heap.size, 0, none⟩ h.c0
  exact ⟨h.q.trans q, by rw [q.cell hb]; exact h.c0, by rw [q.cell hb]; exact h.c1, by rw [q.cell hb]; exact h.c2, by rw [q.cell hb]; exact h.c3, by rw [q.cell hb]; exact h.c4⟩
end Go.Proofs.YtgheopdadfnilaaGreatDoor
namespace Go.Proofs.YtgheopdadfnilaaGreatDoor
open Go.RowKit
set_option maxHeartbeats 2000000 in
theorem print_plain (sh SH SA NM SB DC X1 X2 X3 X4 : ByteArray) (row col : Int) (ra ca : Bool) (w : World) (hz : sh.size ≤ 1000)
    (HM1 : Hid (∀ W, Calls Tryz.prog 96 #[.int .i64 row] W fun e w' => e = .returned (.bool true) ∧ w' = W))
    (HM2 : Hid (∀ W, Calls Tryz.prog 96 #[.int .i64 col] W fun e w' => e = .returned (.bool true) ∧ w' = W))
    (hE : (sh.toList == []) = true)
    (HS1 : Hid (∀ W, Calls Tryz.prog 98 #[.bool ca] W fun e w' => e = .returned (.string SA) ∧ w' = W))
    (HS2 : Hid (∀ W, Calls Tryz.prog 98 #[.bool ra] W fun e w' => e = .returned (.string SB) ∧ w' = W))
    (HN : Hid (∀ W, Calls Tryz.prog 99 #[.int .i64 col] W fun e w' => e = .returned (.string NM) ∧ Q W w'))
    (HF : Hid (∀ W, Q w W → Calls Tryz.prog 100 #[.int .i64 (row + 1), .int .i64 10] W fun e w' => e = .returned (.string DC) ∧ Q W w'))
    (r0 : 0 ≤ row) (r1 : row < 2199023255552) (hc : Cat ⟨#[]⟩ SA NM SB DC X1 X2 X3 X4) :
    Calls Tryz.prog 60 #[rv sh row col ra ca] w fun e w' => e = .returned (.string X4) ∧ Q w w' := by
  obtain ⟨e1, e2, e3, e4, z0, z1, z2, z3, z4, y1, y2, y3, y4⟩ := hc
  have k1 : ¬ 9223372036854775807 < SA.size := by omega
  have k2 : ¬ 9223372036854775807 < X1.size + NM.size := by omega
  have k3 : ¬ 9223372036854775807 < X2.size + SB.size := by omega
  have k4 : ¬ 9223372036854775807 < X3.size + DC.size := by omega
  have hwr : IntKind.i64.wrap (row + 1) = row + 1 := by rw [IntKind.wrap_i64]; omega
  have J := hid (PB.start w sh row col ra ca)
  go_enter Tryz.func60, Tryz.ntmps60
  go_upto_region 8 with (first | (go_at_call_of 96 row; refine (HM1.out _).mono ?_; rintro e w1 ⟨rfl, rfl⟩) | (go_at_call_of 96 col; refine (HM2.out _).mono ?_; rintro e w1 ⟨rfl, rfl⟩))
  have hk0 : Hid ((w.alloc (.cells #[.string sh, .int .i64 row, .int .i64 col, .bool ra, .bool ca] 63)).drew.cell? ⟨w.heap.size, 1, none⟩ = some (.int .i64 row) ∧ (w.alloc (.cells #[.string sh, .int .i64 row, .int .i64 col, .bool ra, .bool ca] 63)).drew.cell? ⟨w.heap.size, 2, none⟩ = some (.int .i64 col) ∧ (w.alloc (.cells #[.string sh, .int .i64 row, .int .i64 col, .bool ra, .bool ca] 63)).drew.cell? ⟨w.heap.size, 3, none⟩ = some (.bool ra) ∧ (w.alloc (.cells #[.string sh, .int .i64 row, .int .i64 col, .bool ra, .bool ca] 63)).drew.cell? ⟨w.heap.size, 4, none⟩ = some (.bool ca)) := ⟨J.out.c1, J.out.c2, J.out.c3, J.out.c4⟩
  go_region_held3 (fun W => W.cell? ⟨w.heap.size, 1, none⟩ = some (.int .i64 row) ∧ W.cell? ⟨w.heap.size, 2, none⟩ = some (.int .i64 col) ∧ W.cell? ⟨w.heap.size, 3, none⟩ = some (.bool ra) ∧ W.cell? ⟨w.heap.size, 4, none⟩ = some (.bool ca)) (with_reducible (first | exact hk0.out | exact hk1.out | exact hk2.out))
    (first
      | (go_at_call_of 98 ca; refine (HS1.out _).mono ?_; rintro r w9 ⟨rfl, rfl⟩)
      | (go_at_call_of 98 ra; refine (HS2.out _).mono ?_; rintro r w9 ⟨rfl, rfl⟩)
      | (go_at_call 99; refine (HN.out _).mono ?_; rintro r w5 ⟨rfl, q5⟩; replace J := hid (J.out.on (Q.trans (Q.drew (Q.refl _)) q5)); have hk1 : Hid (w5.cell? ⟨w.heap.size, 1, none⟩ = some (.int .i64 row) ∧ w5.cell? ⟨w.heap.size, 2, none⟩ = some (.int .i64 col) ∧ w5.cell? ⟨w.heap.size, 3, none⟩ = some (.bool ra) ∧ w5.cell? ⟨w.heap.size, 4, none⟩ = some (.bool ca)) := ⟨J.out.c1, J.out.c2, J.out.c3, J.out.c4⟩)
      | (go_at_call 100; refine (HF.out _ J.out.q).mono ?_; rintro r w6 ⟨rfl, q6⟩; replace J := hid (J.out.on q6); have hk2 : Hid (w6.cell? ⟨w.heap.size, 1, none⟩ = some (.int .i64 row) ∧ w6.cell? ⟨w.heap.size, 2, none⟩ = some (.int .i64 col) ∧ w6.cell? ⟨w.heap.size, 3, none⟩ = some (.bool ra) ∧ w6.cell? ⟨w.heap.size, 4, none⟩ = some (.bool ca)) := ⟨J.out.c1, J.out.c2, J.out.c3, J.out.c4⟩))
  go_wp2
  go_ret
  exact ⟨rfl, J.out.q⟩
set_option maxHeartbeats 2000000 in
theorem print_sheet (sh SH SA NM SB DC X1 X2 X3 X4 : ByteArray) (row col : Int) (ra ca : Bool) (w : World) (hz : sh.size ≤ 1000)
    (HM1 : Hid (∀ W, Calls Tryz.prog 96 #[.int .i64 row] W fun e w' => e = .returned (.bool true) ∧ w' = W))
    (HM2 : Hid (∀ W, Calls Tryz.prog 96 #[.int .i64 col] W fun e w' => e = .returned (.bool true) ∧ w' = W))
    (hE : (sh.toList == []) = false)
    (HI : Hid (∀ W, Q w W → Calls Tryz.prog 97 #[.string sh] W fun e w' => e = .returned (.bool true) ∧ Q W w')) (eS : sh ++ ⟨#[33]⟩ = SH)
    (HS1 : Hid (∀ W, Calls Tryz.prog 98 #[.bool ca] W fun e w' => e = .returned (.string SA) ∧ w' = W))
    (HS2 : Hid (∀ W, Calls Tryz.prog 98 #[.bool ra] W fun e w' => e = .returned (.string SB) ∧ w' = W))
    (HN : Hid (∀ W, Calls Tryz.prog 99 #[.int .i64 col] W fun e w' => e = .returned (.string NM) ∧ Q W w'))
    (HF : Hid (∀ W, Q w W → Calls Tryz.prog 100 #[.int .i64 (row + 1), .int .i64 10] W fun e w' => e = .returned (.string DC) ∧ Q W w'))
    (r0 : 0 ≤ row) (r1 : row < 2199023255552) (hc : Cat SH SA NM SB DC X1 X2 X3 X4) :
    Calls Tryz.prog 60 #[rv sh row col ra ca] w fun e w' => e = .returned (.string X4) ∧ Q w w' := by
  obtain ⟨e1, e2, e3, e4, z0, z1, z2, z3, z4, y1, y2, y3, y4⟩ := hc
  have k1 : ¬ 9223372036854775807 < SH.size + SA.size := by omega
  have k2 : ¬ 9223372036854775807 < X1.size + NM.size := by omega
  have k3 : ¬ 9223372036854775807 < X2.size + SB.size := by omega
  have k4 : ¬ 9223372036854775807 < X3.size + DC.size := by omega
  have hwr : IntKind.i64.wrap (row + 1) = row + 1 := by rw [IntKind.wrap_i64]; omega
  have J := hid (PB.start w sh row col ra ca)
  go_enter Tryz.func60, Tryz.ntmps60
  go_upto_region 8 with (first | (go_at_call_of 96 row; refine (HM1.out _).mono ?_; rintro e w1 ⟨rfl, rfl⟩) | (go_at_call_of 96 col; refine (HM2.out _).mono ?_; rintro e w1 ⟨rfl, rfl⟩) | (go_at_call 97; refine (HI.out _ (by repeat (first | exact Q.refl _ | refine Q.drewN ?_ _ | refine Q.alloc ?_ _))).mono ?_; rintro e w3 ⟨rfl, q3⟩; replace J := hid (J.out.on q3); have d0 := J.out.c0; have d1 := J.out.c1; have d2 := J.out.c2; have d3 := J.out.c3; have d4 := J.out.c4))
  have hk0 : Hid (w3.drew.cell? ⟨w.heap.size, 1, none⟩ = some (.int .i64 row) ∧ w3.drew.cell? ⟨w.heap.size, 2, none⟩ = some (.int .i64 col) ∧ w3.drew.cell? ⟨w.heap.size, 3, none⟩ = some (.bool ra) ∧ w3.drew.cell? ⟨w.heap.size, 4, none⟩ = some (.bool ca)) := ⟨J.out.c1, J.out.c2, J.out.c3, J.out.c4⟩
  go_region_held3 (fun W => W.cell? ⟨w.heap.size, 1, none⟩ = some (.int .i64 row) ∧ W.cell? ⟨w.heap.size, 2, none⟩ = some (.int .i64 col) ∧ W.cell? ⟨w.heap.size, 3, none⟩ = some (.bool ra) ∧ W.cell? ⟨w.heap.size, 4, none⟩ = some (.bool ca)) (with_reducible (first | exact hk0.out | exact hk1.out | exact hk2.out))
    (first
      | (go_at_call_of 98 ca; refine (HS1.out _).mono ?_; rintro r w9 ⟨rfl, rfl⟩)
      | (go_at_call_of 98 ra; refine (HS2.out _).mono ?_; rintro r w9 ⟨rfl, rfl⟩)
      | (go_at_call 99; refine (HN.out _).mono ?_; rintro r w5 ⟨rfl, q5⟩; replace J := hid (J.out.on (Q.trans (Q.drew (Q.refl _)) q5)); have hk1 : Hid (w5.cell? ⟨w.heap.size, 1, none⟩ = some (.int .i64 row) ∧ w5.cell? ⟨w.heap.size, 2, none⟩ = some (.int .i64 col) ∧ w5.cell? ⟨w.heap.size, 3, none⟩ = some (.bool ra) ∧ w5.cell? ⟨w.heap.size, 4, none⟩ = some (.bool ca)) := ⟨J.out.c1, J.out.c2, J.out.c3, J.out.c4⟩)
      | (go_at_call 100; refine (HF.out _ J.out.q).mono ?_; rintro r w6 ⟨rfl, q6⟩; replace J := hid (J.out.on q6); have hk2 : Hid (w6.cell? ⟨w.heap.size, 1, none⟩ = some (.int .i64 row) ∧ w6.cell? ⟨w.heap.size, 2, none⟩ = some (.int .i64 col) ∧ w6.cell? ⟨w.heap.size, 3, none⟩ = some (.bool ra) ∧ w6.cell? ⟨w.heap.size, 4, none⟩ = some (.bool ca)) := ⟨J.out.c1, J.out.c2, J.out.c3, J.out.c4⟩))
  go_wp2
  go_ret
  exact ⟨rfl, J.out.q⟩
end Go.Proofs.YtgheopdadfnilaaGreatDoor
