/- Columns' letters, numbers, ids and references as texts, plai. -/
import Derived.Lib.IndexMore
import Derived.Lib.ItoaNum
import Derived.Lib.Strings
import Derived.Shelf.Small.Wraps
import Derived.Shelf.Strconv.Itoa0
import Derived.Shelf.LaysM
import Derived.Shelf.Strings.Search1
import Derived.Shelf.Strings.Search2
import Derived.Shelf.Strings.Cut
import Derived.Shelf.Strings.Shaped
import Derived.Shelf.Strings.Prefix
import Derived.Test.YthebfhdpofhmpaaGreatDoorProg
import Derived.Test.YthebfhdpofhmpaaGreatDoorRows
import Derived.Shelf.Unicode.DecodeSlow
import Derived.WalkKit
import Derived.WalkSpells
import Derived.WalkLawsBesides
import Derived.Lib.TrimByte
import Derived.Handy
import Derived.Shelf.Unicode.ValidAny
import Derived.Laws.Bits64b
import Derived.Deep.RegionHeld
import Derived.Shelf.Strconv.Itoa1
import Derived.Shelf.Strconv.Clone
import Derived.Deep.CutBlock
import Derived.Deep.RegionHeld3
import Derived.Deep.WholeRow
import Derived.Deep.DrawnRows
import Derived.Deep.MidRow
import Derived.Lib.ValidLaws
import Derived.RegionTactic
set_option linter.unusedVariables false
set_option linter.unusedSimpArgs false
set_option maxRecDepth 100000
set_option maxHeartbeats 8000000
namespace Go.Proofs.YthebfhdpofhmpaaGreatDoor
open Go
def dig (c : UInt8) : Bool := decide (48 ≤ c.toNat ∧ c.toNat ≤ 57)
def allD (l : List UInt8) : Bool := l.all dig
def val (l : List UInt8) : Nat := l.foldl (fun n c => n * 10 + (c.toNat - 48)) 0
def numF (l : List UInt8) (most : Nat) : Bool := !l.isEmpty && !(l.headD 0 == 48 && decide (1 < l.length)) && allD l && decide (val l ≤ most)
def numK (l : List UInt8) (most : Nat) : Int := if numF l most then (val l : Int) else 0
def ownP (p : List UInt8 × List UInt8 × Bool) : Int := if p.2.2 && numF p.1 15 && numF p.2.1 999999 then (val p.1 : Int) else -1
def ownK (l : List UInt8) : Int := if Lib.hasPrefix l [99] then ownP (Lib.cut (Lib.trimPrefix l [99]) [110]) else -1
theorem val_app (l m : List UInt8) : val (l ++ m) = val l * 10 ^ m.length + val m := by
  have h : ∀ (m : List UInt8) (n : Nat), m.foldl (fun n c => n * 10 + (c.toNat - 48)) n = n * 10 ^ m.length + val m := by
    intro m
    induction m with
    | nil => intro n; simp [val]
    | cons c m ih =>
      intro n
      have e : val (c :: m) = m.foldl (fun n c => n * 10 + (c.toNat - 48)) (0 * 10 + (c.toNat - 48)) := rfl
      rw [e, List.foldl_cons, ih, ih, List.length_cons, Nat.pow_succ, Nat.add_mul, Nat.add_mul]
      rw [Nat.mul_assoc n, Nat.mul_comm 10]
      omega
  have e : val (l ++ m) = m.foldl (fun n c => n * 10 + (c.toNat - 48)) (val l) := by unfold val; rw [List.foldl_append]
  rw [e, h]
theorem val_snoc (l : List UInt8) (c : UInt8) : val (l ++ [c]) = val l * 10 + (c.toNat - 48) := by unfold val; rw [List.foldl_append]; rfl
theorem val_ge (l m : List UInt8) : val l ≤ val (l ++ m) := by
  rw [val_app]
  have h : 1 ≤ 10 ^ m.length := Nat.pow_pos (by omega)
  have := Nat.mul_le_mul_left (val l) h
  omega
theorem allD_app (a b : List UInt8) : allD (a ++ b) = (allD a && allD b) := by unfold allD; rw [List.all_append]
theorem cut_le (x : UInt8) (t : List UInt8) : (Lib.cut t [x]).1.length + (Lib.cut t [x]).2.1.length ≤ t.length := by
  unfold Lib.cut
  split
  · simp only [List.length_take, List.length_drop, List.length_cons, List.length_nil]
    omega
  · simp
end Go.Proofs.YthebfhdpofhmpaaGreatDoor
namespace Go.Proofs
open Go.Shelf
def Tryz.lays103_ren : Go.Shelf.Ren := ⟨fun | 103 => 74 | 210 => 99 | 206 => 122 | n => n, fun | 9 => 9 | 4 => 4 | 24 => 127 | 3 => 3 | n => n, fun | n => n⟩
theorem Tryz.lays103 : Go.Proofs.Lays.n103 Tryz.prog Tryz.lays103_ren := {
  mixed := by kernel_rfl
  f103 := Tryz.func74.trans (congrArg some (by kernel_rfl))
  f206 := Tryz.func122.trans (congrArg some (by kernel_rfl))
  f210 := Tryz.func99.trans (congrArg some (by kernel_rfl))
  t3 := Tryz.underlying3
  a3 := Tryz.isAgg3
  z3 := Tryz.sizeOf3
  v3 := Tryz.zeroValue3
  t4 := Tryz.underlying4
  a4 := Tryz.isAgg4
  z4 := Tryz.sizeOf4
  v4 := Tryz.zeroValue4
  t9 := Tryz.underlying9
  a9 := Tryz.isAgg9
  z9 := Tryz.sizeOf9
  v9 := Tryz.zeroValue9
  t24 := Tryz.underlying127
  a24 := Tryz.isAgg127
  z24 := Tryz.sizeOf127
  v24 := Tryz.zeroValue127 }
open Go.RowKit in
theorem Tryz.strings_CutPrefix (s p : ByteArray) (w : World) :
    Calls Tryz.prog 74 #[.string s, .string p] w fun e w' => e = .returned (.tuple #[.string ⟨(Lib.trimPrefix s.data.toList p.data.toList).toArray⟩, .bool (Lib.hasPrefix s.data.toList p.data.toList)]) ∧ w' = w := Any.strings_CutPrefix Tryz.lays103 s p w
def Tryz.lays145_ren : Go.Shelf.Ren := ⟨fun | 145 => 75 | 220 => 100 | 219 => 123 | 217 => 135 | 225 => 136 | 224 => 137 | 267 => 138 | 266 => 156 | 314 => 157 | n => n, fun | 9 => 9 | 4 => 4 | 59 => 129 | 3 => 3 | 5 => 5 | 46 => 176 | 146 => 222 | 51 => 215 | n => n, fun | 1 => 3 | n => n⟩
theorem Tryz.lays145 : Go.Proofs.Lays.n145 Tryz.prog Tryz.lays145_ren := {
  mixed := by kernel_rfl
  f145 := Tryz.func75.trans (congrArg some (by kernel_rfl))
  f217 := Tryz.func135.trans (congrArg some (by kernel_rfl))
  f219 := Tryz.func123.trans (congrArg some (by kernel_rfl))
  f220 := Tryz.func100.trans (congrArg some (by kernel_rfl))
  f224 := Tryz.func137.trans (congrArg some (by kernel_rfl))
  f225 := Tryz.func136.trans (congrArg some (by kernel_rfl))
  f266 := Tryz.func156.trans (congrArg some (by kernel_rfl))
  f267 := Tryz.func138.trans (congrArg some (by kernel_rfl))
  f314 := Tryz.func157.trans (congrArg some (by kernel_rfl))
  t3 := Tryz.underlying3
  a3 := Tryz.isAgg3
  z3 := Tryz.sizeOf3
  v3 := Tryz.zeroValue3
  t4 := Tryz.underlying4
  a4 := Tryz.isAgg4
  z4 := Tryz.sizeOf4
  v4 := Tryz.zeroValue4
  t5 := Tryz.underlying5
  a5 := Tryz.isAgg5
  z5 := Tryz.sizeOf5
  v5 := Tryz.zeroValue5
  t9 := Tryz.underlying9
  a9 := Tryz.isAgg9
  z9 := Tryz.sizeOf9
  v9 := Tryz.zeroValue9
  t46 := Tryz.underlying176
  a46 := Tryz.isAgg176
  z46 := Tryz.sizeOf176
  v46 := Tryz.zeroValue176
  t51 := Tryz.underlying215
  a51 := Tryz.isAgg215
  z51 := Tryz.sizeOf215
  v51 := Tryz.zeroValue215
  t59 := Tryz.underlying129
  a59 := Tryz.isAgg129
  z59 := Tryz.sizeOf129
  v59 := Tryz.zeroValue129
  t146 := Tryz.underlying222
  a146 := Tryz.isAgg222
  z146 := Tryz.sizeOf222
  v146 := Tryz.zeroValue222
  g1 := by kernel_rfl }
open Go.RowKit Go.Lib in
theorem Tryz.strings_Cut (s sep : ByteArray) (m : Int) (w : World) (hs : s.size < 4294967281) (hm : w.cell? ⟨3, 0, none⟩ = some (.int .i64 m)) :
    Calls Tryz.prog 75 #[.string s, .string sep] w fun e w' => e = .returned (.tuple #[.string ⟨(Lib.cut s.data.toList sep.data.toList).1.toArray⟩, .string ⟨(Lib.cut s.data.toList sep.data.toList).2.1.toArray⟩, .bool (Lib.cut s.data.toList sep.data.toList).2.2]) ∧ ∃ n, w' = w.drewN n := Any.strings_Cut Tryz.lays145 s sep m w hs hm
end Go.Proofs
namespace Go.Proofs.YthebfhdpofhmpaaGreatDoor
open Go.RowKit
theorem hid {p : Prop} (h : p) : Hid p := h
def Q (w w' : World) : Prop := Below w.heap.size w w'
theorem Q.refl (w : World) : Q w w := Below.refl _ _
theorem Q.trans {a b c : World} (h : Q a b) (k : Q b c) : Q a c := Below.trans h (Below.mono k h.size)
theorem Q.drew {a w : World} (h : Q a w) : Q a w.drew := Below.drew h
theorem Q.drewN {a w : World} (h : Q a w) (n : Nat) : Q a (w.drewN n) := Go.below_drewN h n
theorem Q.alloc {a w : World} (h : Q a w) (o : Obj) : Q a (w.alloc o) := Below.alloc h h.size o
theorem Q.cell {a w : World} (h : Q a w) {b o : Nat} (hb : b < a.heap.size) : w.cell? ⟨b, o, none⟩ = a.cell? ⟨b, o, none⟩ := Below.cell h hb
theorem Q.lt {a w : World} (h : Q a w) {b : Nat} (hb : b < a.heap.size) : b < w.heap.size := Nat.lt_of_lt_of_le hb h.size
theorem Q.setCell {a w : World} (h : Q a w) {b k : Nat} (hb : a.heap.size ≤ b) (v : Value) : Q a (w.setCell ⟨b, k, none⟩ v) := Below.setCell h hb v
def enL (e : Int) : List UInt8 :=
  if e = 1 then [35, 82, 69, 70, 33] else if e = 2 then [35, 67, 89, 67, 76, 69, 33] else if e = 3 then [35, 68, 73, 86, 47, 48, 33]
  else if e = 4 then [35, 78, 85, 77, 33] else if e = 5 then [35, 86, 65, 76, 85, 69, 33] else if e = 6 then [35, 78, 65, 77, 69, 63]
  else if e = 7 then [35, 78, 47, 65] else []
def Nam (w : World) : Prop := 0 < w.heap.size ∧ ∀ i : Nat, i < 8 → w.cell? ⟨0, i, none⟩ = some (.string ⟨(enL i).toArray⟩)
theorem Nam.on {w w' : World} (h : Nam w) (q : Q w w') : Nam w' := ⟨q.lt h.1, fun i hi => by rw [q.cell h.1]; exact h.2 i hi⟩
structure Std (w : World) : Prop where
  nam : Nam w
  utf : Lib.Utf8Tabs 1 2 w
  len : ∃ m : Int, w.cell? ⟨3, 0, none⟩ = some (.int .i64 m)
  big : 5 < w.heap.size
theorem Std.on {w w' : World} (h : Std w) (q : Q w w') : Std w' := by
  have hb := h.big
  refine ⟨h.nam.on q, Utf8Tabs_below h.utf q, ?_, q.lt h.big⟩
  obtain ⟨m, hm⟩ := h.len
  exact ⟨m, by rw [q.cell (by omega)]; exact hm⟩
theorem ret_int {k : IntKind} {a b : Int} (h : a = b) : Ending.returned (.int k a) = .returned (.int k b) := by rw [h]
theorem ret_bool {a b : Bool} (h : a = b) : Ending.returned (.bool a) = .returned (.bool b) := by rw [h]
theorem size_mk (l : List UInt8) : (⟨l.toArray⟩ : ByteArray).size = l.length := by simp [ByteArray.size]
theorem take_snoc (s : ByteArray) (k : Nat) (h : k < s.size) : s.data.toList.take (k + 1) = s.data.toList.take k ++ [s[k]] := by
  rw [List.take_succ_eq_append_getElem (by simpa using h)]; rfl
theorem take_all (s : ByteArray) (k : Nat) (h : s.size ≤ k) : s.data.toList.take k = s.data.toList :=
  List.take_of_length_le (by simpa using h)
theorem get_mem (s : ByteArray) (k : Nat) (h : k < s.size) : s[k] ∈ s.data.toList := by
  have : s[k] = s.data.toList[k]'(by simpa using h) := rfl
  rw [this]
  exact List.getElem_mem _
theorem len_data (s : ByteArray) : s.data.toList.length = s.size := by simp
theorem headD_get (s : ByteArray) (h : 0 < s.size) : s.data.toList.headD 0 = s[0] := by
  have h' : 0 < s.data.toList.length := by simpa using h
  have e : s[0] = s.data.toList[0]'h' := rfl
  rw [e, List.headD_eq_head?_getD, List.head?_eq_getElem?, List.getElem?_eq_getElem h']
  rfl
end Go.Proofs.YthebfhdpofhmpaaGreatDoor
namespace Go.Proofs.YthebfhdpofhmpaaGreatDoor.V
open Go.RowKit
theorem ret_int {k : IntKind} {a b : Int} (h : a = b) : Ending.returned (.int k a) = .returned (.int k b) := by rw [h]
def vv (k n : Int) (t : ByteArray) (b : Bool) (e : Int) : Value := .agg #[.int .i64 k, .int .i64 n, .string t, .bool b, .int .i64 e]
theorem vret_bool {a b : Bool} (h : a = b) : Ending.returned (.bool a) = .returned (.bool b) := by rw [h]
end Go.Proofs.YthebfhdpofhmpaaGreatDoor.V
namespace Go.Proofs
open Go.Shelf
def Tryz.lays196_ren : Go.Shelf.Ren := ⟨fun | 196 => 94 | 259 => 112 | n => n, fun | 9 => 9 | 4 => 4 | 3 => 3 | 5 => 5 | 12 => 12 | 119 => 172 | 0 => 0 | 46 => 176 | 139 => 175 | 138 => 174 | 53 => 199 | n => n, fun | 3 => 1 | 4 => 2 | n => n⟩
theorem Tryz.lays196 : Go.Proofs.Lays.n196 Tryz.prog Tryz.lays196_ren := {
  mixed := by kernel_rfl
  f196 := Tryz.func94.trans (congrArg some (by kernel_rfl))
  f259 := Tryz.func112.trans (congrArg some (by kernel_rfl))
  t0 := Tryz.underlying0
  a0 := Tryz.isAgg0
  z0 := Tryz.sizeOf0
  v0 := Tryz.zeroValue0
  t3 := Tryz.underlying3
  a3 := Tryz.isAgg3
  z3 := Tryz.sizeOf3
  v3 := Tryz.zeroValue3
  t4 := Tryz.underlying4
  a4 := Tryz.isAgg4
  z4 := Tryz.sizeOf4
  v4 := Tryz.zeroValue4
  t5 := Tryz.underlying5
  a5 := Tryz.isAgg5
  z5 := Tryz.sizeOf5
  v5 := Tryz.zeroValue5
  t9 := Tryz.underlying9
  a9 := Tryz.isAgg9
  z9 := Tryz.sizeOf9
  v9 := Tryz.zeroValue9
  t12 := Tryz.underlying12
  a12 := Tryz.isAgg12
  z12 := Tryz.sizeOf12
  v12 := Tryz.zeroValue12
  t46 := Tryz.underlying176
  a46 := Tryz.isAgg176
  z46 := Tryz.sizeOf176
  v46 := Tryz.zeroValue176
  t53 := Tryz.underlying199
  a53 := Tryz.isAgg199
  z53 := Tryz.sizeOf199
  v53 := Tryz.zeroValue199
  t119 := Tryz.underlying172
  a119 := Tryz.isAgg172
  z119 := Tryz.sizeOf172
  t138 := Tryz.underlying174
  a138 := Tryz.isAgg174
  z138 := Tryz.sizeOf174
  v138 := Tryz.zeroValue174
  t139 := Tryz.underlying175
  a139 := Tryz.isAgg175
  z139 := Tryz.sizeOf175
  v139 := Tryz.zeroValue175
  g3 := by kernel_rfl
  g4 := by kernel_rfl }
open Go.RowKit in
theorem Tryz.utf8_ValidString (s : ByteArray) (w : World) (hs : s.size ≤ 9223372036854775807) (hT : Lib.Utf8Tabs 1 2 w) :
    Calls Tryz.prog 94 #[.string s] w fun e w' => e = .returned (.bool (Lib.validD s.data.toList)) ∧ Below w.heap.size w w' := Any.utf8_ValidString Tryz.lays196 s w hs hT
end Go.Proofs
namespace Go.Proofs.YthebfhdpofhmpaaGreatDoor.V
open Go.RowKit
theorem vret_str {a b : List UInt8} (h : a = b) : Ending.returned (.string ⟨a.toArray⟩) = .returned (.string ⟨b.toArray⟩) := by rw [h]
theorem enL_no {e : Int} (h : e < 1 ∨ 7 < e) : [] = enL e := by
  unfold enL
  rw [if_neg (by omega), if_neg (by omega), if_neg (by omega), if_neg (by omega), if_neg (by omega), if_neg (by omega), if_neg (by omega)]
set_option maxHeartbeats 1000000 in
theorem name_any (e : Int) (w : World) (h : Nam w) : Calls Tryz.prog 69 #[.int .i64 e] w fun x w' => x = .returned (.string ⟨(enL e).toArray⟩) ∧ w' = w := by
  by_cases h0 : e < 0
  · have H := hid (enL_no (e := e) (by omega))
    go_enter Tryz.func69, Tryz.ntmps69
    go_wp2
    go_ret
    exact ⟨vret_str H.out, rfl⟩
  · by_cases h8 : 8 ≤ e
    · have H := hid (enL_no (e := e) (by omega))
      go_enter Tryz.func69, Tryz.ntmps69
      go_wp2
      go_ret
      exact ⟨vret_str H.out, rfl⟩
    · have c0 := h.2 0 (by omega)
      have c1 := h.2 1 (by omega)
      have c2 := h.2 2 (by omega)
      have c3 := h.2 3 (by omega)
      have c4 := h.2 4 (by omega)
      have c5 := h.2 5 (by omega)
      have c6 := h.2 6 (by omega)
      have c7 := h.2 7 (by omega)
      clear h
      rcases (by omega : e = 0 ∨ e = 1 ∨ e = 2 ∨ e = 3 ∨ e = 4 ∨ e = 5 ∨ e = 6 ∨ e = 7) with rfl | rfl | rfl | rfl | rfl | rfl | rfl | rfl
      all_goals
        clear h0 h8
        go_enter Tryz.func69, Tryz.ntmps69
        go_wp2
        go_ret
        exact ⟨rfl, rfl⟩
def mtB (l : List UInt8) : Bool := decide (l.length ≤ 200) && Lib.validD l
set_option maxHeartbeats 1000000 in
theorem mayText_any (s : ByteArray) (w : World) (h : Std w) (hs : (s.size : Int) ≤ 9223372036854775000) : Calls Tryz.prog 68 #[.string s] w fun x w' => x = .returned (.bool (mtB s.data.toList)) ∧ Q w w' := by
  have hl : s.data.toList.length = s.size := by simp
  by_cases h1 : (s.size : Int) ≤ 200
  · have H : Hid (Lib.validD s.data.toList = mtB s.data.toList) := by show _ = _; unfold mtB; rw [hl]; simp; omega
    have HC := hid (Tryz.utf8_ValidString s w (by omega) h.utf)
    clear hl
    go_enter Tryz.func68, Tryz.ntmps68
    go_wp2_with (go_at_call 94; refine HC.out.mono ?_; rintro e w1 ⟨rfl, q1⟩)
    go_ret
    exact ⟨vret_bool H.out, q1⟩
  · have H : Hid (false = mtB s.data.toList) := by show _ = _; unfold mtB; rw [hl]; simp; intro; omega
    clear hl
    go_enter Tryz.func68, Tryz.ntmps68
    go_wp2
    go_ret
    exact ⟨vret_bool H.out, Q.refl _⟩
end Go.Proofs.YthebfhdpofhmpaaGreatDoor.V
namespace Go.Proofs.YthebfhdpofhmpaaGreatDoor
open Go.RowKit
theorem numF_zero {l : List UInt8} {m : Nat} (h : l.headD 0 = 48) (h1 : 1 < l.length) : numF l m = false := by
  unfold numF
  rw [h, decide_eq_true h1]
  simp
theorem numF_nodig {l : List UInt8} {m : Nat} (h : allD l = false) : numF l m = false := by
  unfold numF
  rw [h]
  simp
theorem numF_great {l : List UInt8} {m : Nat} (h : m < val l) : numF l m = false := by
  unfold numF
  rw [decide_eq_false (show ¬ val l ≤ m by omega)]
  simp
theorem numF_yes {l : List UInt8} {m : Nat} (h0 : l ≠ []) (h1 : ¬ (l.headD 0 = 48 ∧ 1 < l.length)) (h2 : allD l = true) (h3 : val l ≤ m) : numF l m = true := by
  unfold numF
  rw [h2, decide_eq_true h3]
  have e0 : l.isEmpty = false := by cases l; exact absurd rfl h0; rfl
  have e1 : (l.headD 0 == 48 && decide (1 < l.length)) = false := by
    rw [Bool.and_eq_false_iff]
    by_cases h : l.headD 0 = 48
    · exact .inr (decide_eq_false fun g => h1 ⟨h, g⟩)
    · exact .inl (beq_eq_false_iff_ne.2 h)
  rw [e0, e1]
  rfl
theorem allD_no (s : ByteArray) (k : Nat) (h : k < s.size) (hd : dig s[k] = false) : allD s.data.toList = false := by
  unfold allD
  rw [List.all_eq_false]
  exact ⟨s[k], get_mem s k h, by simp [hd]⟩
theorem byte_ne {c : UInt8} {n : Nat} (hn : n < 256) (h : c ≠ UInt8.ofNat n) : ((c.toNat : Int) == (n : Int)) = false := by
  rw [beq_eq_false_iff_ne]
  intro e
  apply h
  apply UInt8.toNat_inj.1
  have : (UInt8.ofNat n).toNat = n % 256 := UInt8.toNat_ofNat'
  rw [this]
  omega
theorem ne_of_pos {s : ByteArray} (h : 0 < s.size) : s.data.toList ≠ [] := fun e => by
  have h1 := congrArg List.length e
  rw [len_data, List.length_nil] at h1
  omega
theorem toList_ne {s : ByteArray} (h : 0 < s.size) : (s.toList == []) = false := by
  rw [Lib.toList_data, beq_eq_false_iff_ne]
  exact ne_of_pos h
set_option maxHeartbeats 1000000 in
theorem number_any (s : ByteArray) (m : Nat) (M : Int) (w : World) (hM : Hid (M = (m : Int))) (M0 : 0 ≤ M) (M1 : M ≤ 2199023255552) (hs : s.size ≤ 9223372036854775807) :
    Calls Tryz.prog 76 #[.string s, .int .i64 M] w fun e w' => e = .returned (.tuple #[.int .i64 (numK s.data.toList m), .bool (numF s.data.toList m)]) ∧ w' = w := by
  have HF : ∀ b : Bool, numF s.data.toList m = b → Hid (numF s.data.toList m = b ∧ numK s.data.toList m = if b then (val s.data.toList : Int) else 0) := by
    intro b e
    exact ⟨e, by unfold numK; rw [e]⟩
  have et := hid (Lib.toList_data s)
  by_cases h0 : s.size = 0
  · have e0 : s.toList = [] := by rw [Lib.toList_data]; exact List.eq_nil_of_length_eq_zero (by rw [len_data]; exact h0)
    have hF := HF false (by rw [← et.out, e0]; rfl)
    clear h0
    go_enter Tryz.func76, Tryz.ntmps76
    go_wp2
    go_ret2
    exact ⟨by rw [hF.out.1, hF.out.2]; rfl, rfl⟩
  · have hp : 0 < s.size := by omega
    have e0 := toList_ne hp
    have hh := hid (headD_get s hp)
    by_cases hz : s[0] = 48 ∧ 1 < s.size
    · have hF := HF false (numF_zero (by rw [hh.out]; exact hz.1) (by rw [len_data]; exact hz.2))
      have hc : (s[0].toNat : Int) = 48 := by rw [hz.1]; rfl
      have h1 := hz.2
      clear hz h0
      go_enter Tryz.func76, Tryz.ntmps76
      go_wp2
      go_ret2
      exact ⟨by rw [hF.out.1, hF.out.2]; rfl, rfl⟩
    · have HZ : Hid (¬ (s.data.toList.headD 0 = 48 ∧ 1 < s.data.toList.length)) := by
        show ¬ _
        rw [hh.out, len_data]
        exact hz
      have hc : ((s[0].toNat : Int) == 48) = false ∨ ((s[0].toNat : Int) = 48 ∧ ¬ 1 < (s.size : Int)) := by
        by_cases h : s[0] = 48
        · exact .inr ⟨by rw [h]; rfl, fun g => hz ⟨h, by omega⟩⟩
        · exact .inl (byte_ne (n := 48) (by omega) h)
      clear hz h0
      rcases hc with hc | ⟨hc, h1⟩
      · go_enter Tryz.func76, Tryz.ntmps76
        go_wp2
        go_loop [6, 22] (fun a i => ∃ (k : Nat) (n : Int), k ≤ s.size ∧ i = .int .i64 k ∧ a = .int .i64 n ∧ 0 ≤ n ∧ n ≤ M ∧ Hid (allD (s.data.toList.take k) = true ∧ n = (val (s.data.toList.take k) : Int))) (fun _ i => s.size - (intOf i).toNat)
        case atStart => exact ⟨0, 0, Nat.zero_le _, rfl, rfl, by omega, by omega, rfl, rfl⟩
        case round =>
          obtain ⟨k, n, hk, rfl, rfl, n0, n1, hn⟩ := hrel
          by_cases hlt : k < s.size
          · by_cases hd : dig s[k] = true
            · have b0 : 48 ≤ (s[k].toNat : Int) := by unfold dig at hd; simp at hd; omega
              have b1 : (s[k].toNat : Int) ≤ 57 := by unfold dig at hd; simp at hd; omega
              have hv : Hid (allD (s.data.toList.take (k + 1)) = true ∧ (val (s.data.toList.take (k + 1)) : Int) = n * 10 + ((s[k].toNat : Int) - 48)) := by
                have := hn.out
                refine ⟨?_, ?_⟩
                · rw [take_snoc s k hlt, allD_app, this.1]
                  unfold allD
                  simp [hd]
                · rw [take_snoc s k hlt, val_snoc, this.2]
                  omega
              clear hd
              by_cases hb : M < n * 10 + ((s[k].toNat : Int) - 48)
              · have hF := HF false (numF_great (by
                  have h1 := val_ge (s.data.toList.take (k + 1)) (s.data.toList.drop (k + 1))
                  rw [List.take_append_drop] at h1
                  have h2 := hv.out.2
                  have h3 := hM.out
                  omega))
                go_wp2
                go_ret2
                exact ⟨by rw [hF.out.1, hF.out.2]; rfl, rfl⟩
              · go_wp2
                go_round
                case rel => exact ⟨k + 1, n * 10 + ((s[k].toNat : Int) - 48), by omega, by go_num, rfl, by omega, by omega, hv.out.1, hv.out.2.symm⟩
                case measure => simp [intOf]; omega
            · have hF := HF false (numF_nodig (allD_no s k hlt (by simpa using hd)))
              by_cases b0 : (s[k].toNat : Int) < 48
              · clear hd
                go_wp2
                go_ret2
                exact ⟨by rw [hF.out.1, hF.out.2]; rfl, rfl⟩
              · have b1 : 57 < (s[k].toNat : Int) := by unfold dig at hd; simp at hd; omega
                clear hd
                go_wp2
                go_ret2
                exact ⟨by rw [hF.out.1, hF.out.2]; rfl, rfl⟩
          · have hN : Hid (allD s.data.toList = true ∧ n = (val s.data.toList : Int)) := by have := hn.out; rw [take_all s k (by omega)] at this; exact this
            have hF := HF true (numF_yes (ne_of_pos hp) HZ.out hN.out.1 (by have := hN.out.2; have := hM.out; omega))
            go_wp2
            go_ret2
            exact ⟨by rw [hF.out.1, hF.out.2, hN.out.2]; rfl, rfl⟩
      · go_enter Tryz.func76, Tryz.ntmps76
        go_wp2
        go_loop [6, 22] (fun a i => ∃ (k : Nat) (n : Int), k ≤ s.size ∧ i = .int .i64 k ∧ a = .int .i64 n ∧ 0 ≤ n ∧ n ≤ M ∧ Hid (allD (s.data.toList.take k) = true ∧ n = (val (s.data.toList.take k) : Int))) (fun _ i => s.size - (intOf i).toNat)
        case atStart => exact ⟨0, 0, Nat.zero_le _, rfl, rfl, by omega, by omega, rfl, rfl⟩
        case round =>
          obtain ⟨k, n, hk, rfl, rfl, n0, n1, hn⟩ := hrel
          by_cases hlt : k < s.size
          · by_cases hd : dig s[k] = true
            · have b0 : 48 ≤ (s[k].toNat : Int) := by unfold dig at hd; simp at hd; omega
              have b1 : (s[k].toNat : Int) ≤ 57 := by unfold dig at hd; simp at hd; omega
              have hv : Hid (allD (s.data.toList.take (k + 1)) = true ∧ (val (s.data.toList.take (k + 1)) : Int) = n * 10 + ((s[k].toNat : Int) - 48)) := by
                have := hn.out
                refine ⟨?_, ?_⟩
                · rw [take_snoc s k hlt, allD_app, this.1]
                  unfold allD
                  simp [hd]
                · rw [take_snoc s k hlt, val_snoc, this.2]
                  omega
              clear hd
              by_cases hb : M < n * 10 + ((s[k].toNat : Int) - 48)
              · have hF := HF false (numF_great (by
                  have h1 := val_ge (s.data.toList.take (k + 1)) (s.data.toList.drop (k + 1))
                  rw [List.take_append_drop] at h1
                  have h2 := hv.out.2
                  have h3 := hM.out
                  omega))
                go_wp2
                go_ret2
                exact ⟨by rw [hF.out.1, hF.out.2]; rfl, rfl⟩
              · go_wp2
                go_round
                case rel => exact ⟨k + 1, n * 10 + ((s[k].toNat : Int) - 48), by omega, by go_num, rfl, by omega, by omega, hv.out.1, hv.out.2.symm⟩
                case measure => simp [intOf]; omega
            · have hF := HF false (numF_nodig (allD_no s k hlt (by simpa using hd)))
              by_cases b0 : (s[k].toNat : Int) < 48
              · clear hd
                go_wp2
                go_ret2
                exact ⟨by rw [hF.out.1, hF.out.2]; rfl, rfl⟩
              · have b1 : 57 < (s[k].toNat : Int) := by unfold dig at hd; simp at hd; omega
                clear hd
                go_wp2
                go_ret2
                exact ⟨by rw [hF.out.1, hF.out.2]; rfl, rfl⟩
          · have hN : Hid (allD s.data.toList = true ∧ n = (val s.data.toList : Int)) := by have := hn.out; rw [take_all s k (by omega)] at this; exact this
            have hF := HF true (numF_yes (ne_of_pos hp) HZ.out hN.out.1 (by have := hN.out.2; have := hM.out; omega))
            go_wp2
            go_ret2
            exact ⟨by rw [hF.out.1, hF.out.2, hN.out.2]; rfl, rfl⟩
set_option maxHeartbeats 1000000 in
theorem owner_any (s : ByteArray) (w : World) (hw : Std w) (hs : s.size < 4294967281) :
    Calls Tryz.prog 53 #[.string s] w fun e w' => e = .returned (.int .i64 (ownK s.data.toList)) ∧ Q w w' := by
  have hl := Lib.trimPrefix_le s.data.toList [99]
  rw [len_data] at hl
  have HO : Hid (ownK s.data.toList = if Lib.hasPrefix s.data.toList [99] then ownP (Lib.cut (Lib.trimPrefix s.data.toList [99]) [110]) else -1) := rfl
  have HP : Hid (∀ W, Calls Tryz.prog 74 #[.string s, .string ⟨#[99]⟩] W fun e w' => e = .returned (.tuple #[.string ⟨(Lib.trimPrefix s.data.toList [99]).toArray⟩, .bool (Lib.hasPrefix s.data.toList [99])]) ∧ w' = W) := fun W => Tryz.strings_CutPrefix s ⟨#[99]⟩ W
  generalize Lib.trimPrefix s.data.toList [99] = t at *
  generalize Lib.hasPrefix s.data.toList [99] = ng at *
  have HC : Hid (∀ W, Q w W → Calls Tryz.prog 75 #[.string ⟨t.toArray⟩, .string ⟨#[110]⟩] W fun e w' => e = .returned (.tuple #[.string ⟨(Lib.cut t [110]).1.toArray⟩, .string ⟨(Lib.cut t [110]).2.1.toArray⟩, .bool (Lib.cut t [110]).2.2]) ∧ ∃ n, w' = W.drewN n) := by
    intro W q
    obtain ⟨m, hm⟩ := (hw.on q).len
    exact Tryz.strings_Cut ⟨t.toArray⟩ ⟨#[110]⟩ m W (by rw [size_mk]; omega) hm
  have hcl := cut_le 110 t
  generalize Lib.cut t [110] = p at *
  obtain ⟨a, b, f⟩ := p
  simp only at HC hcl
  have HA := hid (fun W => number_any ⟨a.toArray⟩ 15 15 W rfl (by omega) (by omega) (by rw [size_mk]; omega))
  have HB := hid (fun W => number_any ⟨b.toArray⟩ 999999 999999 W rfl (by omega) (by omega) (by rw [size_mk]; omega))
  simp only at HA HB
  unfold numK at HA HB
  generalize (⟨a.toArray⟩ : ByteArray) = A at *
  generalize (⟨b.toArray⟩ : ByteArray) = B at *
  generalize (⟨t.toArray⟩ : ByteArray) = T at *
  unfold ownP at HO
  simp only at HO
  generalize numF a 15 = fa at *
  generalize numF b 999999 = fb at *
  generalize ((val a : Nat) : Int) = va at *
  generalize ((val b : Nat) : Int) = vb at *
  clear hs hcl hl hw
  rcases ng with _ | _
  · go_enter Tryz.func53, Tryz.ntmps53
    go_wp2_with (first | (go_at_call 74; refine (HP.out _).mono ?_; rintro e w1 ⟨rfl, rfl⟩) | (go_at_call 75; refine (HC.out _ (Q.refl _)).mono ?_; rintro e w2 ⟨rfl, nn, rfl⟩) | (go_at_call_of 76 A; refine (HA.out _).mono ?_; rintro e w3 ⟨rfl, rfl⟩) | (go_at_call_of 76 B; refine (HB.out _).mono ?_; rintro e w4 ⟨rfl, rfl⟩))
    go_ret
    exact ⟨ret_int (by rw [HO.out]; rfl), Q.refl _⟩
  rcases f with _ | _
  · go_enter Tryz.func53, Tryz.ntmps53
    go_wp2_with (first | (go_at_call 74; refine (HP.out _).mono ?_; rintro e w1 ⟨rfl, rfl⟩) | (go_at_call 75; refine (HC.out _ (Q.refl _)).mono ?_; rintro e w2 ⟨rfl, nn, rfl⟩) | (go_at_call_of 76 A; refine (HA.out _).mono ?_; rintro e w3 ⟨rfl, rfl⟩) | (go_at_call_of 76 B; refine (HB.out _).mono ?_; rintro e w4 ⟨rfl, rfl⟩))
    go_ret
    exact ⟨ret_int (by rw [HO.out]; rfl), (Q.refl _).drewN _⟩
  rcases fa with _ | _ <;> rcases fb with _ | _
  · go_enter Tryz.func53, Tryz.ntmps53
    go_wp2_with (first | (go_at_call 74; refine (HP.out _).mono ?_; rintro e w1 ⟨rfl, rfl⟩) | (go_at_call 75; refine (HC.out _ (Q.refl _)).mono ?_; rintro e w2 ⟨rfl, nn, rfl⟩) | (go_at_call_of 76 A; refine (HA.out _).mono ?_; rintro e w3 ⟨rfl, rfl⟩) | (go_at_call_of 76 B; refine (HB.out _).mono ?_; rintro e w4 ⟨rfl, rfl⟩))
    go_ret
    exact ⟨ret_int (by rw [HO.out]; rfl), (Q.refl _).drewN _⟩
  · go_enter Tryz.func53, Tryz.ntmps53
    go_wp2_with (first | (go_at_call 74; refine (HP.out _).mono ?_; rintro e w1 ⟨rfl, rfl⟩) | (go_at_call 75; refine (HC.out _ (Q.refl _)).mono ?_; rintro e w2 ⟨rfl, nn, rfl⟩) | (go_at_call_of 76 A; refine (HA.out _).mono ?_; rintro e w3 ⟨rfl, rfl⟩) | (go_at_call_of 76 B; refine (HB.out _).mono ?_; rintro e w4 ⟨rfl, rfl⟩))
    go_ret
    exact ⟨ret_int (by rw [HO.out]; rfl), (Q.refl _).drewN _⟩
  · go_enter Tryz.func53, Tryz.ntmps53
    go_wp2_with (first | (go_at_call 74; refine (HP.out _).mono ?_; rintro e w1 ⟨rfl, rfl⟩) | (go_at_call 75; refine (HC.out _ (Q.refl _)).mono ?_; rintro e w2 ⟨rfl, nn, rfl⟩) | (go_at_call_of 76 A; refine (HA.out _).mono ?_; rintro e w3 ⟨rfl, rfl⟩) | (go_at_call_of 76 B; refine (HB.out _).mono ?_; rintro e w4 ⟨rfl, rfl⟩))
    go_ret
    exact ⟨ret_int (by rw [HO.out]; rfl), (Q.refl _).drewN _⟩
  · go_enter Tryz.func53, Tryz.ntmps53
    go_wp2_with (first | (go_at_call 74; refine (HP.out _).mono ?_; rintro e w1 ⟨rfl, rfl⟩) | (go_at_call 75; refine (HC.out _ (Q.refl _)).mono ?_; rintro e w2 ⟨rfl, nn, rfl⟩) | (go_at_call_of 76 A; refine (HA.out _).mono ?_; rintro e w3 ⟨rfl, rfl⟩) | (go_at_call_of 76 B; refine (HB.out _).mono ?_; rintro e w4 ⟨rfl, rfl⟩))
    go_ret
    exact ⟨ret_int (by rw [HO.out]; rfl), (Q.refl _).drewN _⟩
def idB (l : List UInt8) : Bool := decide (0 ≤ ownK l)
theorem id_any (s : ByteArray) (w : World) (hw : Std w) (hs : s.size < 4294967281) :
    Calls Tryz.prog 34 #[.string s] w fun e w' => e = .returned (.bool (idB s.data.toList)) ∧ Q w w' := by
  have HO := hid (owner_any s w hw hs)
  have HI : Hid (idB s.data.toList = decide (0 ≤ ownK s.data.toList)) := rfl
  generalize ownK s.data.toList = K at *
  clear hw hs
  go_enter Tryz.func34, Tryz.ntmps34
  go_wp2_with (go_at_call 53; refine HO.out.mono ?_; rintro e w1 ⟨rfl, q1⟩)
  go_ret
  exact ⟨ret_bool HI.out.symm, q1⟩
end Go.Proofs.YthebfhdpofhmpaaGreatDoor
namespace Go.Proofs.YthebfhdpofhmpaaGreatDoor.V
open Go.RowKit
theorem ret_bool {a b : Bool} (h : a = b) : Ending.returned (.bool a) = .returned (.bool b) := by rw [h]
end Go.Proofs.YthebfhdpofhmpaaGreatDoor.V
namespace Go.Proofs.YthebfhdpofhmpaaGreatDoor
abbrev Rf := List UInt8 × Int × Int × Bool × Bool
structure Ex where
  mk ::
  (k n : Int) (t : List UInt8) (b : Bool) (e : Int) (rs : List Rf) (ks : List Ex)
def zeroE : Ex := .mk 0 0 [] false 0 [] []
def nodes : Ex → Nat
  | .mk _ _ _ _ _ _ ks => 1 + nodesL ks
  where
  nodesL : List Ex → Nat
  | [] => 0
  | x :: xs => nodes x + nodesL xs
end Go.Proofs.YthebfhdpofhmpaaGreatDoor
namespace Go.Proofs.YthebfhdpofhmpaaGreatDoor.V
open Go.RowKit
theorem Q.setCell {a w : World} (h : Q a w) {b k : Nat} (hb : a.heap.size ≤ b) (v : Value) : Q a (w.setCell ⟨b, k, none⟩ v) := Below.setCell h hb v
end Go.Proofs.YthebfhdpofhmpaaGreatDoor.V
namespace Go.Proofs
open Go.Shelf
def Tryz.laysM316_ren : Go.Shelf.Ren := ⟨fun | 316 => 40 | n => n, fun | 9 => 9 | 3 => 3 | 4 => 4 | 37 => 101 | 0 => 0 | 127 => 102 | 5 => 5 | n => n, fun | n => n⟩
theorem Tryz.laysM316 : Go.Proofs.LaysM.n316 Tryz.prog Tryz.laysM316_ren := {
  mixed := by kernel_rfl
  f316 := Tryz.func40.trans (congrArg some (by kernel_rfl))
  t0 := Tryz.underlying0
  a0 := Tryz.isAgg0
  z0 := Tryz.sizeOf0
  v0 := Tryz.zeroValue0
  t3 := Tryz.underlying3
  a3 := Tryz.isAgg3
  z3 := Tryz.sizeOf3
  v3 := Tryz.zeroValue3
  t4 := Tryz.underlying4
  a4 := Tryz.isAgg4
  z4 := Tryz.sizeOf4
  v4 := Tryz.zeroValue4
  t9 := Tryz.underlying9
  a9 := Tryz.isAgg9
  z9 := Tryz.sizeOf9
  v9 := Tryz.zeroValue9
  t37 := Tryz.underlying101
  a37 := Tryz.isAgg101
  z37 := Tryz.sizeOf101
  v37 := Tryz.zeroValue101
  t127 := Tryz.underlying102
  a127 := Tryz.isAgg102
  z127 := Tryz.sizeOf102
  v127 := Tryz.zeroValue102
  t5 := Tryz.underlying5
  a5 := Tryz.isAgg5
  z5 := Tryz.sizeOf5
  v5 := Tryz.zeroValue5
  i0 := by kernel_rfl
  i3 := by kernel_rfl
  i4 := by kernel_rfl
  i5 := by kernel_rfl
  i9 := by kernel_rfl
  i37 := by kernel_rfl
  i127 := by kernel_rfl }
open Go.RowKit in
theorem Tryz.stringslite_Clone (s : ByteArray) (w : World) (hlim : s.size ≤ 281474976710656) :
    Calls Tryz.prog 40 #[.string s] w fun e w' => e = .returned (.string s) ∧ Below w.heap.size w w' := Any.stringslite_Clone Tryz.laysM316 s w hlim
end Go.Proofs
namespace Go.Proofs.YthebfhdpofhmpaaGreatDoor
open Go.RowKit
theorem clone_any (s : ByteArray) (w : World) (hs : s.size ≤ 281474976710656) :
    Calls Tryz.prog 25 #[.string s] w fun e w' => e = .returned (.string s) ∧ Q w w' := by
  have HC := hid (fun W => Tryz.stringslite_Clone s W hs)
  clear hs
  go_enter Tryz.func25, Tryz.ntmps25
  go_wp2_with (go_at_call 40; refine (HC.out _).mono ?_; rintro e w1 ⟨rfl, q1⟩)
  go_ret
  exact ⟨rfl, q1⟩
structure Cq (W : World) (q : Nat) (cs : List Value) : Prop where
  h : W.heap[q]? = some (.cells cs.toArray 40 (0, 0))
theorem Cq.c {W : World} {q : Nat} {cs : List Value} (h : Cq W q cs) (j : Nat) (u : Value) (hu : cs[j]? = some u) : W.cell? ⟨q, j, none⟩ = some u := by
  rw [cell_of_row W q j _ _ _ h.h]
  simpa using hu
theorem Cq.f {W : World} {q : Nat} {cs : List Value} (h : Cq W q cs) (j : Nat) : W.frozen? ⟨q, j, none⟩ = false := frozen_of_row W q j _ _ h.h
theorem Cq.l {W : World} {q : Nat} {cs : List Value} (h : Cq W q cs) : q < W.heap.size := (Array.getElem?_eq_some_iff.1 h.h).1
theorem Cq.on {W W' : World} {q : Nat} {cs : List Value} (h : Cq W q cs) (x : Q W W') : Cq W' q cs := ⟨(Below.block x q h.l).trans h.h⟩
theorem cq_new (W : World) (cs : List Value) : Cq (W.alloc (.cells cs.toArray 40)) W.heap.size cs := ⟨heap_alloc_last W _⟩
theorem Cq.put {W : World} {q : Nat} {cs : List Value} (h : Cq W q cs) (j : Nat) (d : Value) : Cq (W.setCell ⟨q, j, none⟩ d) q (cs.set j d) := by
  refine ⟨?_⟩
  rw [setCell_eq_setRow W q j _ _ _ d h.h, setRow_heap W q _ _ _ _ h.h]
  congr 2
  simp
theorem Cq.oth {W : World} {q p : Nat} {cs : List Value} (h : Cq W q cs) (hp : q ≠ p) (j : Nat) (d : Value) : Cq (W.setCell ⟨p, j, none⟩ d) q cs :=
  ⟨(heap_setCell_other W _ q d hp).trans h.h⟩
theorem info35 : (Tryz.prog.info? 40).map (·.size) = some 23 := by kernel_rfl
theorem step_store_row {w : World} {ops : Array Oper} {o : Oper} {a : Act} {K : Act → World → Prop} {Q : Exit → Act → World → Prop} {E : Prop} (hgd : o.guard = none) (ty : TypeId) (x y : Operand) (ho : o.op = .store ty x y)
    (g : Nat) (cells : Array Value) (hx : a.eval x = .pointer (some ⟨g, 0, none⟩)) (hy : a.eval y = .agg cells)
    (t : TypeId) (old : Array Value) (hg : w.heap[g]? = some (.cells old t (0, 0))) (hi : (Tryz.prog.info? ty).map (·.size) = some cells.size)
    (hold : old.size = cells.size) (h1 : cells.all (·.oneCell') = true)
    (h : K (a.put o.dst undef) (w.setRow g cells)) : if Region.wanted o (yielded ops a.tmps) = true then Oper.wp Tryz.prog o a w K Q else E := by
  have hw : Region.wanted o (yielded ops a.tmps) = true := by simp [Region.wanted, hgd]
  rw [if_pos hw]
  exact wp_store_row ty x y ho g cells hx hy t old hg hi hold h1 h
theorem step_load_row {w : World} {ops : Array Oper} {o : Oper} {a : Act} {K : Act → World → Prop} {Q : Exit → Act → World → Prop} {E : Prop} (hgd : o.guard = none) (x : Operand) (ho : o.op = .load 40 x)
    (g : Nat) (hx : a.eval x = .pointer (some ⟨g, 0, none⟩)) (cs : List Value) (hg : Cq w g cs) (hi : cs.length = 23)
    (h : K (a.put o.dst (.agg cs.toArray)) w) : if Region.wanted o (yielded ops a.tmps) = true then Oper.wp Tryz.prog o a w K Q else E := by
  have hw : Region.wanted o (yielded ops a.tmps) = true := by simp [Region.wanted, hgd]
  rw [if_pos hw]
  exact wp_load_row 40 x ho g hx 40 cs.toArray (0, 0) _ hg.h Tryz.underlying40 rfl (info35.trans (by simp [hi])) h
theorem wpl_loadg {w : World} {ops : Array Oper} {rest : List Oper} {o : Oper} {a : Act} {Q : Exit → Act → World → Prop} (x : Operand) (ho : o.op = .load 40 x) (hw : Region.wanted o (yielded ops a.tmps) = true)
    (g : Nat) (hx : a.eval x = .pointer (some ⟨g, 0, none⟩)) (cs : List Value) (hg : Cq w g cs) (hi : cs.length = 23)
    (h : wpList Tryz.prog ops Q rest (a.put o.dst (.agg cs.toArray)) w) : wpList Tryz.prog ops Q (o :: rest) a w := by
  simp only [wpList, hw, if_true]
  exact .inl (wp_load_row 40 x ho g hx 40 cs.toArray (0, 0) _ hg.h Tryz.underlying40 rfl (info35.trans (by simp [hi])) h)
theorem wpl_buildg {w : World} {ops : Array Oper} {rest : List Oper} {o : Oper} {a : Act} {Q : Exit → Act → World → Prop} (parts : Array (Nat × Operand)) (ho : o.op = .build 40 parts) (hw : Region.wanted o (yielded ops a.tmps) = true)
    (cs : Array Value) (hf : Tryz.prog.built 40 (parts.map fun (i, x) => (i, a.eval x)).toList = some cs)
    (h : wpList Tryz.prog ops Q rest (a.put o.dst (.agg cs)) w) : wpList Tryz.prog ops Q (o :: rest) a w := by
  simp only [wpList, hw, if_true]
  exact .inl (wp_build 40 parts ho (by rw [hf]; rfl) (by rw [hf]; exact h))
theorem there_cq {W : World} {q : Nat} {cs : List Value} (h : Cq W q cs) (o n : Nat) (hl : o + n ≤ cs.length) : W.there q o n := fun j hj =>
  ⟨by rw [h.c (o + j) _ (List.getElem?_eq_getElem (by omega))]; rfl, h.f _⟩
theorem info30 : (Tryz.prog.info? 37).map (·.size) = some 13 := by kernel_rfl
theorem wpl_buildt {w : World} {ops : Array Oper} {rest : List Oper} {o : Oper} {a : Act} {Q : Exit → Act → World → Prop} (t : TypeId) (parts : Array (Nat × Operand)) (ho : o.op = .build t parts) (hw : Region.wanted o (yielded ops a.tmps) = true)
    (cs : Array Value) (hf : Tryz.prog.built t (parts.map fun (i, x) => (i, a.eval x)).toList = some cs)
    (h : wpList Tryz.prog ops Q rest (a.put o.dst (.agg cs)) w) : wpList Tryz.prog ops Q (o :: rest) a w := by
  simp only [wpList, hw, if_true]
  exact .inl (wp_build t parts ho (by rw [hf]; rfl) (by rw [hf]; exact h))
theorem Q.cells {a : World} {b : Nat} (hb : a.heap.size ≤ b) : ∀ (vs : List Value) (o : Nat) {w : World}, Q a w → Q a (w.setCells b o vs)
  | [], _, _, h => h
  | v :: r, o, w, h => Q.cells hb r (o + 1) (Q.setCell h hb v)
def setL (cs : List Value) : Nat → List Value → List Value
  | _, [] => cs
  | o, v :: r => setL (cs.set o v) (o + 1) r
theorem Cq.cells {q : Nat} : ∀ (vs : List Value) (o : Nat) {W : World} {cs : List Value}, Cq W q cs → Cq (W.setCells q o vs) q (setL cs o vs)
  | [], _, _, _, h => h
  | v :: r, o, _, _, h => Cq.cells r (o + 1) (h.put o v)
theorem Cq.othcells {q p : Nat} (hp : q ≠ p) : ∀ (vs : List Value) (o : Nat) {W : World} {cs : List Value}, Cq W q cs → Cq (W.setCells p o vs) q cs
  | [], _, _, _, h => h
  | v :: r, o, _, _, h => Cq.othcells hp r (o + 1) (h.oth hp o v)
theorem set_new (W : World) (c c' : Array Value) (t : TypeId) : ((W.alloc (.cells c t)).drew).setRow W.heap.size c' = (W.alloc (.cells c' t)).drew := by
  rw [← World.setRow_alloc_new W c c' t]
  rfl
theorem two {A F : Prop} (h : F → A) (hf : F) : A := h hf
set_option maxHeartbeats 8000000 in
theorem om2 (k : Int) (sh : ByteArray) (x2 x3 x4 x5 x6 x7 x8 x9 x10 x11 x12 x13 x14 x15 x16 x17 x18 x19 x20 x21 x22 : Value) (w : World) (p1 : Bool) (ib eb : Bool) (k0 : (k == 1) = false) (k1 : (k == 2) = true) (H0 : Hid ((#[.int .i64 k, .string sh, x2, x3, x4, x5, x6, x7, x8, x9, x10, x11, x12, x13, x14, x15, x16, x17, x18, x19, x20, x21, x22] : Array Value).all (·.oneCell') = true)) (H1 : Hid (∀ V, Q w V → Calls Tryz.prog 30 #[.agg #[x17, x18, x19]] V fun e V' => e = .returned (.bool p1) ∧ Q V V')) (HI : Hid (∀ V, Q w V → Calls Tryz.prog 34 #[.string sh] V fun e V' => e = .returned (.bool ib) ∧ Q V V')) (HE : Hid (∀ V, Q w V → Calls Tryz.prog 35 #[.agg #[.int .i64 k, .string sh, x2, x3, x4, x5, x6, x7, x8, x9, x10, x11, x12, x13, x14, x15, x16, .int .i64 0, .int .i64 0, .int .i64 0, x20, x21, x22], .agg #[.int .i64 k, .string sh, .int .i64 0, .int .i64 0, .bool false, .int .i64 0, .int .i64 0, .string ⟨#[]⟩, .bool false, .int .i64 0, .int .i64 0, .int .i64 0, .string ⟨#[]⟩, .bool false, .int .i64 0, .slice none 0 0, .slice none 0 0, .int .i64 0, .int .i64 0, .int .i64 0, .slice none 0 0, .int .i64 0, .string ⟨#[]⟩]] V fun e V' => e = .returned (.bool eb) ∧ Q V V')) : Calls Tryz.prog 22 #[.agg #[.int .i64 k, .string sh, x2, x3, x4, x5, x6, x7, x8, x9, x10, x11, x12, x13, x14, x15, x16, x17, x18, x19, x20, x21, x22]] w fun e V' => e = .returned (.bool (p1 && (ib && eb))) ∧ Q w V' := by
  go_enter Tryz.func22, Tryz.ntmps22
  go_upto_region 1 with fail
  have Z1 := hid (cq_new w [.int .i64 k, .string sh, x2, x3, x4, x5, x6, x7, x8, x9, x10, x11, x12, x13, x14, x15, x16, x17, x18, x19, x20, x21, x22])
  rw [show ([.int .i64 k, .string sh, x2, x3, x4, x5, x6, x7, x8, x9, x10, x11, x12, x13, x14, x15, x16, x17, x18, x19, x20, x21, x22] : List Value).toArray = #[.int .i64 k, .string sh, x2, x3, x4, x5, x6, x7, x8, x9, x10, x11, x12, x13, x14, x15, x16, x17, x18, x19, x20, x21, x22] from rfl] at Z1
  have QA : Hid (Q w (w.alloc (.cells #[.int .i64 k, .string sh, x2, x3, x4, x5, x6, x7, x8, x9, x10, x11, x12, x13, x14, x15, x16, x17, x18, x19, x20, x21, x22] 40))) := hid ((Q.refl w).alloc _)
  generalize w.alloc (.cells #[.int .i64 k, .string sh, x2, x3, x4, x5, x6, x7, x8, x9, x10, x11, x12, x13, x14, x15, x16, x17, x18, x19, x20, x21, x22] 40) = w1 at Z1 QA ⊢
  generalize w.heap.size = b0 at Z1 ⊢
  refine two (F := ?F) (fun HF => ?both) ?rest
  case both =>
    refine wp_region_any (by kernel_rfl) ?_
    change wpAny _ _ _ _ _ _ _ (World.drew _)
    refine wpAny_ready (rs := [0, 1]) (by kernel_rfl) (by simp) ?_
    refine AllReady.cons rfl (fun K hK => ?_) (AllReady.cons rfl (fun K hK => ?_) AllReady.nil)
    · refine step_load_row (by rfl) _ (by rfl) b0 (by rfl) [.int .i64 k, .string sh, x2, x3, x4, x5, x6, x7, x8, x9, x10, x11, x12, x13, x14, x15, x16, x17, x18, x19, x20, x21, x22] (Z1.out.on (Q.refl _).drew) (by rfl) (hK _ _ ?_)
      clear hK K
      refine wpAny_ready (rs := [1]) (by kernel_rfl) (by simp) ?_
      refine AllReady.cons rfl (fun K hK => ?_) AllReady.nil
      go_simp
      refine hK _ _ ?_
      clear hK K
      refine wpAny_ready (rs := [2]) (by kernel_rfl) (by simp) ?_
      refine AllReady.cons rfl (fun K hK => ?_) AllReady.nil
      go_simp
      refine hK _ _ ?_
      clear hK K
      refine wpAny_ready (rs := [3]) (by kernel_rfl) (by simp) ?_
      refine AllReady.cons rfl (fun K hK => ?_) AllReady.nil
      refine step_store_row (by rfl) 40 _ _ (by rfl) w1.heap.size #[.int .i64 k, .string sh, x2, x3, x4, x5, x6, x7, x8, x9, x10, x11, x12, x13, x14, x15, x16, x17, x18, x19, x20, x21, x22] (by rfl) (by rfl) 40 #[.int .i64 0, .string ⟨#[]⟩, .int .i64 0, .int .i64 0, .bool false, .int .i64 0, .int .i64 0, .string ⟨#[]⟩, .bool false, .int .i64 0, .int .i64 0, .int .i64 0, .string ⟨#[]⟩, .bool false, .int .i64 0, .slice none 0 0, .slice none 0 0, .int .i64 0, .int .i64 0, .int .i64 0, .slice none 0 0, .int .i64 0, .string ⟨#[]⟩] (heap_alloc_last w1 _) info35 (by rfl) H0.out (hK _ _ ?_)
      clear hK K
      refine wpAny_done (by kernel_rfl) ?_ _
      rw [set_new]
      exact HF
    · go_simp
      refine hK _ _ ?_
      clear hK K
      refine wpAny_ready (rs := [0, 2]) (by kernel_rfl) (by simp) ?_
      refine AllReady.cons rfl (fun K hK => ?_) (AllReady.cons rfl (fun K hK => ?_) AllReady.nil)
      · refine step_load_row (by rfl) _ (by rfl) b0 (by rfl) [.int .i64 k, .string sh, x2, x3, x4, x5, x6, x7, x8, x9, x10, x11, x12, x13, x14, x15, x16, x17, x18, x19, x20, x21, x22] (Z1.out.on (((Q.refl _).alloc _).drew)) (by rfl) (hK _ _ ?_)
        clear hK K
        refine wpAny_ready (rs := [2]) (by kernel_rfl) (by simp) ?_
        refine AllReady.cons rfl (fun K hK => ?_) AllReady.nil
        go_simp
        refine hK _ _ ?_
        clear hK K
        refine wpAny_ready (rs := [3]) (by kernel_rfl) (by simp) ?_
        refine AllReady.cons rfl (fun K hK => ?_) AllReady.nil
        refine step_store_row (by rfl) 40 _ _ (by rfl) w1.heap.size #[.int .i64 k, .string sh, x2, x3, x4, x5, x6, x7, x8, x9, x10, x11, x12, x13, x14, x15, x16, x17, x18, x19, x20, x21, x22] (by rfl) (by rfl) 40 #[.int .i64 0, .string ⟨#[]⟩, .int .i64 0, .int .i64 0, .bool false, .int .i64 0, .int .i64 0, .string ⟨#[]⟩, .bool false, .int .i64 0, .int .i64 0, .int .i64 0, .string ⟨#[]⟩, .bool false, .int .i64 0, .slice none 0 0, .slice none 0 0, .int .i64 0, .int .i64 0, .int .i64 0, .slice none 0 0, .int .i64 0, .string ⟨#[]⟩] (heap_alloc_last w1 _) info35 (by rfl) H0.out (hK _ _ ?_)
        clear hK K
        refine wpAny_done (by kernel_rfl) ?_ _
        rw [set_new]
        exact HF
      · go_simp
        refine hK _ _ ?_
        clear hK K
        refine wpAny_ready (rs := [0]) (by kernel_rfl) (by simp) ?_
        refine AllReady.cons rfl (fun K hK => ?_) AllReady.nil
        refine step_load_row (by rfl) _ (by rfl) b0 (by rfl) [.int .i64 k, .string sh, x2, x3, x4, x5, x6, x7, x8, x9, x10, x11, x12, x13, x14, x15, x16, x17, x18, x19, x20, x21, x22] (Z1.out.on (((Q.refl _).alloc _).drew)) (by rfl) (hK _ _ ?_)
        clear hK K
        refine wpAny_ready (rs := [3]) (by kernel_rfl) (by simp) ?_
        refine AllReady.cons rfl (fun K hK => ?_) AllReady.nil
        refine step_store_row (by rfl) 40 _ _ (by rfl) w1.heap.size #[.int .i64 k, .string sh, x2, x3, x4, x5, x6, x7, x8, x9, x10, x11, x12, x13, x14, x15, x16, x17, x18, x19, x20, x21, x22] (by rfl) (by rfl) 40 #[.int .i64 0, .string ⟨#[]⟩, .int .i64 0, .int .i64 0, .bool false, .int .i64 0, .int .i64 0, .string ⟨#[]⟩, .bool false, .int .i64 0, .int .i64 0, .int .i64 0, .string ⟨#[]⟩, .bool false, .int .i64 0, .slice none 0 0, .slice none 0 0, .int .i64 0, .int .i64 0, .int .i64 0, .slice none 0 0, .int .i64 0, .string ⟨#[]⟩] (heap_alloc_last w1 _) info35 (by rfl) H0.out (hK _ _ ?_)
        clear hK K
        refine wpAny_done (by kernel_rfl) ?_ _
        rw [set_new]
        exact HF
  have Z2 := hid ((cq_new w1 [.int .i64 k, .string sh, x2, x3, x4, x5, x6, x7, x8, x9, x10, x11, x12, x13, x14, x15, x16, x17, x18, x19, x20, x21, x22]).on (Q.refl _).drew)
  rw [show ([.int .i64 k, .string sh, x2, x3, x4, x5, x6, x7, x8, x9, x10, x11, x12, x13, x14, x15, x16, x17, x18, x19, x20, x21, x22] : List Value).toArray = #[.int .i64 k, .string sh, x2, x3, x4, x5, x6, x7, x8, x9, x10, x11, x12, x13, x14, x15, x16, x17, x18, x19, x20, x21, x22] from rfl] at Z2
  have Z0 := hid (Z1.out.on (((Q.refl w1).alloc (.cells #[.int .i64 k, .string sh, x2, x3, x4, x5, x6, x7, x8, x9, x10, x11, x12, x13, x14, x15, x16, x17, x18, x19, x20, x21, x22] 40)).drew))
  have QB : Hid (Q w ((w1.alloc (.cells #[.int .i64 k, .string sh, x2, x3, x4, x5, x6, x7, x8, x9, x10, x11, x12, x13, x14, x15, x16, x17, x18, x19, x20, x21, x22] 40)).drew)) := hid ((QA.out.alloc _).drew)
  have hb1 : w.heap.size ≤ w1.heap.size := QA.out.size
  have hne : b0 ≠ w1.heap.size := Nat.ne_of_lt Z1.out.l
  generalize (w1.alloc (.cells #[.int .i64 k, .string sh, x2, x3, x4, x5, x6, x7, x8, x9, x10, x11, x12, x13, x14, x15, x16, x17, x18, x19, x20, x21, x22] 40)).drew = w2 at Z0 Z2 QB ⊢
  generalize w1.heap.size = b1x at Z2 hb1 hne ⊢
  clear Z1 QA
  have d0 := Z0.out.c 0 _ rfl
  have d17 := Z0.out.c 17 _ rfl
  have d18 := Z0.out.c 18 _ rfl
  have d19 := Z0.out.c 19 _ rfl
  have u17 := Z2.out.c 17 _ rfl; have uf17 := Z2.out.f 17
  have u18 := Z2.out.c 18 _ rfl; have uf18 := Z2.out.f 18
  have u19 := Z2.out.c 19 _ rfl; have uf19 := Z2.out.f 19
  cases p1 with
  | false =>
    go_wp2_with (first | (go_at_call 30; refine (H1.out _ QB.out).mono ?_; rintro e9 v0 ⟨rfl, q9⟩; have QC0 : Hid (Q w v0) := hid (QB.out.trans q9); have Z10 := hid (Z0.out.on q9); have Z20 := hid (Z2.out.on q9); clear q9; have d0_0 := Z10.out.c 0 _ rfl; have d0_17 := Z10.out.c 17 _ rfl; have d0_18 := Z10.out.c 18 _ rfl; have d0_19 := Z10.out.c 19 _ rfl; have u0_17 := Z20.out.c 17 _ rfl; have uf0_17 := Z20.out.f 17; have u0_18 := Z20.out.c 18 _ rfl; have uf0_18 := Z20.out.f 18; have u0_19 := Z20.out.c 19 _ rfl; have uf0_19 := Z20.out.f 19))
    go_ret
    exact ⟨rfl, by repeat (first | exact QC0.out | refine Q.setCell ?_ hb1 _)⟩
  | true =>
    go_upto_region 17 with (first | (go_at_call 30; refine (H1.out _ QB.out).mono ?_; rintro e9 v0 ⟨rfl, q9⟩; have QC0 : Hid (Q w v0) := hid (QB.out.trans q9); have Z10 := hid (Z0.out.on q9); have Z20 := hid (Z2.out.on q9); clear q9; have d0_0 := Z10.out.c 0 _ rfl; have d0_17 := Z10.out.c 17 _ rfl; have d0_18 := Z10.out.c 18 _ rfl; have d0_19 := Z10.out.c 19 _ rfl; have u0_17 := Z20.out.c 17 _ rfl; have uf0_17 := Z20.out.f 17; have u0_18 := Z20.out.c 18 _ rfl; have uf0_18 := Z20.out.f 18; have u0_19 := Z20.out.c 19 _ rfl; have uf0_19 := Z20.out.f 19))
    have QV : Hid (Q w (((v0.setCell ⟨b1x, 17, none⟩ (.int .i64 0)).setCell ⟨b1x, 18, none⟩ (.int .i64 0)).setCell ⟨b1x, 19, none⟩ (.int .i64 0))) := hid (by repeat (first | exact QC0.out | refine Q.setCell ?_ hb1 _))
    have Z1V : Hid (Cq (((v0.setCell ⟨b1x, 17, none⟩ (.int .i64 0)).setCell ⟨b1x, 18, none⟩ (.int .i64 0)).setCell ⟨b1x, 19, none⟩ (.int .i64 0)) b0 [.int .i64 k, .string sh, x2, x3, x4, x5, x6, x7, x8, x9, x10, x11, x12, x13, x14, x15, x16, x17, x18, x19, x20, x21, x22]) := hid ((((Z10.out.oth hne 17 (.int .i64 0)).oth hne 18 (.int .i64 0)).oth hne 19 (.int .i64 0)))
    have Z2V : Hid (Cq (((v0.setCell ⟨b1x, 17, none⟩ (.int .i64 0)).setCell ⟨b1x, 18, none⟩ (.int .i64 0)).setCell ⟨b1x, 19, none⟩ (.int .i64 0)) b1x [.int .i64 k, .string sh, x2, x3, x4, x5, x6, x7, x8, x9, x10, x11, x12, x13, x14, x15, x16, .int .i64 0, .int .i64 0, .int .i64 0, x20, x21, x22]) := hid ((((Z20.out.put 17 (.int .i64 0)).put 18 (.int .i64 0)).put 19 (.int .i64 0)))
    generalize (((v0.setCell ⟨b1x, 17, none⟩ (.int .i64 0)).setCell ⟨b1x, 18, none⟩ (.int .i64 0)).setCell ⟨b1x, 19, none⟩ (.int .i64 0)) = V at QV Z1V Z2V ⊢
    clear d0 d17 d18 d19 u17 uf17 u18 uf18 u19 uf19 d0_0 d0_17 d0_18 d0_19 u0_17 uf0_17 u0_18 uf0_18 u0_19 uf0_19
    have g0 := Z1V.out.c 0 _ rfl
    have g1 := Z1V.out.c 1 _ rfl
    cases ib with
    | false =>
      go_wp2_with (go_at_call 34; refine (HI.out _ QV.out).mono ?_; rintro e9 y1 ⟨rfl, q9⟩; have QY : Hid (Q w y1) := hid (QV.out.trans q9); clear q9)
      go_ret
      exact ⟨rfl, QY.out⟩
    | true =>
      go_wp2_with (first | (go_at_call 34; refine (HI.out _ QV.out).mono ?_; rintro e9 y1 ⟨rfl, q9⟩; have QY : Hid (Q w y1) := hid (QV.out.trans q9); have Z1Y := hid (Z1V.out.on q9); have Z2Y := hid (Z2V.out.on q9); clear q9; have g0' := Z1Y.out.c 0 _ rfl; have g1' := Z1Y.out.c 1 _ rfl) | (refine wpl_loadg _ (by rfl) (by rfl) b1x (by rfl) [.int .i64 k, .string sh, x2, x3, x4, x5, x6, x7, x8, x9, x10, x11, x12, x13, x14, x15, x16, .int .i64 0, .int .i64 0, .int .i64 0, x20, x21, x22] Z2Y.out (by rfl) ?_) | (refine wpl_buildg _ (by rfl) (by rfl) #[.int .i64 k, .string sh, .int .i64 0, .int .i64 0, .bool false, .int .i64 0, .int .i64 0, .string ⟨#[]⟩, .bool false, .int .i64 0, .int .i64 0, .int .i64 0, .string ⟨#[]⟩, .bool false, .int .i64 0, .slice none 0 0, .slice none 0 0, .int .i64 0, .int .i64 0, .int .i64 0, .slice none 0 0, .int .i64 0, .string ⟨#[]⟩] (by kernel_rfl) ?_) | (go_at_call 35; refine (HE.out _ QY.out).mono ?_; rintro e9 y2 ⟨rfl, q9⟩; have QY2 : Hid (Q w y2) := hid (QY.out.trans q9); clear q9))
      go_ret
      exact ⟨rfl, QY2.out⟩
set_option maxHeartbeats 8000000 in
theorem om3 (k : Int) (sh : ByteArray) (x2 x3 x4 x5 x6 x7 x8 x9 x10 x11 x12 x13 x14 x15 x16 x17 x18 x19 x20 x21 x22 : Value) (w : World) (p1 : Bool) (ib eb : Bool) (k0 : (k == 1) = false) (k1 : (k == 2) = false) (k2 : (k == 3) = true) (H0 : Hid ((#[.int .i64 k, .string sh, x2, x3, x4, x5, x6, x7, x8, x9, x10, x11, x12, x13, x14, x15, x16, x17, x18, x19, x20, x21, x22] : Array Value).all (·.oneCell') = true)) (H1 : Hid (∀ V, Q w V → Calls Tryz.prog 30 #[.agg #[x17, x18, x19]] V fun e V' => e = .returned (.bool p1) ∧ Q V V')) (HI : Hid (∀ V, Q w V → Calls Tryz.prog 34 #[.string sh] V fun e V' => e = .returned (.bool ib) ∧ Q V V')) (HE : Hid (∀ V, Q w V → Calls Tryz.prog 35 #[.agg #[.int .i64 k, .string sh, x2, x3, x4, x5, x6, x7, x8, x9, x10, x11, x12, x13, x14, x15, x16, .int .i64 0, .int .i64 0, .int .i64 0, x20, x21, x22], .agg #[.int .i64 k, .string sh, .int .i64 0, .int .i64 0, .bool false, .int .i64 0, .int .i64 0, .string ⟨#[]⟩, .bool false, .int .i64 0, .int .i64 0, .int .i64 0, .string ⟨#[]⟩, .bool false, .int .i64 0, .slice none 0 0, .slice none 0 0, .int .i64 0, .int .i64 0, .int .i64 0, .slice none 0 0, .int .i64 0, .string ⟨#[]⟩]] V fun e V' => e = .returned (.bool eb) ∧ Q V V')) : Calls Tryz.prog 22 #[.agg #[.int .i64 k, .string sh, x2, x3, x4, x5, x6, x7, x8, x9, x10, x11, x12, x13, x14, x15, x16, x17, x18, x19, x20, x21, x22]] w fun e V' => e = .returned (.bool (p1 && (ib && eb))) ∧ Q w V' := by
  go_enter Tryz.func22, Tryz.ntmps22
  go_upto_region 1 with fail
  have Z1 := hid (cq_new w [.int .i64 k, .string sh, x2, x3, x4, x5, x6, x7, x8, x9, x10, x11, x12, x13, x14, x15, x16, x17, x18, x19, x20, x21, x22])
  rw [show ([.int .i64 k, .string sh, x2, x3, x4, x5, x6, x7, x8, x9, x10, x11, x12, x13, x14, x15, x16, x17, x18, x19, x20, x21, x22] : List Value).toArray = #[.int .i64 k, .string sh, x2, x3, x4, x5, x6, x7, x8, x9, x10, x11, x12, x13, x14, x15, x16, x17, x18, x19, x20, x21, x22] from rfl] at Z1
  have QA : Hid (Q w (w.alloc (.cells #[.int .i64 k, .string sh, x2, x3, x4, x5, x6, x7, x8, x9, x10, x11, x12, x13, x14, x15, x16, x17, x18, x19, x20, x21, x22] 40))) := hid ((Q.refl w).alloc _)
  generalize w.alloc (.cells #[.int .i64 k, .string sh, x2, x3, x4, x5, x6, x7, x8, x9, x10, x11, x12, x13, x14, x15, x16, x17, x18, x19, x20, x21, x22] 40) = w1 at Z1 QA ⊢
  generalize w.heap.size = b0 at Z1 ⊢
  refine two (F := ?F) (fun HF => ?both) ?rest
  case both =>
    refine wp_region_any (by kernel_rfl) ?_
    change wpAny _ _ _ _ _ _ _ (World.drew _)
    refine wpAny_ready (rs := [0, 1]) (by kernel_rfl) (by simp) ?_
    refine AllReady.cons rfl (fun K hK => ?_) (AllReady.cons rfl (fun K hK => ?_) AllReady.nil)
    · refine step_load_row (by rfl) _ (by rfl) b0 (by rfl) [.int .i64 k, .string sh, x2, x3, x4, x5, x6, x7, x8, x9, x10, x11, x12, x13, x14, x15, x16, x17, x18, x19, x20, x21, x22] (Z1.out.on (Q.refl _).drew) (by rfl) (hK _ _ ?_)
      clear hK K
      refine wpAny_ready (rs := [1]) (by kernel_rfl) (by simp) ?_
      refine AllReady.cons rfl (fun K hK => ?_) AllReady.nil
      go_simp
      refine hK _ _ ?_
      clear hK K
      refine wpAny_ready (rs := [2]) (by kernel_rfl) (by simp) ?_
      refine AllReady.cons rfl (fun K hK => ?_) AllReady.nil
      go_simp
      refine hK _ _ ?_
      clear hK K
      refine wpAny_ready (rs := [3]) (by kernel_rfl) (by simp) ?_
      refine AllReady.cons rfl (fun K hK => ?_) AllReady.nil
      refine step_store_row (by rfl) 40 _ _ (by rfl) w1.heap.size #[.int .i64 k, .string sh, x2, x3, x4, x5, x6, x7, x8, x9, x10, x11, x12, x13, x14, x15, x16, x17, x18, x19, x20, x21, x22] (by rfl) (by rfl) 40 #[.int .i64 0, .string ⟨#[]⟩, .int .i64 0, .int .i64 0, .bool false, .int .i64 0, .int .i64 0, .string ⟨#[]⟩, .bool false, .int .i64 0, .int .i64 0, .int .i64 0, .string ⟨#[]⟩, .bool false, .int .i64 0, .slice none 0 0, .slice none 0 0, .int .i64 0, .int .i64 0, .int .i64 0, .slice none 0 0, .int .i64 0, .string ⟨#[]⟩] (heap_alloc_last w1 _) info35 (by rfl) H0.out (hK _ _ ?_)
      clear hK K
      refine wpAny_done (by kernel_rfl) ?_ _
      rw [set_new]
      exact HF
    · go_simp
      refine hK _ _ ?_
      clear hK K
      refine wpAny_ready (rs := [0, 2]) (by kernel_rfl) (by simp) ?_
      refine AllReady.cons rfl (fun K hK => ?_) (AllReady.cons rfl (fun K hK => ?_) AllReady.nil)
      · refine step_load_row (by rfl) _ (by rfl) b0 (by rfl) [.int .i64 k, .string sh, x2, x3, x4, x5, x6, x7, x8, x9, x10, x11, x12, x13, x14, x15, x16, x17, x18, x19, x20, x21, x22] (Z1.out.on (((Q.refl _).alloc _).drew)) (by rfl) (hK _ _ ?_)
        clear hK K
        refine wpAny_ready (rs := [2]) (by kernel_rfl) (by simp) ?_
        refine AllReady.cons rfl (fun K hK => ?_) AllReady.nil
        go_simp
        refine hK _ _ ?_
        clear hK K
        refine wpAny_ready (rs := [3]) (by kernel_rfl) (by simp) ?_
        refine AllReady.cons rfl (fun K hK => ?_) AllReady.nil
        refine step_store_row (by rfl) 40 _ _ (by rfl) w1.heap.size #[.int .i64 k, .string sh, x2, x3, x4, x5, x6, x7, x8, x9, x10, x11, x12, x13, x14, x15, x16, x17, x18, x19, x20, x21, x22] (by rfl) (by rfl) 40 #[.int .i64 0, .string ⟨#[]⟩, .int .i64 0, .int .i64 0, .bool false, .int .i64 0, .int .i64 0, .string ⟨#[]⟩, .bool false, .int .i64 0, .int .i64 0, .int .i64 0, .string ⟨#[]⟩, .bool false, .int .i64 0, .slice none 0 0, .slice none 0 0, .int .i64 0, .int .i64 0, .int .i64 0, .slice none 0 0, .int .i64 0, .string ⟨#[]⟩] (heap_alloc_last w1 _) info35 (by rfl) H0.out (hK _ _ ?_)
        clear hK K
        refine wpAny_done (by kernel_rfl) ?_ _
        rw [set_new]
        exact HF
      · go_simp
        refine hK _ _ ?_
        clear hK K
        refine wpAny_ready (rs := [0]) (by kernel_rfl) (by simp) ?_
        refine AllReady.cons rfl (fun K hK => ?_) AllReady.nil
        refine step_load_row (by rfl) _ (by rfl) b0 (by rfl) [.int .i64 k, .string sh, x2, x3, x4, x5, x6, x7, x8, x9, x10, x11, x12, x13, x14, x15, x16, x17, x18, x19, x20, x21, x22] (Z1.out.on (((Q.refl _).alloc _).drew)) (by rfl) (hK _ _ ?_)
        clear hK K
        refine wpAny_ready (rs := [3]) (by kernel_rfl) (by simp) ?_
        refine AllReady.cons rfl (fun K hK => ?_) AllReady.nil
        refine step_store_row (by rfl) 40 _ _ (by rfl) w1.heap.size #[.int .i64 k, .string sh, x2, x3, x4, x5, x6, x7, x8, x9, x10, x11, x12, x13, x14, x15, x16, x17, x18, x19, x20, x21, x22] (by rfl) (by rfl) 40 #[.int .i64 0, .string ⟨#[]⟩, .int .i64 0, .int .i64 0, .bool false, .int .i64 0, .int .i64 0, .string ⟨#[]⟩, .bool false, .int .i64 0, .int .i64 0, .int .i64 0, .string ⟨#[]⟩, .bool false, .int .i64 0, .slice none 0 0, .slice none 0 0, .int .i64 0, .int .i64 0, .int .i64 0, .slice none 0 0, .int .i64 0, .string ⟨#[]⟩] (heap_alloc_last w1 _) info35 (by rfl) H0.out (hK _ _ ?_)
        clear hK K
        refine wpAny_done (by kernel_rfl) ?_ _
        rw [set_new]
        exact HF
  have Z2 := hid ((cq_new w1 [.int .i64 k, .string sh, x2, x3, x4, x5, x6, x7, x8, x9, x10, x11, x12, x13, x14, x15, x16, x17, x18, x19, x20, x21, x22]).on (Q.refl _).drew)
  rw [show ([.int .i64 k, .string sh, x2, x3, x4, x5, x6, x7, x8, x9, x10, x11, x12, x13, x14, x15, x16, x17, x18, x19, x20, x21, x22] : List Value).toArray = #[.int .i64 k, .string sh, x2, x3, x4, x5, x6, x7, x8, x9, x10, x11, x12, x13, x14, x15, x16, x17, x18, x19, x20, x21, x22] from rfl] at Z2
  have Z0 := hid (Z1.out.on (((Q.refl w1).alloc (.cells #[.int .i64 k, .string sh, x2, x3, x4, x5, x6, x7, x8, x9, x10, x11, x12, x13, x14, x15, x16, x17, x18, x19, x20, x21, x22] 40)).drew))
  have QB : Hid (Q w ((w1.alloc (.cells #[.int .i64 k, .string sh, x2, x3, x4, x5, x6, x7, x8, x9, x10, x11, x12, x13, x14, x15, x16, x17, x18, x19, x20, x21, x22] 40)).drew)) := hid ((QA.out.alloc _).drew)
  have hb1 : w.heap.size ≤ w1.heap.size := QA.out.size
  have hne : b0 ≠ w1.heap.size := Nat.ne_of_lt Z1.out.l
  generalize (w1.alloc (.cells #[.int .i64 k, .string sh, x2, x3, x4, x5, x6, x7, x8, x9, x10, x11, x12, x13, x14, x15, x16, x17, x18, x19, x20, x21, x22] 40)).drew = w2 at Z0 Z2 QB ⊢
  generalize w1.heap.size = b1x at Z2 hb1 hne ⊢
  clear Z1 QA
  have d0 := Z0.out.c 0 _ rfl
  have d17 := Z0.out.c 17 _ rfl
  have d18 := Z0.out.c 18 _ rfl
  have d19 := Z0.out.c 19 _ rfl
  have u17 := Z2.out.c 17 _ rfl; have uf17 := Z2.out.f 17
  have u18 := Z2.out.c 18 _ rfl; have uf18 := Z2.out.f 18
  have u19 := Z2.out.c 19 _ rfl; have uf19 := Z2.out.f 19
  cases p1 with
  | false =>
    go_wp2_with (first | (go_at_call 30; refine (H1.out _ QB.out).mono ?_; rintro e9 v0 ⟨rfl, q9⟩; have QC0 : Hid (Q w v0) := hid (QB.out.trans q9); have Z10 := hid (Z0.out.on q9); have Z20 := hid (Z2.out.on q9); clear q9; have d0_0 := Z10.out.c 0 _ rfl; have d0_17 := Z10.out.c 17 _ rfl; have d0_18 := Z10.out.c 18 _ rfl; have d0_19 := Z10.out.c 19 _ rfl; have u0_17 := Z20.out.c 17 _ rfl; have uf0_17 := Z20.out.f 17; have u0_18 := Z20.out.c 18 _ rfl; have uf0_18 := Z20.out.f 18; have u0_19 := Z20.out.c 19 _ rfl; have uf0_19 := Z20.out.f 19))
    go_ret
    exact ⟨rfl, by repeat (first | exact QC0.out | refine Q.setCell ?_ hb1 _)⟩
  | true =>
    go_upto_region 17 with (first | (go_at_call 30; refine (H1.out _ QB.out).mono ?_; rintro e9 v0 ⟨rfl, q9⟩; have QC0 : Hid (Q w v0) := hid (QB.out.trans q9); have Z10 := hid (Z0.out.on q9); have Z20 := hid (Z2.out.on q9); clear q9; have d0_0 := Z10.out.c 0 _ rfl; have d0_17 := Z10.out.c 17 _ rfl; have d0_18 := Z10.out.c 18 _ rfl; have d0_19 := Z10.out.c 19 _ rfl; have u0_17 := Z20.out.c 17 _ rfl; have uf0_17 := Z20.out.f 17; have u0_18 := Z20.out.c 18 _ rfl; have uf0_18 := Z20.out.f 18; have u0_19 := Z20.out.c 19 _ rfl; have uf0_19 := Z20.out.f 19))
    have QV : Hid (Q w (((v0.setCell ⟨b1x, 17, none⟩ (.int .i64 0)).setCell ⟨b1x, 18, none⟩ (.int .i64 0)).setCell ⟨b1x, 19, none⟩ (.int .i64 0))) := hid (by repeat (first | exact QC0.out | refine Q.setCell ?_ hb1 _))
    have Z1V : Hid (Cq (((v0.setCell ⟨b1x, 17, none⟩ (.int .i64 0)).setCell ⟨b1x, 18, none⟩ (.int .i64 0)).setCell ⟨b1x, 19, none⟩ (.int .i64 0)) b0 [.int .i64 k, .string sh, x2, x3, x4, x5, x6, x7, x8, x9, x10, x11, x12, x13, x14, x15, x16, x17, x18, x19, x20, x21, x22]) := hid ((((Z10.out.oth hne 17 (.int .i64 0)).oth hne 18 (.int .i64 0)).oth hne 19 (.int .i64 0)))
    have Z2V : Hid (Cq (((v0.setCell ⟨b1x, 17, none⟩ (.int .i64 0)).setCell ⟨b1x, 18, none⟩ (.int .i64 0)).setCell ⟨b1x, 19, none⟩ (.int .i64 0)) b1x [.int .i64 k, .string sh, x2, x3, x4, x5, x6, x7, x8, x9, x10, x11, x12, x13, x14, x15, x16, .int .i64 0, .int .i64 0, .int .i64 0, x20, x21, x22]) := hid ((((Z20.out.put 17 (.int .i64 0)).put 18 (.int .i64 0)).put 19 (.int .i64 0)))
    generalize (((v0.setCell ⟨b1x, 17, none⟩ (.int .i64 0)).setCell ⟨b1x, 18, none⟩ (.int .i64 0)).setCell ⟨b1x, 19, none⟩ (.int .i64 0)) = V at QV Z1V Z2V ⊢
    clear d0 d17 d18 d19 u17 uf17 u18 uf18 u19 uf19 d0_0 d0_17 d0_18 d0_19 u0_17 uf0_17 u0_18 uf0_18 u0_19 uf0_19
    have g0 := Z1V.out.c 0 _ rfl
    have g1 := Z1V.out.c 1 _ rfl
    cases ib with
    | false =>
      go_wp2_with (go_at_call 34; refine (HI.out _ QV.out).mono ?_; rintro e9 y1 ⟨rfl, q9⟩; have QY : Hid (Q w y1) := hid (QV.out.trans q9); clear q9)
      go_ret
      exact ⟨rfl, QY.out⟩
    | true =>
      go_wp2_with (first | (go_at_call 34; refine (HI.out _ QV.out).mono ?_; rintro e9 y1 ⟨rfl, q9⟩; have QY : Hid (Q w y1) := hid (QV.out.trans q9); have Z1Y := hid (Z1V.out.on q9); have Z2Y := hid (Z2V.out.on q9); clear q9; have g0' := Z1Y.out.c 0 _ rfl; have g1' := Z1Y.out.c 1 _ rfl) | (refine wpl_loadg _ (by rfl) (by rfl) b1x (by rfl) [.int .i64 k, .string sh, x2, x3, x4, x5, x6, x7, x8, x9, x10, x11, x12, x13, x14, x15, x16, .int .i64 0, .int .i64 0, .int .i64 0, x20, x21, x22] Z2Y.out (by rfl) ?_) | (refine wpl_buildg _ (by rfl) (by rfl) #[.int .i64 k, .string sh, .int .i64 0, .int .i64 0, .bool false, .int .i64 0, .int .i64 0, .string ⟨#[]⟩, .bool false, .int .i64 0, .int .i64 0, .int .i64 0, .string ⟨#[]⟩, .bool false, .int .i64 0, .slice none 0 0, .slice none 0 0, .int .i64 0, .int .i64 0, .int .i64 0, .slice none 0 0, .int .i64 0, .string ⟨#[]⟩] (by kernel_rfl) ?_) | (go_at_call 35; refine (HE.out _ QY.out).mono ?_; rintro e9 y2 ⟨rfl, q9⟩; have QY2 : Hid (Q w y2) := hid (QY.out.trans q9); clear q9))
      go_ret
      exact ⟨rfl, QY2.out⟩
set_option maxHeartbeats 8000000 in
theorem om7 (k : Int) (sh : ByteArray) (x2 x3 x4 x5 x6 x7 x8 x9 x10 x11 x12 x13 x14 x15 x16 x17 x18 x19 x20 x21 x22 : Value) (w : World) (ib eb : Bool) (k0 : (k == 1) = false) (k1 : (k == 2) = false) (k2 : (k == 3) = false) (k3 : (k == 4) = false) (k4 : (k == 5) = false) (k5 : (k == 6) = false) (k6 : (k == 7) = true) (H0 : Hid ((#[.int .i64 k, .string sh, x2, x3, x4, x5, x6, x7, x8, x9, x10, x11, x12, x13, x14, x15, x16, x17, x18, x19, x20, x21, x22] : Array Value).all (·.oneCell') = true)) (HI : Hid (∀ V, Q w V → Calls Tryz.prog 34 #[.string sh] V fun e V' => e = .returned (.bool ib) ∧ Q V V')) (HE : Hid (∀ V, Q w V → Calls Tryz.prog 35 #[.agg #[.int .i64 k, .string sh, x2, x3, x4, x5, x6, x7, x8, x9, x10, x11, x12, x13, x14, x15, x16, x17, x18, x19, x20, x21, x22], .agg #[.int .i64 k, .string sh, .int .i64 0, .int .i64 0, .bool false, .int .i64 0, .int .i64 0, .string ⟨#[]⟩, .bool false, .int .i64 0, .int .i64 0, .int .i64 0, .string ⟨#[]⟩, .bool false, .int .i64 0, .slice none 0 0, .slice none 0 0, .int .i64 0, .int .i64 0, .int .i64 0, .slice none 0 0, .int .i64 0, .string ⟨#[]⟩]] V fun e V' => e = .returned (.bool eb) ∧ Q V V')) : Calls Tryz.prog 22 #[.agg #[.int .i64 k, .string sh, x2, x3, x4, x5, x6, x7, x8, x9, x10, x11, x12, x13, x14, x15, x16, x17, x18, x19, x20, x21, x22]] w fun e V' => e = .returned (.bool (true && (ib && eb))) ∧ Q w V' := by
  go_enter Tryz.func22, Tryz.ntmps22
  go_upto_region 1 with fail
  have Z1 := hid (cq_new w [.int .i64 k, .string sh, x2, x3, x4, x5, x6, x7, x8, x9, x10, x11, x12, x13, x14, x15, x16, x17, x18, x19, x20, x21, x22])
  rw [show ([.int .i64 k, .string sh, x2, x3, x4, x5, x6, x7, x8, x9, x10, x11, x12, x13, x14, x15, x16, x17, x18, x19, x20, x21, x22] : List Value).toArray = #[.int .i64 k, .string sh, x2, x3, x4, x5, x6, x7, x8, x9, x10, x11, x12, x13, x14, x15, x16, x17, x18, x19, x20, x21, x22] from rfl] at Z1
  have QA : Hid (Q w (w.alloc (.cells #[.int .i64 k, .string sh, x2, x3, x4, x5, x6, x7, x8, x9, x10, x11, x12, x13, x14, x15, x16, x17, x18, x19, x20, x21, x22] 40))) := hid ((Q.refl w).alloc _)
  generalize w.alloc (.cells #[.int .i64 k, .string sh, x2, x3, x4, x5, x6, x7, x8, x9, x10, x11, x12, x13, x14, x15, x16, x17, x18, x19, x20, x21, x22] 40) = w1 at Z1 QA ⊢
  generalize w.heap.size = b0 at Z1 ⊢
  refine two (F := ?F) (fun HF => ?both) ?rest
  case both =>
    refine wp_region_any (by kernel_rfl) ?_
    change wpAny _ _ _ _ _ _ _ (World.drew _)
    refine wpAny_ready (rs := [0, 1]) (by kernel_rfl) (by simp) ?_
    refine AllReady.cons rfl (fun K hK => ?_) (AllReady.cons rfl (fun K hK => ?_) AllReady.nil)
    · refine step_load_row (by rfl) _ (by rfl) b0 (by rfl) [.int .i64 k, .string sh, x2, x3, x4, x5, x6, x7, x8, x9, x10, x11, x12, x13, x14, x15, x16, x17, x18, x19, x20, x21, x22] (Z1.out.on (Q.refl _).drew) (by rfl) (hK _ _ ?_)
      clear hK K
      refine wpAny_ready (rs := [1]) (by kernel_rfl) (by simp) ?_
      refine AllReady.cons rfl (fun K hK => ?_) AllReady.nil
      go_simp
      refine hK _ _ ?_
      clear hK K
      refine wpAny_ready (rs := [2]) (by kernel_rfl) (by simp) ?_
      refine AllReady.cons rfl (fun K hK => ?_) AllReady.nil
      go_simp
      refine hK _ _ ?_
      clear hK K
      refine wpAny_ready (rs := [3]) (by kernel_rfl) (by simp) ?_
      refine AllReady.cons rfl (fun K hK => ?_) AllReady.nil
      refine step_store_row (by rfl) 40 _ _ (by rfl) w1.heap.size #[.int .i64 k, .string sh, x2, x3, x4, x5, x6, x7, x8, x9, x10, x11, x12, x13, x14, x15, x16, x17, x18, x19, x20, x21, x22] (by rfl) (by rfl) 40 #[.int .i64 0, .string ⟨#[]⟩, .int .i64 0, .int .i64 0, .bool false, .int .i64 0, .int .i64 0, .string ⟨#[]⟩, .bool false, .int .i64 0, .int .i64 0, .int .i64 0, .string ⟨#[]⟩, .bool false, .int .i64 0, .slice none 0 0, .slice none 0 0, .int .i64 0, .int .i64 0, .int .i64 0, .slice none 0 0, .int .i64 0, .string ⟨#[]⟩] (heap_alloc_last w1 _) info35 (by rfl) H0.out (hK _ _ ?_)
      clear hK K
      refine wpAny_done (by kernel_rfl) ?_ _
      rw [set_new]
      exact HF
    · go_simp
      refine hK _ _ ?_
      clear hK K
      refine wpAny_ready (rs := [0, 2]) (by kernel_rfl) (by simp) ?_
      refine AllReady.cons rfl (fun K hK => ?_) (AllReady.cons rfl (fun K hK => ?_) AllReady.nil)
      · refine step_load_row (by rfl) _ (by rfl) b0 (by rfl) [.int .i64 k, .string sh, x2, x3, x4, x5, x6, x7, x8, x9, x10, x11, x12, x13, x14, x15, x16, x17, x18, x19, x20, x21, x22] (Z1.out.on (((Q.refl _).alloc _).drew)) (by rfl) (hK _ _ ?_)
        clear hK K
        refine wpAny_ready (rs := [2]) (by kernel_rfl) (by simp) ?_
        refine AllReady.cons rfl (fun K hK => ?_) AllReady.nil
        go_simp
        refine hK _ _ ?_
        clear hK K
        refine wpAny_ready (rs := [3]) (by kernel_rfl) (by simp) ?_
        refine AllReady.cons rfl (fun K hK => ?_) AllReady.nil
        refine step_store_row (by rfl) 40 _ _ (by rfl) w1.heap.size #[.int .i64 k, .string sh, x2, x3, x4, x5, x6, x7, x8, x9, x10, x11, x12, x13, x14, x15, x16, x17, x18, x19, x20, x21, x22] (by rfl) (by rfl) 40 #[.int .i64 0, .string ⟨#[]⟩, .int .i64 0, .int .i64 0, .bool false, .int .i64 0, .int .i64 0, .string ⟨#[]⟩, .bool false, .int .i64 0, .int .i64 0, .int .i64 0, .string ⟨#[]⟩, .bool false, .int .i64 0, .slice none 0 0, .slice none 0 0, .int .i64 0, .int .i64 0, .int .i64 0, .slice none 0 0, .int .i64 0, .string ⟨#[]⟩] (heap_alloc_last w1 _) info35 (by rfl) H0.out (hK _ _ ?_)
        clear hK K
        refine wpAny_done (by kernel_rfl) ?_ _
        rw [set_new]
        exact HF
      · go_simp
        refine hK _ _ ?_
        clear hK K
        refine wpAny_ready (rs := [0]) (by kernel_rfl) (by simp) ?_
        refine AllReady.cons rfl (fun K hK => ?_) AllReady.nil
        refine step_load_row (by rfl) _ (by rfl) b0 (by rfl) [.int .i64 k, .string sh, x2, x3, x4, x5, x6, x7, x8, x9, x10, x11, x12, x13, x14, x15, x16, x17, x18, x19, x20, x21, x22] (Z1.out.on (((Q.refl _).alloc _).drew)) (by rfl) (hK _ _ ?_)
        clear hK K
        refine wpAny_ready (rs := [3]) (by kernel_rfl) (by simp) ?_
        refine AllReady.cons rfl (fun K hK => ?_) AllReady.nil
        refine step_store_row (by rfl) 40 _ _ (by rfl) w1.heap.size #[.int .i64 k, .string sh, x2, x3, x4, x5, x6, x7, x8, x9, x10, x11, x12, x13, x14, x15, x16, x17, x18, x19, x20, x21, x22] (by rfl) (by rfl) 40 #[.int .i64 0, .string ⟨#[]⟩, .int .i64 0, .int .i64 0, .bool false, .int .i64 0, .int .i64 0, .string ⟨#[]⟩, .bool false, .int .i64 0, .int .i64 0, .int .i64 0, .string ⟨#[]⟩, .bool false, .int .i64 0, .slice none 0 0, .slice none 0 0, .int .i64 0, .int .i64 0, .int .i64 0, .slice none 0 0, .int .i64 0, .string ⟨#[]⟩] (heap_alloc_last w1 _) info35 (by rfl) H0.out (hK _ _ ?_)
        clear hK K
        refine wpAny_done (by kernel_rfl) ?_ _
        rw [set_new]
        exact HF
  have Z2 := hid ((cq_new w1 [.int .i64 k, .string sh, x2, x3, x4, x5, x6, x7, x8, x9, x10, x11, x12, x13, x14, x15, x16, x17, x18, x19, x20, x21, x22]).on (Q.refl _).drew)
  rw [show ([.int .i64 k, .string sh, x2, x3, x4, x5, x6, x7, x8, x9, x10, x11, x12, x13, x14, x15, x16, x17, x18, x19, x20, x21, x22] : List Value).toArray = #[.int .i64 k, .string sh, x2, x3, x4, x5, x6, x7, x8, x9, x10, x11, x12, x13, x14, x15, x16, x17, x18, x19, x20, x21, x22] from rfl] at Z2
  have Z0 := hid (Z1.out.on (((Q.refl w1).alloc (.cells #[.int .i64 k, .string sh, x2, x3, x4, x5, x6, x7, x8, x9, x10, x11, x12, x13, x14, x15, x16, x17, x18, x19, x20, x21, x22] 40)).drew))
  have QB : Hid (Q w ((w1.alloc (.cells #[.int .i64 k, .string sh, x2, x3, x4, x5, x6, x7, x8, x9, x10, x11, x12, x13, x14, x15, x16, x17, x18, x19, x20, x21, x22] 40)).drew)) := hid ((QA.out.alloc _).drew)
  have hb1 : w.heap.size ≤ w1.heap.size := QA.out.size
  have hne : b0 ≠ w1.heap.size := Nat.ne_of_lt Z1.out.l
  generalize (w1.alloc (.cells #[.int .i64 k, .string sh, x2, x3, x4, x5, x6, x7, x8, x9, x10, x11, x12, x13, x14, x15, x16, x17, x18, x19, x20, x21, x22] 40)).drew = w2 at Z0 Z2 QB ⊢
  generalize w1.heap.size = b1x at Z2 hb1 hne ⊢
  clear Z1 QA
  have d0 := Z0.out.c 0 _ rfl
  go_upto_region 17 with fail
  have QV := QB
  have Z1V := Z0
  have Z2V := Z2
  clear d0
  have g0 := Z1V.out.c 0 _ rfl
  have g1 := Z1V.out.c 1 _ rfl
  cases ib with
  | false =>
    go_wp2_with (go_at_call 34; refine (HI.out _ QV.out).mono ?_; rintro e9 y1 ⟨rfl, q9⟩; have QY : Hid (Q w y1) := hid (QV.out.trans q9); clear q9)
    go_ret
    exact ⟨rfl, QY.out⟩
  | true =>
    go_wp2_with (first | (go_at_call 34; refine (HI.out _ QV.out).mono ?_; rintro e9 y1 ⟨rfl, q9⟩; have QY : Hid (Q w y1) := hid (QV.out.trans q9); have Z1Y := hid (Z1V.out.on q9); have Z2Y := hid (Z2V.out.on q9); clear q9; have g0' := Z1Y.out.c 0 _ rfl; have g1' := Z1Y.out.c 1 _ rfl) | (refine wpl_loadg _ (by rfl) (by rfl) b1x (by rfl) [.int .i64 k, .string sh, x2, x3, x4, x5, x6, x7, x8, x9, x10, x11, x12, x13, x14, x15, x16, x17, x18, x19, x20, x21, x22] Z2Y.out (by rfl) ?_) | (refine wpl_buildg _ (by rfl) (by rfl) #[.int .i64 k, .string sh, .int .i64 0, .int .i64 0, .bool false, .int .i64 0, .int .i64 0, .string ⟨#[]⟩, .bool false, .int .i64 0, .int .i64 0, .int .i64 0, .string ⟨#[]⟩, .bool false, .int .i64 0, .slice none 0 0, .slice none 0 0, .int .i64 0, .int .i64 0, .int .i64 0, .slice none 0 0, .int .i64 0, .string ⟨#[]⟩] (by kernel_rfl) ?_) | (go_at_call 35; refine (HE.out _ QY.out).mono ?_; rintro e9 y2 ⟨rfl, q9⟩; have QY2 : Hid (Q w y2) := hid (QY.out.trans q9); clear q9))
    go_ret
    exact ⟨rfl, QY2.out⟩
end Go.Proofs.YthebfhdpofhmpaaGreatDoor
namespace Go.Proofs.YthebfhdpofhmpaaGreatDoor.V
open Go Go.Lib
structure At (s : ByteArray) (k : Nat) (A : Bool) : Prop where
  asc : ∀ (h : k < s.size), s[k].toNat < 128 → validD (s.data.toList.drop (k + 1)) = A
  bad : ∀ (h : k < s.size), ((128 ≤ s[k].toNat ∧ s[k].toNat < 194) ∨ 245 ≤ s[k].toNat) → A = false
  two0 : ∀ (h : k < s.size), 194 ≤ s[k].toNat → s[k].toNat ≤ 223 → s.size ≤ k + 1 → A = false
  two1 : ∀ (h : k < s.size) (h1 : k + 1 < s.size), 194 ≤ s[k].toNat → s[k].toNat ≤ 223 → (s[k + 1].toNat < 128 ∨ 191 < s[k + 1].toNat) → A = false
  two : ∀ (h : k < s.size) (h1 : k + 1 < s.size), 194 ≤ s[k].toNat → s[k].toNat ≤ 223 → (128 ≤ s[k + 1].toNat ∧ s[k + 1].toNat ≤ 191) → validD (s.data.toList.drop (k + 2)) = A
  three0 : ∀ (h : k < s.size), 224 ≤ s[k].toNat → s[k].toNat ≤ 239 → s.size ≤ k + 2 → A = false
  three1 : ∀ (h : k < s.size) (h1 : k + 1 < s.size) (h2 : k + 2 < s.size), 224 ≤ s[k].toNat → s[k].toNat ≤ 239 →
    ((s[k].toNat = 224 ∧ s[k + 1].toNat < 160) ∨ (s[k].toNat = 237 ∧ 159 < s[k + 1].toNat) ∨ s[k + 1].toNat < 128 ∨ 191 < s[k + 1].toNat ∨ s[k + 2].toNat < 128 ∨ 191 < s[k + 2].toNat) → A = false
  three : ∀ (h : k < s.size) (h1 : k + 1 < s.size) (h2 : k + 2 < s.size), 224 ≤ s[k].toNat → s[k].toNat ≤ 239 →
    ((s[k].toNat = 224 → 160 ≤ s[k + 1].toNat) ∧ (s[k].toNat = 237 → s[k + 1].toNat ≤ 159) ∧ 128 ≤ s[k + 1].toNat ∧ s[k + 1].toNat ≤ 191 ∧ 128 ≤ s[k + 2].toNat ∧ s[k + 2].toNat ≤ 191) → validD (s.data.toList.drop (k + 3)) = A
  four0 : ∀ (h : k < s.size), 240 ≤ s[k].toNat → s[k].toNat ≤ 244 → s.size ≤ k + 3 → A = false
  four1 : ∀ (h : k < s.size) (h1 : k + 1 < s.size) (h2 : k + 2 < s.size) (h3 : k + 3 < s.size), 240 ≤ s[k].toNat → s[k].toNat ≤ 244 →
    ((s[k].toNat = 240 ∧ s[k + 1].toNat < 144) ∨ (s[k].toNat = 244 ∧ 143 < s[k + 1].toNat) ∨ s[k + 1].toNat < 128 ∨ 191 < s[k + 1].toNat ∨ s[k + 2].toNat < 128 ∨ 191 < s[k + 2].toNat ∨ s[k + 3].toNat < 128 ∨ 191 < s[k + 3].toNat) → A = false
  four : ∀ (h : k < s.size) (h1 : k + 1 < s.size) (h2 : k + 2 < s.size) (h3 : k + 3 < s.size), 240 ≤ s[k].toNat → s[k].toNat ≤ 244 →
    ((s[k].toNat = 240 → 144 ≤ s[k + 1].toNat) ∧ (s[k].toNat = 244 → s[k + 1].toNat ≤ 143) ∧ 128 ≤ s[k + 1].toNat ∧ s[k + 1].toNat ≤ 191 ∧ 128 ≤ s[k + 2].toNat ∧ s[k + 2].toNat ≤ 191 ∧ 128 ≤ s[k + 3].toNat ∧ s[k + 3].toNat ≤ 191) → validD (s.data.toList.drop (k + 4)) = A
end Go.Proofs.YthebfhdpofhmpaaGreatDoor.V
namespace Go.Proofs.YthebfhdpofhmpaaGreatDoor
def hd : Ex → Int × Int × List UInt8 × Bool × Int × List Rf
  | .mk k n t b e rs _ => (k, n, t, b, e, rs)
def kd : Ex → List Ex
  | .mk _ _ _ _ _ _ ks => ks
theorem ex_eq {x y : Ex} : x = y ↔ hd x = hd y ∧ kd x = kd y := by
  cases x with
  | mk k n t b e rs ks =>
    cases y with
    | mk k' n' t' b' e' rs' ks' =>
      simp only [hd, kd, Ex.mk.injEq, Prod.mk.injEq]
      constructor
      · rintro ⟨h1, h2, h3, h4, h5, h6, h7⟩
        exact ⟨⟨h1, h2, h3, h4, h5, h6⟩, h7⟩
      · rintro ⟨⟨h1, h2, h3, h4, h5, h6⟩, h7⟩
        exact ⟨h1, h2, h3, h4, h5, h6, h7⟩
theorem nodes_kd (x : Ex) : nodes x = 1 + nodes.nodesL (kd x) := by
  cases x with
  | mk k n t b e rs ks => rw [nodes]; rfl
abbrev Pr := List Ex × List Ex
structure Eqv (R : Prop) (L K : List Pr) : Prop where
  all : R ↔ ∀ p ∈ L, p.1 = p.2
  bgn : ∀ k ∈ K, (∀ p ∈ L, nodes.nodesL p.1 ≤ nodes.nodesL k.1 → p.1 = p.2) → k.1 = k.2
theorem eqv_start (x y : Ex) : Eqv (x = y) [([x], [y])] [] := by
  refine ⟨?_, fun k hk => absurd hk (by simp)⟩
  constructor
  · intro h p hp
    simp at hp
    subst hp h
    rfl
  · intro h
    have := h ([x], [y]) (by simp)
    simpa using this
theorem Eqv.done {R : Prop} {K : List Pr} (h : Eqv R [] K) : R := h.all.2 (fun p hp => absurd hp (by simp))
theorem Eqv.pop {R : Prop} {L K : List Pr} (h : Eqv R (([], []) :: L) K) : Eqv R L K := by
  refine ⟨?_, fun k hk hl => h.bgn k hk (fun p hp hs => ?_)⟩
  · rw [h.all]
    constructor
    · intro g p hp
      exact g p (by simp [hp])
    · intro g p hp
      simp at hp
      rcases hp with rfl | hp
      · rfl
      · exact g p hp
  · simp at hp
    rcases hp with rfl | hp
    · rfl
    · exact hl p hp hs
theorem Eqv.no {R : Prop} {L K : List Pr} {x y : Ex} {xs ys : List Ex} (h : Eqv R ((x :: xs, y :: ys) :: L) K) (hn : ¬ (hd x = hd y ∧ (kd x).length = (kd y).length)) : ¬ R := by
  intro r
  have := h.all.1 r (x :: xs, y :: ys) (by simp)
  simp at this
  rw [this.1] at hn
  exact hn ⟨rfl, rfl⟩
theorem Eqv.step {R : Prop} {L K : List Pr} {x y : Ex} {xs ys : List Ex} {L' K' : List Pr} (h : Eqv R ((x :: xs, y :: ys) :: L) K) (hh : hd x = hd y)
    (hk : (∀ p ∈ (xs, ys) :: L, nodes.nodesL p.1 ≤ nodes.nodesL (kd x) → p.1 = p.2) → (∀ p ∈ L', nodes.nodesL p.1 ≤ nodes.nodesL (kd x) → p.1 = p.2) → kd x = kd y)
    (hL : ∀ p, p ∈ L' → p ∈ (xs, ys) :: L ∨ p = (kd x, kd y)) (hL' : ∀ p ∈ (xs, ys) :: L, p ∈ L') (hK : ∀ k ∈ K', k ∈ K ∨ (k = (kd x, kd y) ∧ (kd x, kd y) ∈ L')) : Eqv R L' K' := by
  have hs : nodes.nodesL (x :: xs) = 1 + nodes.nodesL (kd x) + nodes.nodesL xs := by rw [nodes.nodesL, nodes_kd]
  have cur : ∀ m, nodes.nodesL (x :: xs) ≤ m → (∀ p ∈ L', nodes.nodesL p.1 ≤ m → p.1 = p.2) → x :: xs = y :: ys := by
    intro m hm hl
    have h1 : xs = ys := hl (xs, ys) (hL' _ (by simp)) (by simp; omega)
    have h2 : kd x = kd y := hk (fun p hp hs' => hl p (hL' _ hp) (by omega)) (fun p hp hs' => hl p hp (by omega))
    rw [h1, ex_eq.2 ⟨hh, h2⟩]
  refine ⟨?_, fun k hk' hl => ?_⟩
  · rw [h.all]
    constructor
    · intro g p hp
      have g0 := g (x :: xs, y :: ys) (by simp)
      simp at g0
      rcases hL p hp with hp | rfl
      · simp at hp
        rcases hp with rfl | hp
        · exact g0.2
        · exact g p (by simp [hp])
      · rw [g0.1]
    · intro g p hp
      simp at hp
      rcases hp with rfl | hp
      · exact cur _ (Nat.le_refl _) (fun p hp _ => g p hp)
      · exact g p (hL' _ (by simp [hp]))
  · rcases hK k hk' with hk' | ⟨rfl, hm⟩
    · refine h.bgn k hk' (fun p hp hs' => ?_)
      simp at hp
      rcases hp with rfl | hp
      · exact cur _ hs' (fun p hp hs' => hl p hp hs')
      · exact hl p (hL' _ (by simp [hp])) hs'
    · exact hl _ hm (Nat.le_refl _)
theorem Eqv.leaf {R : Prop} {L K : List Pr} {x y : Ex} {xs ys : List Ex} (h : Eqv R ((x :: xs, y :: ys) :: L) K) (hh : hd x = hd y) (hx : kd x = []) (hy : (kd x).length = (kd y).length) : Eqv R ((xs, ys) :: L) K :=
  h.step hh (fun _ _ => by
    rw [hx] at hy ⊢
    exact (List.eq_nil_of_length_eq_zero hy.symm).symm) (fun p hp => .inl hp) (fun p hp => hp) (fun k hk => .inl hk)
theorem Eqv.old {R : Prop} {L K : List Pr} {x y : Ex} {xs ys : List Ex} (h : Eqv R ((x :: xs, y :: ys) :: L) K) (hh : hd x = hd y) (hb : (kd x, kd y) ∈ K) : Eqv R ((xs, ys) :: L) K :=
  h.step hh (fun g _ => h.bgn _ hb (fun p hp hs => by
    simp at hp
    rcases hp with rfl | hp
    · rw [nodes.nodesL, nodes_kd] at hs
      simp at hs
      omega
    · exact g p (by simp [hp]) hs)) (fun p hp => .inl hp) (fun p hp => hp) (fun k hk => .inl hk)
theorem Eqv.new {R : Prop} {L K : List Pr} {x y : Ex} {xs ys : List Ex} (h : Eqv R ((x :: xs, y :: ys) :: L) K) (hh : hd x = hd y) : Eqv R ((xs, ys) :: (kd x, kd y) :: L) ((kd x, kd y) :: K) :=
  h.step hh (fun _ g => g (kd x, kd y) (by simp) (Nat.le_refl _)) (fun p hp => by
    simp at hp ⊢
    rcases hp with h | h | h
    · exact .inl (.inl h)
    · exact .inr h
    · exact .inl (.inr h)) (fun p hp => by
    simp at hp ⊢
    rcases hp with h | h
    · exact .inl h
    · exact .inr (.inr h)) (fun k hk => by
    simp at hk
    rcases hk with h | h
    · exact .inr ⟨h, by simp⟩
    · exact .inl h)
def wgt (L : List Pr) : Nat := (L.map fun p => nodes.nodesL p.1).sum
theorem wgt_cons (p : Pr) (L : List Pr) : wgt (p :: L) = nodes.nodesL p.1 + wgt L := by simp [wgt]
theorem nodesL_cons' (x : Ex) (xs : List Ex) : nodes.nodesL (x :: xs) = 1 + nodes.nodesL (kd x) + nodes.nodesL xs := by rw [nodes.nodesL, nodes_kd]
end Go.Proofs.YthebfhdpofhmpaaGreatDoor
namespace Go.Proofs.YthebfhdpofhmpaaGreatDoor
open Go.RowKit
def lnB (n : Int) : Bool := decide (0 ≤ n ∧ n < 2199023255552)
theorem mayLine_any' (n : Int) (w : World) : Calls Tryz.prog 28 #[.int .i64 n] w fun e w' => e = .returned (.bool (lnB n)) ∧ w' = w := by
  by_cases h : 0 ≤ n
  · by_cases h' : n < 2199023255552
    · have HR : Hid (lnB n = true) := hid (decide_eq_true ⟨h, h'⟩)
      go_enter Tryz.func28, Tryz.ntmps28
      go_wp2
      go_ret
      exact ⟨ret_bool HR.out.symm, rfl⟩
    · have HR : Hid (lnB n = false) := hid (decide_eq_false (fun x => h' x.2))
      go_enter Tryz.func28, Tryz.ntmps28
      go_wp2
      go_ret
      exact ⟨ret_bool HR.out.symm, rfl⟩
  · have HR : Hid (lnB n = false) := hid (decide_eq_false (fun x => h x.1))
    go_enter Tryz.func28, Tryz.ntmps28
    go_wp2
    go_ret
    exact ⟨ret_bool HR.out.symm, rfl⟩
end Go.Proofs.YthebfhdpofhmpaaGreatDoor
namespace Go.Proofs.YthebfhdpofhmpaaGreatDoor.L.Ax
set_option linter.unusedVariables false
set_option linter.unusedSimpArgs false
set_option maxHeartbeats 4000000
def lf (g a : Int) : Int := if a < g then g - 1 else g
def idx (k a t i : Int) : Int :=
  if k = 1 then (if a ≤ i then i + 1 else i)
  else if k = 2 then (if i = a then -1 else lf i a)
  else if i = a then lf t a else if lf t a ≤ lf i a then lf i a + 1 else lf i a
def gap (k a t g : Int) (bh : Bool) : Int :=
  if k = 1 then (if a < g ∨ (g = a ∧ bh = true) then g + 1 else g)
  else if k = 2 then lf g a
  else if lf t a < lf g a ∨ (lf g a = lf t a ∧ bh = true) then lf g a + 1 else lf g a
def ok (k a t : Int) : Prop := (k = 1 ∧ t = 0) ∨ (k = 2 ∧ t = 0) ∨ (k = 3 ∧ t ≠ a ∧ t ≠ a + 1)
def okB (k a t : Int) : Bool := if k = 1 then decide (t = 0) else if k = 2 then decide (t = 0) else if k = 3 then decide (t ≠ a ∧ t ≠ a + 1) else false
theorem okB_iff (k a t : Int) : okB k a t = true ↔ ok k a t := by
  unfold okB ok; by_cases h1 : k = 1 <;> by_cases h2 : k = 2 <;> by_cases h3 : k = 3 <;> simp [h1, h2, h3] <;> omega
end Go.Proofs.YthebfhdpofhmpaaGreatDoor.L.Ax
namespace Go.Proofs.YthebfhdpofhmpaaGreatDoor.IV
set_option linter.unusedVariables false
set_option linter.unusedSimpArgs false
def frm (a0 : Act) (ds : List Nat) (v : Nat → Value) : Act := { a0 with tmps := ds.foldl (fun t d => t.setIfInBounds d (v d)) a0.tmps }
def up (v : Nat → Value) (d : Nat) (x : Value) : Nat → Value := fun t => if t = d then x else v t
def ul (L : Nat → Bool) (i : Nat) : Nat → Bool := fun j => if j = i then true else L j
theorem ul_same {L : Nat → Bool} {i : Nat} : ul L i i = true := if_pos rfl
theorem ul_ne {L : Nat → Bool} {i j : Nat} (h : j ≠ i) : ul L i j = L j := if_neg h
theorem fold_get (ds : List Nat) (v : Nat → Value) : ∀ (t : Array Value) (j : Nat), (ds.foldl (fun t d => t.setIfInBounds d (v d)) t)[j]? = if j ∈ ds then (t[j]?).map (fun _ => v j) else t[j]? := by
  induction ds with
  | nil => intro t j; simp
  | cons d ds ih =>
    intro t j
    rw [List.foldl_cons, ih]
    by_cases hj : j = d
    · subst hj
      by_cases hm : j ∈ ds
      · simp [hm, Array.getElem?_setIfInBounds]
        split <;> simp_all
      · simp [hm, Array.getElem?_setIfInBounds]
        split <;> simp_all
    · have hne : ¬ d = j := fun h => hj h.symm
      rw [Array.getElem?_setIfInBounds_ne hne]
      simp [hj]
theorem frm_put {a0 : Act} {ds : List Nat} {v : Nat → Value} {d : Nat} {x : Value} (hd : d ∈ ds) : (frm a0 ds v).put (some d) x = frm a0 ds (up v d x) := by
  unfold frm Act.put
  show Act.mk _ _ = Act.mk _ _
  congr 1
  apply Array.ext_getElem?
  intro j
  rw [fold_get]
  by_cases hj : j = d
  · subst hj
    simp only [Array.getElem?_setIfInBounds, if_true]
    have h := fold_get ds v a0.tmps j
    simp only [hd, if_true] at h ⊢
    split
    · rename_i hlt
      rw [Array.getElem?_eq_getElem hlt] at h
      cases h2 : a0.tmps[j]? with
      | none => rw [h2] at h; simp at h
      | some y => simp [up]
    · rename_i hlt
      rw [Array.getElem?_eq_none (Nat.le_of_not_lt hlt)] at h
      cases h2 : a0.tmps[j]? with
      | none => simp
      | some y => rw [h2] at h; simp at h
  · have hne : d ≠ j := fun h => hj h.symm
    rw [Array.getElem?_setIfInBounds_ne hne, fold_get]
    simp only [up, if_neg hj]
theorem frm_self (a0 : Act) (ds : List Nat) : frm a0 ds (fun d => a0.tmps.getD d undef) = a0 := by
  unfold frm
  cases a0 with
  | mk t df =>
    congr 1
    apply Array.ext_getElem?
    intro j
    rw [fold_get]
    split
    · cases h : t[j]? with
      | none => rfl
      | some y => simp [Array.getD_eq_getD_getElem?, h]
    · rfl
section
variable {P : Program} {ops : Array Oper} {Q : Exit → Act → World → Prop} {md : Region.Mode}
theorem wpAny_inv {I : Array Bool → Act → World → Prop}
    (hstep : ∀ (i : Nat) (listed : Array Bool) (a : Act) (w : World), I listed a w → i ∈ Region.ready md ops listed → wpOp P ops Q i (I (listed.setIfInBounds i true)) a w)
    (hdone : ∀ listed a w, I listed a w → Region.ready md ops listed = [] → Q .normal a w) :
    ∀ (fuel : Nat) (listed : Array Bool) (a : Act) (w : World), listed.size = ops.size → listed.toList.count false ≤ fuel → I listed a w → wpAny P md ops Q fuel listed a w := by
  intro fuel
  induction fuel with
  | zero =>
    intro listed a w hs hf h
    have hr : Region.ready md ops listed = [] := by
      apply List.eq_nil_iff_forall_not_mem.2
      intro j hj
      obtain ⟨h0, o, ho, _⟩ := mem_ready.1 hj
      have hlt : j < listed.size := by rw [hs]; exact (Array.getElem?_eq_some_iff.1 ho).1
      have hm : false ∈ listed.toList := by
        rw [Array.getD_eq_getD_getElem?, Array.getElem?_eq_getElem hlt] at h0
        simp at h0
        rw [← h0]
        simp
      have := List.count_pos_iff.2 hm
      omega
    exact ⟨hr, hdone _ _ _ h hr⟩
  | succ fuel ih =>
    intro listed a w hs hf h
    refine ⟨fun hr => hdone _ _ _ h hr, fun i hi => ?_⟩
    refine wpOp_mono (fun a' w' h' => ih _ a' w' (by simpa using hs) ?_ h') (hstep i listed a w h hi)
    obtain ⟨h0, o, ho, _⟩ := mem_ready.1 hi
    have hlt : i < listed.size := by rw [hs]; exact (Array.getElem?_eq_some_iff.1 ho).1
    have h1 : listed[i] = false := by
      rw [Array.getD_eq_getD_getElem?, Array.getElem?_eq_getElem hlt] at h0
      simpa using h0
    have hc : (listed.setIfInBounds i true).toList.count false + 1 = listed.toList.count false := by
      have e : (listed.setIfInBounds i true).toList = listed.toList.set i true := by simp
      rw [e, List.count_set (by simpa using hlt)]
      have h2 : listed.toList[i]'(by simpa using hlt) = false := by simpa using h1
      have hp : 0 < listed.toList.count false := List.count_pos_iff.2 (by rw [← h2]; exact List.getElem_mem _)
      have h3 : (listed.toList[i]'(by simpa using hlt) == false) = true := by rw [h2]; rfl
      rw [if_pos h3, if_neg (by simp)]
      omega
    omega
def Back (ops : Array Oper) : Bool := (List.range ops.size).all fun i => ((ops[i]?).map (·.after.all fun e => !Region.binds .any e || decide (e.on < i))).getD true
theorem all_listed (hb : Back ops = true) {listed : Array Bool} (hs : listed.size = ops.size) (hr : Region.ready .any ops listed = []) : ∀ j, j < ops.size → listed.getD j false = true := by
  intro j
  induction j using Nat.strongRecOn with
  | ind j ih =>
    intro hj
    have hlt : j < listed.size := by omega
    cases hl : listed.getD j false with
    | true => rfl
    | false =>
      exfalso
      have hm : j ∈ Region.ready .any ops listed := by
        refine mem_ready.2 ⟨?_, ops[j], Array.getElem?_eq_getElem hj, fun e he hbd => ?_⟩
        · rw [Array.getD_eq_getD_getElem?, Array.getElem?_eq_getElem hlt] at hl ⊢
          simpa using hl
        · have h1 := List.all_eq_true.1 hb j (List.mem_range.2 hj)
          rw [Array.getElem?_eq_getElem hj] at h1
          simp only [Option.map_some, Option.getD_some] at h1
          have h2 := Array.all_eq_true_iff_forall_mem.1 h1 e he
          have h3 : e.on < j := by simpa [hbd] using h2
          exact ih e.on h3 (by omega)
      rw [hr] at hm
      cases hm
abbrev Ks (a0 : Act) (ds : List Nat) (J : (Nat → Value) → World → Prop) : Act → World → Prop := fun a w => ∃ v, a = frm a0 ds v ∧ J v w
def deps (o : Oper) : List Nat := (o.after.toList.filter (Region.binds .any)).map (·.on)
def StepAt (P : Program) (ops : Array Oper) (Q : Exit → Act → World → Prop) (a0 : Act) (ds : List Nat) (I : (Nat → Bool) → (Nat → Value) → World → Prop) (i : Nat) (o : Oper) : Prop :=
  ∀ L v w, I L v w → L i = false → (∀ j ∈ deps o, L j = true) → wpOp P ops Q i (Ks a0 ds (I (ul L i))) (frm a0 ds v) w
theorem wp_region_inv {id : Nat} {a0 : Act} {w0 : World} (hm : P.follows .mixedOrders = true) (ds : List Nat) (I : (Nat → Bool) → (Nat → Value) → World → Prop)
    (hb : Back ops = true)
    (hsteps : ∀ i o, ops[i]? = some o → StepAt P ops Q a0 ds I i o)
    (h0 : I (fun _ => false) (fun d => a0.tmps.getD d undef) { w0 with drawn := w0.drawn + 1 })
    (hdone : ∀ L v w, (∀ j, j < ops.size → L j = true) → I L v w → Q .normal (frm a0 ds v) w) : (Code.region id ops true).wp P Q a0 w0 := by
  refine wp_region_any hm ?_
  refine wpAny_inv (I := fun listed a w => listed.size = ops.size ∧ Ks a0 ds (I (fun j => listed.getD j false)) a w) ?_ ?_ _ _ _ _ (by simp) (by simp) ?_
  · rintro i listed a w ⟨hs, v, rfl, hI⟩ hi
    obtain ⟨h1, o, ho, hall⟩ := mem_ready.1 hi
    have hlt : i < listed.size := by rw [hs]; exact (Array.getElem?_eq_some_iff.1 ho).1
    refine wpOp_mono ?_ (hsteps i o ho (fun j => listed.getD j false) v w hI ?_ ?_)
    · rintro a' w' ⟨v', rfl, h'⟩
      refine ⟨by simpa using hs, v', rfl, ?_⟩
      have e : ul (fun j => listed.getD j false) i = fun j => (listed.setIfInBounds i true).getD j false := by
        funext j
        by_cases hj : j = i
        · subst hj; rw [ul_same]; simp [hlt]
        · rw [ul_ne hj, getD_set_ne false (Ne.symm hj)]
      rw [← e]
      exact h'
    · rw [Array.getD_eq_getD_getElem?, Array.getElem?_eq_getElem hlt] at h1
      show listed.getD i false = false
      rw [Array.getD_eq_getD_getElem?, Array.getElem?_eq_getElem hlt]
      simpa using h1
    · intro j hj
      unfold deps at hj
      obtain ⟨e, he, rfl⟩ := List.mem_map.1 hj
      obtain ⟨he, hbd⟩ := List.mem_filter.1 he
      exact hall e (by simpa using he) hbd
  · rintro listed a w ⟨hs, v, rfl, hI⟩ hr
    exact hdone _ _ _ (fun j hj => all_listed hb hs hr j hj) hI
  · refine ⟨by simp, _, (frm_self a0 ds).symm, ?_⟩
    have e : (fun j => (Array.replicate ops.size false).getD j false) = fun _ => false := by
      funext j
      simp [Array.getD_eq_getD_getElem?, Array.getElem?_replicate]
      split <;> rfl
    rw [e]
    exact h0
variable {a0 : Act} {ds : List Nat} {I : (Nat → Bool) → (Nat → Value) → World → Prop} {J : (Nat → Value) → World → Prop} {v : Nat → Value} {w w' w1 : World} {i : Nat} {o : Oper} {d : Nat} {u : Value}
theorem op_val (ho : ops[i]? = some o) (hg : o.guard = none) (hd : o.dst = some d) (hm : d ∈ ds) (h : (execOp (frm a0 ds v).eval o).run P w = .ok (.value u) w') (hI : J (up v d u) w') :
    wpOp P ops Q i (Ks a0 ds J) (frm a0 ds v) w := by
  refine wpOp_step ho fun K' hK => ?_
  have hw : Region.wanted o (yielded ops (frm a0 ds v).tmps) = true := by unfold Region.wanted; rw [hg]
  rw [if_pos hw]
  unfold Oper.wp
  rw [h, Oper.upon_value, hd]
  exact hK _ _ ⟨up v d u, frm_put hm, hI⟩
theorem op_non (ho : ops[i]? = some o) (hg : o.guard = none) (hd : o.dst = none) (h : (execOp (frm a0 ds v).eval o).run P w = .ok .skip w') (hI : J v w') :
    wpOp P ops Q i (Ks a0 ds J) (frm a0 ds v) w := by
  refine wpOp_step ho fun K' hK => ?_
  have hw : Region.wanted o (yielded ops (frm a0 ds v).tmps) = true := by unfold Region.wanted; rw [hg]
  rw [if_pos hw]
  unfold Oper.wp
  rw [h, Oper.upon_skip, hd]
  exact hK _ _ ⟨v, rfl, hI⟩
theorem op_call (ho : ops[i]? = some o) (hg : o.guard = none) (hd : o.dst = some d) (hm : d ∈ ds) {f : FuncId} {args : Array Value} (h : (execOp (frm a0 ds v).eval o).run P w = .ok (.enter f args) w1)
    (hc : Calls P f args w1 fun e w' => ∃ u, e = .returned u ∧ J (up v d u) w') :
    wpOp P ops Q i (Ks a0 ds J) (frm a0 ds v) w := by
  refine wpOp_step ho fun K' hK => ?_
  have hw : Region.wanted o (yielded ops (frm a0 ds v).tmps) = true := by unfold Region.wanted; rw [hg]
  rw [if_pos hw]
  unfold Oper.wp
  rw [h, Oper.upon_enter, hd]
  refine hc.mono ?_
  rintro e w2 ⟨u, rfl, hI⟩
  exact hK _ _ ⟨up v d u, frm_put hm, hI⟩
end
def SL (S : Nat → Oper → Prop) : Nat → List Oper → Prop
  | _, [] => True
  | k, o :: r => S k o ∧ SL S (k + 1) r
theorem sl_get {S : Nat → Oper → Prop} : ∀ (l : List Oper) (k : Nat), SL S k l → ∀ i o, l[i]? = some o → S (k + i) o
  | [], _, _, i, o, h => by simp at h
  | a :: l, k, hs, i, o, h => by
    cases i with
    | zero => simp at h; subst h; exact hs.1
    | succ i =>
      have := sl_get l (k + 1) hs.2 i o (by simpa using h)
      rw [show k + (i + 1) = k + 1 + i by omega]
      exact this
theorem steps_list {S : Nat → Oper → Prop} {l : List Oper} (h : SL S 0 l) : ∀ i o, l.toArray[i]? = some o → S i o := fun i o ho => by
  have := sl_get l 0 h i o (by simpa using ho)
  rwa [Nat.zero_add] at this
theorem frm_get {a0 : Act} {ds : List Nat} {v : Nat → Value} {d : Nat} (hm : d ∈ ds) (hs : (a0.tmps[d]?).isSome = true) : (frm a0 ds v).tmps[d]? = some (v d) := by
  show (ds.foldl (fun t d => t.setIfInBounds d (v d)) a0.tmps)[d]? = _
  rw [fold_get, if_pos hm]
  cases h : a0.tmps[d]? with
  | none => rw [h] at hs; cases hs
  | some x => rfl
section
variable {P : Program} {ops : Array Oper} {Q : Exit → Act → World → Prop} {a0 : Act} {ds : List Nat} {J : (Nat → Value) → World → Prop} {v : Nat → Value} {w w' w1 : World} {i : Nat} {o : Oper} {d : Nat} {u : Value}
end
structure WO (P : Program) (ops : Array Oper) (Q : Exit → Act → World → Prop) (i : Nat) (K : Act → World → Prop) (a : Act) (w : World) : Prop where
  out : wpOp P ops Q i K a w
section
variable {P : Program} {ops : Array Oper} {Q : Exit → Act → World → Prop}
def StepW (P : Program) (ops : Array Oper) (Q : Exit → Act → World → Prop) (a0 : Act) (ds : List Nat) (I : (Nat → Bool) → (Nat → Value) → World → Prop) (i : Nat) (o : Oper) : Prop :=
  ∀ L v w, I L v w → L i = false → (∀ j ∈ deps o, L j = true) → WO P ops Q i (Ks a0 ds (I (ul L i))) (frm a0 ds v) w
theorem wp_region_invw {id : Nat} {a0 : Act} {w0 : World} (hm : P.follows .mixedOrders = true) (ds : List Nat) (I : (Nat → Bool) → (Nat → Value) → World → Prop)
    (hb : Back ops = true)
    (hsteps : ∀ i o, ops[i]? = some o → StepW P ops Q a0 ds I i o)
    (h0 : I (fun _ => false) (fun d => a0.tmps.getD d undef) { w0 with drawn := w0.drawn + 1 })
    (hdone : ∀ L v w, (∀ j, j < ops.size → L j = true) → I L v w → Q .normal (frm a0 ds v) w) : (Code.region id ops true).wp P Q a0 w0 :=
  wp_region_inv hm ds I hb (fun i o ho L v w h1 h2 h3 => (hsteps i o ho L v w h1 h2 h3).out) h0 hdone
variable {a0 : Act} {ds : List Nat} {J : (Nat → Value) → World → Prop} {v : Nat → Value} {w w' w1 : World} {i : Nat} {o : Oper} {d : Nat} {u : Value}
theorem opw_val (ho : ops[i]? = some o) (hg : o.guard = none) (hd : o.dst = some d) (hm : d ∈ ds) (h : (execOp (frm a0 ds v).eval o).run P w = .ok (.value u) w') (hI : J (up v d u) w') :
    WO P ops Q i (Ks a0 ds J) (frm a0 ds v) w := ⟨op_val ho hg hd hm h hI⟩
theorem opw_non (ho : ops[i]? = some o) (hg : o.guard = none) (hd : o.dst = none) (h : (execOp (frm a0 ds v).eval o).run P w = .ok .skip w') (hI : J v w') :
    WO P ops Q i (Ks a0 ds J) (frm a0 ds v) w := ⟨op_non ho hg hd h hI⟩
theorem opw_call (ho : ops[i]? = some o) (hg : o.guard = none) (hd : o.dst = some d) (hm : d ∈ ds) {f : FuncId} {args : Array Value} (h : (execOp (frm a0 ds v).eval o).run P w = .ok (.enter f args) w1)
    (hc : Calls P f args w1 fun e w' => ∃ u, e = .returned u ∧ J (up v d u) w') :
    WO P ops Q i (Ks a0 ds J) (frm a0 ds v) w := ⟨op_call ho hg hd hm h hc⟩
end
section
variable {P : Program} {ops : Array Oper} {Q : Exit → Act → World → Prop} {a0 : Act} {ds : List Nat} {J : (Nat → Value) → World → Prop} {v : Nat → Value} {w w' : World} {i : Nat} {o : Oper} {d : Nat} {u : Value}
theorem opw_wp (ho : ops[i]? = some o) (hg : o.guard = none) (h : Oper.wp P o (frm a0 ds v) w (Ks a0 ds J) Q) : WO P ops Q i (Ks a0 ds J) (frm a0 ds v) w := by
  refine ⟨wpOp_step ho fun K' hK => ?_⟩
  have hw : Region.wanted o (yielded ops (frm a0 ds v).tmps) = true := by unfold Region.wanted; rw [hg]
  rw [if_pos hw]
  exact Oper.wp_mono hK h
theorem ks_put (hd : o.dst = some d) (hm : d ∈ ds) (hI : J (up v d u) w) : Ks a0 ds J ((frm a0 ds v).put o.dst u) w := ⟨up v d u, by rw [hd]; exact frm_put hm, hI⟩
theorem ks_non (hd : o.dst = none) (hI : J v w) : Ks a0 ds J ((frm a0 ds v).put o.dst u) w := ⟨v, by rw [hd]; rfl, hI⟩
theorem frm_eval {d : Nat} (hm : d ∈ ds) (hs : (a0.tmps[d]?).isSome = true) : (frm a0 ds v).eval (.tmp d) = v d := by
  show (frm a0 ds v).tmps.getD d undef = v d
  rw [Array.getD_eq_getD_getElem?, frm_get hm hs]
  rfl
end
end Go.Proofs.YthebfhdpofhmpaaGreatDoor.IV
