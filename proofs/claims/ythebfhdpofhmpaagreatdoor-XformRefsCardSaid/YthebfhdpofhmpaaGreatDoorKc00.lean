/- Columns' letters, numbers, ids and references as texts, plai. -/
import Derived.Lib.IndexMore
import Derived.Lib.ItoaNum
import Derived.Lib.Strings
import Derived.Shelf.Small.Wraps
import Derived.Shelf.Strconv.Itoa0
import Derived.Shelf.LaysM
import Derived.Shelf.Strings.Search1
import Derived.Shelf.Strings.Search2
import Derived.Shelf.Strings.Cut
import Derived.Shelf.Strings.Shaped
import Derived.Shelf.Strings.Prefix
import Derived.Test.YthebfhdpofhmpaaGreatDoorProg
import Derived.Test.YthebfhdpofhmpaaGreatDoorRows
import Derived.Shelf.Unicode.DecodeSlow
import Derived.WalkKit
import Derived.WalkSpells
import Derived.WalkLawsBesides
import Derived.Lib.TrimByte
import Derived.Handy
import Derived.Shelf.Unicode.ValidAny
import Derived.Shelf.Strconv.Itoa1
import Derived.Shelf.Strconv.Clone
import Derived.Deep.CutBlock
import Derived.Deep.RegionHeld3
import Derived.Deep.WholeRow
import Derived.Deep.DrawnRows
import Derived.Deep.MidRow
import Derived.Lib.ItoaMem
import Derived.Laws.Bits64b
import Derived.Deep.RegionHeld
import Derived.Lib.ValidLaws
import Derived.RegionTactic
import Derived.Shelf.Strconv.Itoa4
set_option linter.unusedVariables false
set_option linter.unusedSimpArgs false
set_option maxRecDepth 100000
set_option maxHeartbeats 8000000
namespace Go.Proofs.YthebfhdpofhmpaaGreatDoor
open Go
def dig (c : UInt8) : Bool := decide (48 ≤ c.toNat ∧ c.toNat ≤ 57)
def allD (l : List UInt8) : Bool := l.all dig
def val (l : List UInt8) : Nat := l.foldl (fun n c => n * 10 + (c.toNat - 48)) 0
def numF (l : List UInt8) (most : Nat) : Bool := !l.isEmpty && !(l.headD 0 == 48 && decide (1 < l.length)) && allD l && decide (val l ≤ most)
def numK (l : List UInt8) (most : Nat) : Int := if numF l most then (val l : Int) else 0
def ownP (p : List UInt8 × List UInt8 × Bool) : Int := if p.2.2 && numF p.1 15 && numF p.2.1 999999 then (val p.1 : Int) else -1
def ownK (l : List UInt8) : Int := if Lib.hasPrefix l [99] then ownP (Lib.cut (Lib.trimPrefix l [99]) [110]) else -1
theorem val_app (l m : List UInt8) : val (l ++ m) = val l * 10 ^ m.length + val m := by
  have h : ∀ (m : List UInt8) (n : Nat), m.foldl (fun n c => n * 10 + (c.toNat - 48)) n = n * 10 ^ m.length + val m := by
    intro m
    induction m with
    | nil => intro n; simp [val]
    | cons c m ih =>
      intro n
      have e : val (c :: m) = m.foldl (fun n c => n * 10 + (c.toNat - 48)) (0 * 10 + (c.toNat - 48)) := rfl
      rw [e, List.foldl_cons, ih, ih, List.length_cons, Nat.pow_succ, Nat.add_mul, Nat.add_mul]
      rw [Nat.mul_assoc n, Nat.mul_comm 10]
      omega
  have e : val (l ++ m) = m.foldl (fun n c => n * 10 + (c.toNat - 48)) (val l) := by unfold val; rw [List.foldl_append]
  rw [e, h]
theorem val_snoc (l : List UInt8) (c : UInt8) : val (l ++ [c]) = val l * 10 + (c.toNat - 48) := by unfold val; rw [List.foldl_append]; rfl
theorem val_ge (l m : List UInt8) : val l ≤ val (l ++ m) := by
  rw [val_app]
  have h : 1 ≤ 10 ^ m.length := Nat.pow_pos (by omega)
  have := Nat.mul_le_mul_left (val l) h
  omega
theorem allD_app (a b : List UInt8) : allD (a ++ b) = (allD a && allD b) := by unfold allD; rw [List.all_append]
theorem cut_le (x : UInt8) (t : List UInt8) : (Lib.cut t [x]).1.length + (Lib.cut t [x]).2.1.length ≤ t.length := by
  unfold Lib.cut
  split
  · simp only [List.length_take, List.length_drop, List.length_cons, List.length_nil]
    omega
  · simp
def nmL : Nat → List UInt8
  | 0 => []
  | n + 1 => nmL (n / 26) ++ [UInt8.ofNat (65 + n % 26)]
theorem nm_byte (n : Nat) : (UInt8.ofNat (65 + n % 26)).toNat = 65 + n % 26 := by
  have : (UInt8.ofNat (65 + n % 26)).toNat = (65 + n % 26) % 256 := UInt8.toNat_ofNat'
  omega
theorem nm_succ (n : Nat) : nmL (n + 1) = nmL (n / 26) ++ [UInt8.ofNat (65 + n % 26)] := by rw [nmL]
theorem nm_ne (n : Nat) (h : 0 < n) : nmL n ≠ [] := by
  obtain ⟨m, rfl⟩ : ∃ m, n = m + 1 := ⟨n - 1, by omega⟩
  rw [nm_succ]
  simp
theorem nm_len (k : Nat) : ∀ n : Nat, n < 26 ^ k → (nmL n).length ≤ k := by
  induction k with
  | zero => intro n h; obtain rfl : n = 0 := (by rw [Nat.pow_zero] at h; omega); rw [nmL]; simp
  | succ k ih =>
    intro n h
    match n with
    | 0 => rw [nmL]; simp
    | n + 1 =>
      rw [nm_succ, List.length_append, List.length_singleton]
      have : (nmL (n / 26)).length ≤ k := ih _ (by rw [Nat.pow_succ] at h; omega)
      omega
theorem nm_nine (n : Nat) (h : n ≤ 2199023255552) : (nmL n).length ≤ 9 :=
  nm_len 9 n (by have : (26 : Nat) ^ 9 = 5429503678976 := by decide
                 omega)
end Go.Proofs.YthebfhdpofhmpaaGreatDoor
namespace Go.Proofs
open Go.Shelf
def Tryz.lays103_ren : Go.Shelf.Ren := ⟨fun | 103 => 74 | 210 => 99 | 206 => 122 | n => n, fun | 9 => 9 | 4 => 4 | 24 => 127 | 3 => 3 | n => n, fun | n => n⟩
theorem Tryz.lays103 : Go.Proofs.Lays.n103 Tryz.prog Tryz.lays103_ren := {
  mixed := by kernel_rfl
  f103 := Tryz.func74.trans (congrArg some (by kernel_rfl))
  f206 := Tryz.func122.trans (congrArg some (by kernel_rfl))
  f210 := Tryz.func99.trans (congrArg some (by kernel_rfl))
  t3 := Tryz.underlying3
  a3 := Tryz.isAgg3
  z3 := Tryz.sizeOf3
  v3 := Tryz.zeroValue3
  t4 := Tryz.underlying4
  a4 := Tryz.isAgg4
  z4 := Tryz.sizeOf4
  v4 := Tryz.zeroValue4
  t9 := Tryz.underlying9
  a9 := Tryz.isAgg9
  z9 := Tryz.sizeOf9
  v9 := Tryz.zeroValue9
  t24 := Tryz.underlying127
  a24 := Tryz.isAgg127
  z24 := Tryz.sizeOf127
  v24 := Tryz.zeroValue127 }
open Go.RowKit in
theorem Tryz.strings_CutPrefix (s p : ByteArray) (w : World) :
    Calls Tryz.prog 74 #[.string s, .string p] w fun e w' => e = .returned (.tuple #[.string ⟨(Lib.trimPrefix s.data.toList p.data.toList).toArray⟩, .bool (Lib.hasPrefix s.data.toList p.data.toList)]) ∧ w' = w := Any.strings_CutPrefix Tryz.lays103 s p w
def Tryz.lays145_ren : Go.Shelf.Ren := ⟨fun | 145 => 75 | 220 => 100 | 219 => 123 | 217 => 135 | 225 => 136 | 224 => 137 | 267 => 138 | 266 => 156 | 314 => 157 | n => n, fun | 9 => 9 | 4 => 4 | 59 => 129 | 3 => 3 | 5 => 5 | 46 => 176 | 146 => 222 | 51 => 215 | n => n, fun | 1 => 3 | n => n⟩
theorem Tryz.lays145 : Go.Proofs.Lays.n145 Tryz.prog Tryz.lays145_ren := {
  mixed := by kernel_rfl
  f145 := Tryz.func75.trans (congrArg some (by kernel_rfl))
  f217 := Tryz.func135.trans (congrArg some (by kernel_rfl))
  f219 := Tryz.func123.trans (congrArg some (by kernel_rfl))
  f220 := Tryz.func100.trans (congrArg some (by kernel_rfl))
  f224 := Tryz.func137.trans (congrArg some (by kernel_rfl))
  f225 := Tryz.func136.trans (congrArg some (by kernel_rfl))
  f266 := Tryz.func156.trans (congrArg some (by kernel_rfl))
  f267 := Tryz.func138.trans (congrArg some (by kernel_rfl))
  f314 := Tryz.func157.trans (congrArg some (by kernel_rfl))
  t3 := Tryz.underlying3
  a3 := Tryz.isAgg3
  z3 := Tryz.sizeOf3
  v3 := Tryz.zeroValue3
  t4 := Tryz.underlying4
  a4 := Tryz.isAgg4
  z4 := Tryz.sizeOf4
  v4 := Tryz.zeroValue4
  t5 := Tryz.underlying5
  a5 := Tryz.isAgg5
  z5 := Tryz.sizeOf5
  v5 := Tryz.zeroValue5
  t9 := Tryz.underlying9
  a9 := Tryz.isAgg9
  z9 := Tryz.sizeOf9
  v9 := Tryz.zeroValue9
  t46 := Tryz.underlying176
  a46 := Tryz.isAgg176
  z46 := Tryz.sizeOf176
  v46 := Tryz.zeroValue176
  t51 := Tryz.underlying215
  a51 := Tryz.isAgg215
  z51 := Tryz.sizeOf215
  v51 := Tryz.zeroValue215
  t59 := Tryz.underlying129
  a59 := Tryz.isAgg129
  z59 := Tryz.sizeOf129
  v59 := Tryz.zeroValue129
  t146 := Tryz.underlying222
  a146 := Tryz.isAgg222
  z146 := Tryz.sizeOf222
  v146 := Tryz.zeroValue222
  g1 := by kernel_rfl }
open Go.RowKit Go.Lib in
theorem Tryz.strings_Cut (s sep : ByteArray) (m : Int) (w : World) (hs : s.size < 4294967281) (hm : w.cell? ⟨3, 0, none⟩ = some (.int .i64 m)) :
    Calls Tryz.prog 75 #[.string s, .string sep] w fun e w' => e = .returned (.tuple #[.string ⟨(Lib.cut s.data.toList sep.data.toList).1.toArray⟩, .string ⟨(Lib.cut s.data.toList sep.data.toList).2.1.toArray⟩, .bool (Lib.cut s.data.toList sep.data.toList).2.2]) ∧ ∃ n, w' = w.drewN n := Any.strings_Cut Tryz.lays145 s sep m w hs hm
end Go.Proofs
namespace Go.Proofs.YthebfhdpofhmpaaGreatDoor
open Go.RowKit
theorem hid {p : Prop} (h : p) : Hid p := h
def Q (w w' : World) : Prop := Below w.heap.size w w'
theorem Q.refl (w : World) : Q w w := Below.refl _ _
theorem Q.trans {a b c : World} (h : Q a b) (k : Q b c) : Q a c := Below.trans h (Below.mono k h.size)
theorem Q.drew {a w : World} (h : Q a w) : Q a w.drew := Below.drew h
theorem Q.drewN {a w : World} (h : Q a w) (n : Nat) : Q a (w.drewN n) := Go.below_drewN h n
theorem Q.alloc {a w : World} (h : Q a w) (o : Obj) : Q a (w.alloc o) := Below.alloc h h.size o
theorem Q.cell {a w : World} (h : Q a w) {b o : Nat} (hb : b < a.heap.size) : w.cell? ⟨b, o, none⟩ = a.cell? ⟨b, o, none⟩ := Below.cell h hb
theorem Q.lt {a w : World} (h : Q a w) {b : Nat} (hb : b < a.heap.size) : b < w.heap.size := Nat.lt_of_lt_of_le hb h.size
theorem Q.setCell {a w : World} (h : Q a w) {b k : Nat} (hb : a.heap.size ≤ b) (v : Value) : Q a (w.setCell ⟨b, k, none⟩ v) := Below.setCell h hb v
def enL (e : Int) : List UInt8 :=
  if e = 1 then [35, 82, 69, 70, 33] else if e = 2 then [35, 67, 89, 67, 76, 69, 33] else if e = 3 then [35, 68, 73, 86, 47, 48, 33]
  else if e = 4 then [35, 78, 85, 77, 33] else if e = 5 then [35, 86, 65, 76, 85, 69, 33] else if e = 6 then [35, 78, 65, 77, 69, 63]
  else if e = 7 then [35, 78, 47, 65] else []
def Nam (w : World) : Prop := 0 < w.heap.size ∧ ∀ i : Nat, i < 8 → w.cell? ⟨0, i, none⟩ = some (.string ⟨(enL i).toArray⟩)
theorem Nam.on {w w' : World} (h : Nam w) (q : Q w w') : Nam w' := ⟨q.lt h.1, fun i hi => by rw [q.cell h.1]; exact h.2 i hi⟩
structure Std (w : World) : Prop where
  nam : Nam w
  utf : Lib.Utf8Tabs 1 2 w
  len : ∃ m : Int, w.cell? ⟨3, 0, none⟩ = some (.int .i64 m)
  big : 5 < w.heap.size
theorem Std.on {w w' : World} (h : Std w) (q : Q w w') : Std w' := by
  have hb := h.big
  refine ⟨h.nam.on q, Utf8Tabs_below h.utf q, ?_, q.lt h.big⟩
  obtain ⟨m, hm⟩ := h.len
  exact ⟨m, by rw [q.cell (by omega)]; exact hm⟩
theorem ret_int {k : IntKind} {a b : Int} (h : a = b) : Ending.returned (.int k a) = .returned (.int k b) := by rw [h]
theorem ret_bool {a b : Bool} (h : a = b) : Ending.returned (.bool a) = .returned (.bool b) := by rw [h]
theorem ret_str {a b : ByteArray} (h : a = b) : Ending.returned (.string a) = .returned (.string b) := by rw [h]
theorem size_mk (l : List UInt8) : (⟨l.toArray⟩ : ByteArray).size = l.length := by simp [ByteArray.size]
theorem take_snoc (s : ByteArray) (k : Nat) (h : k < s.size) : s.data.toList.take (k + 1) = s.data.toList.take k ++ [s[k]] := by
  rw [List.take_succ_eq_append_getElem (by simpa using h)]; rfl
theorem take_all (s : ByteArray) (k : Nat) (h : s.size ≤ k) : s.data.toList.take k = s.data.toList :=
  List.take_of_length_le (by simpa using h)
theorem get_mem (s : ByteArray) (k : Nat) (h : k < s.size) : s[k] ∈ s.data.toList := by
  have : s[k] = s.data.toList[k]'(by simpa using h) := rfl
  rw [this]
  exact List.getElem_mem _
theorem len_data (s : ByteArray) : s.data.toList.length = s.size := by simp
theorem headD_get (s : ByteArray) (h : 0 < s.size) : s.data.toList.headD 0 = s[0] := by
  have h' : 0 < s.data.toList.length := by simpa using h
  have e : s[0] = s.data.toList[0]'h' := rfl
  rw [e, List.headD_eq_head?_getD, List.head?_eq_getElem?, List.getElem?_eq_getElem h']
  rfl
end Go.Proofs.YthebfhdpofhmpaaGreatDoor
namespace Go.Proofs.YthebfhdpofhmpaaGreatDoor.V
open Go.RowKit
theorem ret_int {k : IntKind} {a b : Int} (h : a = b) : Ending.returned (.int k a) = .returned (.int k b) := by rw [h]
def vv (k n : Int) (t : ByteArray) (b : Bool) (e : Int) : Value := .agg #[.int .i64 k, .int .i64 n, .string t, .bool b, .int .i64 e]
theorem vret_bool {a b : Bool} (h : a = b) : Ending.returned (.bool a) = .returned (.bool b) := by rw [h]
end Go.Proofs.YthebfhdpofhmpaaGreatDoor.V
namespace Go.Proofs
open Go.Shelf
def Tryz.lays196_ren : Go.Shelf.Ren := ⟨fun | 196 => 94 | 259 => 112 | n => n, fun | 9 => 9 | 4 => 4 | 3 => 3 | 5 => 5 | 12 => 12 | 119 => 172 | 0 => 0 | 46 => 176 | 139 => 175 | 138 => 174 | 53 => 199 | n => n, fun | 3 => 1 | 4 => 2 | n => n⟩
theorem Tryz.lays196 : Go.Proofs.Lays.n196 Tryz.prog Tryz.lays196_ren := {
  mixed := by kernel_rfl
  f196 := Tryz.func94.trans (congrArg some (by kernel_rfl))
  f259 := Tryz.func112.trans (congrArg some (by kernel_rfl))
  t0 := Tryz.underlying0
  a0 := Tryz.isAgg0
  z0 := Tryz.sizeOf0
  v0 := Tryz.zeroValue0
  t3 := Tryz.underlying3
  a3 := Tryz.isAgg3
  z3 := Tryz.sizeOf3
  v3 := Tryz.zeroValue3
  t4 := Tryz.underlying4
  a4 := Tryz.isAgg4
  z4 := Tryz.sizeOf4
  v4 := Tryz.zeroValue4
  t5 := Tryz.underlying5
  a5 := Tryz.isAgg5
  z5 := Tryz.sizeOf5
  v5 := Tryz.zeroValue5
  t9 := Tryz.underlying9
  a9 := Tryz.isAgg9
  z9 := Tryz.sizeOf9
  v9 := Tryz.zeroValue9
  t12 := Tryz.underlying12
  a12 := Tryz.isAgg12
  z12 := Tryz.sizeOf12
  v12 := Tryz.zeroValue12
  t46 := Tryz.underlying176
  a46 := Tryz.isAgg176
  z46 := Tryz.sizeOf176
  v46 := Tryz.zeroValue176
  t53 := Tryz.underlying199
  a53 := Tryz.isAgg199
  z53 := Tryz.sizeOf199
  v53 := Tryz.zeroValue199
  t119 := Tryz.underlying172
  a119 := Tryz.isAgg172
  z119 := Tryz.sizeOf172
  t138 := Tryz.underlying174
  a138 := Tryz.isAgg174
  z138 := Tryz.sizeOf174
  v138 := Tryz.zeroValue174
  t139 := Tryz.underlying175
  a139 := Tryz.isAgg175
  z139 := Tryz.sizeOf175
  v139 := Tryz.zeroValue175
  g3 := by kernel_rfl
  g4 := by kernel_rfl }
open Go.RowKit in
theorem Tryz.utf8_ValidString (s : ByteArray) (w : World) (hs : s.size ≤ 9223372036854775807) (hT : Lib.Utf8Tabs 1 2 w) :
    Calls Tryz.prog 94 #[.string s] w fun e w' => e = .returned (.bool (Lib.validD s.data.toList)) ∧ Below w.heap.size w w' := Any.utf8_ValidString Tryz.lays196 s w hs hT
end Go.Proofs
namespace Go.Proofs.YthebfhdpofhmpaaGreatDoor
open Go.RowKit
theorem numF_zero {l : List UInt8} {m : Nat} (h : l.headD 0 = 48) (h1 : 1 < l.length) : numF l m = false := by
  unfold numF
  rw [h, decide_eq_true h1]
  simp
theorem numF_nodig {l : List UInt8} {m : Nat} (h : allD l = false) : numF l m = false := by
  unfold numF
  rw [h]
  simp
theorem numF_great {l : List UInt8} {m : Nat} (h : m < val l) : numF l m = false := by
  unfold numF
  rw [decide_eq_false (show ¬ val l ≤ m by omega)]
  simp
theorem numF_yes {l : List UInt8} {m : Nat} (h0 : l ≠ []) (h1 : ¬ (l.headD 0 = 48 ∧ 1 < l.length)) (h2 : allD l = true) (h3 : val l ≤ m) : numF l m = true := by
  unfold numF
  rw [h2, decide_eq_true h3]
  have e0 : l.isEmpty = false := by cases l; exact absurd rfl h0; rfl
  have e1 : (l.headD 0 == 48 && decide (1 < l.length)) = false := by
    rw [Bool.and_eq_false_iff]
    by_cases h : l.headD 0 = 48
    · exact .inr (decide_eq_false fun g => h1 ⟨h, g⟩)
    · exact .inl (beq_eq_false_iff_ne.2 h)
  rw [e0, e1]
  rfl
theorem allD_no (s : ByteArray) (k : Nat) (h : k < s.size) (hd : dig s[k] = false) : allD s.data.toList = false := by
  unfold allD
  rw [List.all_eq_false]
  exact ⟨s[k], get_mem s k h, by simp [hd]⟩
theorem byte_ne {c : UInt8} {n : Nat} (hn : n < 256) (h : c ≠ UInt8.ofNat n) : ((c.toNat : Int) == (n : Int)) = false := by
  rw [beq_eq_false_iff_ne]
  intro e
  apply h
  apply UInt8.toNat_inj.1
  have : (UInt8.ofNat n).toNat = n % 256 := UInt8.toNat_ofNat'
  rw [this]
  omega
theorem ne_of_pos {s : ByteArray} (h : 0 < s.size) : s.data.toList ≠ [] := fun e => by
  have h1 := congrArg List.length e
  rw [len_data, List.length_nil] at h1
  omega
theorem toList_ne {s : ByteArray} (h : 0 < s.size) : (s.toList == []) = false := by
  rw [Lib.toList_data, beq_eq_false_iff_ne]
  exact ne_of_pos h
set_option maxHeartbeats 1000000 in
theorem number_any (s : ByteArray) (m : Nat) (M : Int) (w : World) (hM : Hid (M = (m : Int))) (M0 : 0 ≤ M) (M1 : M ≤ 2199023255552) (hs : s.size ≤ 9223372036854775807) :
    Calls Tryz.prog 76 #[.string s, .int .i64 M] w fun e w' => e = .returned (.tuple #[.int .i64 (numK s.data.toList m), .bool (numF s.data.toList m)]) ∧ w' = w := by
  have HF : ∀ b : Bool, numF s.data.toList m = b → Hid (numF s.data.toList m = b ∧ numK s.data.toList m = if b then (val s.data.toList : Int) else 0) := by
    intro b e
    exact ⟨e, by unfold numK; rw [e]⟩
  have et := hid (Lib.toList_data s)
  by_cases h0 : s.size = 0
  · have e0 : s.toList = [] := by rw [Lib.toList_data]; exact List.eq_nil_of_length_eq_zero (by rw [len_data]; exact h0)
    have hF := HF false (by rw [← et.out, e0]; rfl)
    clear h0
    go_enter Tryz.func76, Tryz.ntmps76
    go_wp2
    go_ret2
    exact ⟨by rw [hF.out.1, hF.out.2]; rfl, rfl⟩
  · have hp : 0 < s.size := by omega
    have e0 := toList_ne hp
    have hh := hid (headD_get s hp)
    by_cases hz : s[0] = 48 ∧ 1 < s.size
    · have hF := HF false (numF_zero (by rw [hh.out]; exact hz.1) (by rw [len_data]; exact hz.2))
      have hc : (s[0].toNat : Int) = 48 := by rw [hz.1]; rfl
      have h1 := hz.2
      clear hz h0
      go_enter Tryz.func76, Tryz.ntmps76
      go_wp2
      go_ret2
      exact ⟨by rw [hF.out.1, hF.out.2]; rfl, rfl⟩
    · have HZ : Hid (¬ (s.data.toList.headD 0 = 48 ∧ 1 < s.data.toList.length)) := by
        show ¬ _
        rw [hh.out, len_data]
        exact hz
      have hc : ((s[0].toNat : Int) == 48) = false ∨ ((s[0].toNat : Int) = 48 ∧ ¬ 1 < (s.size : Int)) := by
        by_cases h : s[0] = 48
        · exact .inr ⟨by rw [h]; rfl, fun g => hz ⟨h, by omega⟩⟩
        · exact .inl (byte_ne (n := 48) (by omega) h)
      clear hz h0
      rcases hc with hc | ⟨hc, h1⟩
      · go_enter Tryz.func76, Tryz.ntmps76
        go_wp2
        go_loop [6, 22] (fun a i => ∃ (k : Nat) (n : Int), k ≤ s.size ∧ i = .int .i64 k ∧ a = .int .i64 n ∧ 0 ≤ n ∧ n ≤ M ∧ Hid (allD (s.data.toList.take k) = true ∧ n = (val (s.data.toList.take k) : Int))) (fun _ i => s.size - (intOf i).toNat)
        case atStart => exact ⟨0, 0, Nat.zero_le _, rfl, rfl, by omega, by omega, rfl, rfl⟩
        case round =>
          obtain ⟨k, n, hk, rfl, rfl, n0, n1, hn⟩ := hrel
          by_cases hlt : k < s.size
          · by_cases hd : dig s[k] = true
            · have b0 : 48 ≤ (s[k].toNat : Int) := by unfold dig at hd; simp at hd; omega
              have b1 : (s[k].toNat : Int) ≤ 57 := by unfold dig at hd; simp at hd; omega
              have hv : Hid (allD (s.data.toList.take (k + 1)) = true ∧ (val (s.data.toList.take (k + 1)) : Int) = n * 10 + ((s[k].toNat : Int) - 48)) := by
                have := hn.out
                refine ⟨?_, ?_⟩
                · rw [take_snoc s k hlt, allD_app, this.1]
                  unfold allD
                  simp [hd]
                · rw [take_snoc s k hlt, val_snoc, this.2]
                  omega
              clear hd
              by_cases hb : M < n * 10 + ((s[k].toNat : Int) - 48)
              · have hF := HF false (numF_great (by
                  have h1 := val_ge (s.data.toList.take (k + 1)) (s.data.toList.drop (k + 1))
                  rw [List.take_append_drop] at h1
                  have h2 := hv.out.2
                  have h3 := hM.out
                  omega))
                go_wp2
                go_ret2
                exact ⟨by rw [hF.out.1, hF.out.2]; rfl, rfl⟩
              · go_wp2
                go_round
                case rel => exact ⟨k + 1, n * 10 + ((s[k].toNat : Int) - 48), by omega, by go_num, rfl, by omega, by omega, hv.out.1, hv.out.2.symm⟩
                case measure => simp [intOf]; omega
            · have hF := HF false (numF_nodig (allD_no s k hlt (by simpa using hd)))
              by_cases b0 : (s[k].toNat : Int) < 48
              · clear hd
                go_wp2
                go_ret2
                exact ⟨by rw [hF.out.1, hF.out.2]; rfl, rfl⟩
              · have b1 : 57 < (s[k].toNat : Int) := by unfold dig at hd; simp at hd; omega
                clear hd
                go_wp2
                go_ret2
                exact ⟨by rw [hF.out.1, hF.out.2]; rfl, rfl⟩
          · have hN : Hid (allD s.data.toList = true ∧ n = (val s.data.toList : Int)) := by have := hn.out; rw [take_all s k (by omega)] at this; exact this
            have hF := HF true (numF_yes (ne_of_pos hp) HZ.out hN.out.1 (by have := hN.out.2; have := hM.out; omega))
            go_wp2
            go_ret2
            exact ⟨by rw [hF.out.1, hF.out.2, hN.out.2]; rfl, rfl⟩
      · go_enter Tryz.func76, Tryz.ntmps76
        go_wp2
        go_loop [6, 22] (fun a i => ∃ (k : Nat) (n : Int), k ≤ s.size ∧ i = .int .i64 k ∧ a = .int .i64 n ∧ 0 ≤ n ∧ n ≤ M ∧ Hid (allD (s.data.toList.take k) = true ∧ n = (val (s.data.toList.take k) : Int))) (fun _ i => s.size - (intOf i).toNat)
        case atStart => exact ⟨0, 0, Nat.zero_le _, rfl, rfl, by omega, by omega, rfl, rfl⟩
        case round =>
          obtain ⟨k, n, hk, rfl, rfl, n0, n1, hn⟩ := hrel
          by_cases hlt : k < s.size
          · by_cases hd : dig s[k] = true
            · have b0 : 48 ≤ (s[k].toNat : Int) := by unfold dig at hd; simp at hd; omega
              have b1 : (s[k].toNat : Int) ≤ 57 := by unfold dig at hd; simp at hd; omega
              have hv : Hid (allD (s.data.toList.take (k + 1)) = true ∧ (val (s.data.toList.take (k + 1)) : Int) = n * 10 + ((s[k].toNat : Int) - 48)) := by
                have := hn.out
                refine ⟨?_, ?_⟩
                · rw [take_snoc s k hlt, allD_app, this.1]
                  unfold allD
                  simp [hd]
                · rw [take_snoc s k hlt, val_snoc, this.2]
                  omega
              clear hd
              by_cases hb : M < n * 10 + ((s[k].toNat : Int) - 48)
              · have hF := HF false (numF_great (by
                  have h1 := val_ge (s.data.toList.take (k + 1)) (s.data.toList.drop (k + 1))
                  rw [List.take_append_drop] at h1
                  have h2 := hv.out.2
                  have h3 := hM.out
                  omega))
                go_wp2
                go_ret2
                exact ⟨by rw [hF.out.1, hF.out.2]; rfl, rfl⟩
              · go_wp2
                go_round
                case rel => exact ⟨k + 1, n * 10 + ((s[k].toNat : Int) - 48), by omega, by go_num, rfl, by omega, by omega, hv.out.1, hv.out.2.symm⟩
                case measure => simp [intOf]; omega
            · have hF := HF false (numF_nodig (allD_no s k hlt (by simpa using hd)))
              by_cases b0 : (s[k].toNat : Int) < 48
              · clear hd
                go_wp2
                go_ret2
                exact ⟨by rw [hF.out.1, hF.out.2]; rfl, rfl⟩
              · have b1 : 57 < (s[k].toNat : Int) := by unfold dig at hd; simp at hd; omega
                clear hd
                go_wp2
                go_ret2
                exact ⟨by rw [hF.out.1, hF.out.2]; rfl, rfl⟩
          · have hN : Hid (allD s.data.toList = true ∧ n = (val s.data.toList : Int)) := by have := hn.out; rw [take_all s k (by omega)] at this; exact this
            have hF := HF true (numF_yes (ne_of_pos hp) HZ.out hN.out.1 (by have := hN.out.2; have := hM.out; omega))
            go_wp2
            go_ret2
            exact ⟨by rw [hF.out.1, hF.out.2, hN.out.2]; rfl, rfl⟩
end Go.Proofs.YthebfhdpofhmpaaGreatDoor
namespace Go.Proofs.YthebfhdpofhmpaaGreatDoor.V
open Go.RowKit
theorem ret_bool {a b : Bool} (h : a = b) : Ending.returned (.bool a) = .returned (.bool b) := by rw [h]
end Go.Proofs.YthebfhdpofhmpaaGreatDoor.V
namespace Go.Proofs.YthebfhdpofhmpaaGreatDoor
abbrev Rf := List UInt8 × Int × Int × Bool × Bool
structure Ex where
  mk ::
  (k n : Int) (t : List UInt8) (b : Bool) (e : Int) (rs : List Rf) (ks : List Ex)
def zeroE : Ex := .mk 0 0 [] false 0 [] []
def nodes : Ex → Nat
  | .mk _ _ _ _ _ _ ks => 1 + nodesL ks
  where
  nodesL : List Ex → Nat
  | [] => 0
  | x :: xs => nodes x + nodesL xs
end Go.Proofs.YthebfhdpofhmpaaGreatDoor
namespace Go.Proofs
open Go.Shelf
def Tryz.laysM316_ren : Go.Shelf.Ren := ⟨fun | 316 => 40 | n => n, fun | 9 => 9 | 3 => 3 | 4 => 4 | 37 => 101 | 0 => 0 | 127 => 102 | 5 => 5 | n => n, fun | n => n⟩
theorem Tryz.laysM316 : Go.Proofs.LaysM.n316 Tryz.prog Tryz.laysM316_ren := {
  mixed := by kernel_rfl
  f316 := Tryz.func40.trans (congrArg some (by kernel_rfl))
  t0 := Tryz.underlying0
  a0 := Tryz.isAgg0
  z0 := Tryz.sizeOf0
  v0 := Tryz.zeroValue0
  t3 := Tryz.underlying3
  a3 := Tryz.isAgg3
  z3 := Tryz.sizeOf3
  v3 := Tryz.zeroValue3
  t4 := Tryz.underlying4
  a4 := Tryz.isAgg4
  z4 := Tryz.sizeOf4
  v4 := Tryz.zeroValue4
  t9 := Tryz.underlying9
  a9 := Tryz.isAgg9
  z9 := Tryz.sizeOf9
  v9 := Tryz.zeroValue9
  t37 := Tryz.underlying101
  a37 := Tryz.isAgg101
  z37 := Tryz.sizeOf101
  v37 := Tryz.zeroValue101
  t127 := Tryz.underlying102
  a127 := Tryz.isAgg102
  z127 := Tryz.sizeOf102
  v127 := Tryz.zeroValue102
  t5 := Tryz.underlying5
  a5 := Tryz.isAgg5
  z5 := Tryz.sizeOf5
  v5 := Tryz.zeroValue5
  i0 := by kernel_rfl
  i3 := by kernel_rfl
  i4 := by kernel_rfl
  i5 := by kernel_rfl
  i9 := by kernel_rfl
  i37 := by kernel_rfl
  i127 := by kernel_rfl }
open Go.RowKit in
theorem Tryz.stringslite_Clone (s : ByteArray) (w : World) (hlim : s.size ≤ 281474976710656) :
    Calls Tryz.prog 40 #[.string s] w fun e w' => e = .returned (.string s) ∧ Below w.heap.size w w' := Any.stringslite_Clone Tryz.laysM316 s w hlim
end Go.Proofs
namespace Go.Proofs.YthebfhdpofhmpaaGreatDoor
open Go.RowKit
theorem clone_any (s : ByteArray) (w : World) (hs : s.size ≤ 281474976710656) :
    Calls Tryz.prog 25 #[.string s] w fun e w' => e = .returned (.string s) ∧ Q w w' := by
  have HC := hid (fun W => Tryz.stringslite_Clone s W hs)
  clear hs
  go_enter Tryz.func25, Tryz.ntmps25
  go_wp2_with (go_at_call 40; refine (HC.out _).mono ?_; rintro e w1 ⟨rfl, q1⟩)
  go_ret
  exact ⟨rfl, q1⟩
structure Cq (W : World) (q : Nat) (cs : List Value) : Prop where
  h : W.heap[q]? = some (.cells cs.toArray 40 (0, 0))
theorem Cq.c {W : World} {q : Nat} {cs : List Value} (h : Cq W q cs) (j : Nat) (u : Value) (hu : cs[j]? = some u) : W.cell? ⟨q, j, none⟩ = some u := by
  rw [cell_of_row W q j _ _ _ h.h]
  simpa using hu
theorem Cq.f {W : World} {q : Nat} {cs : List Value} (h : Cq W q cs) (j : Nat) : W.frozen? ⟨q, j, none⟩ = false := frozen_of_row W q j _ _ h.h
theorem Cq.l {W : World} {q : Nat} {cs : List Value} (h : Cq W q cs) : q < W.heap.size := (Array.getElem?_eq_some_iff.1 h.h).1
theorem Cq.on {W W' : World} {q : Nat} {cs : List Value} (h : Cq W q cs) (x : Q W W') : Cq W' q cs := ⟨(Below.block x q h.l).trans h.h⟩
theorem cq_new (W : World) (cs : List Value) : Cq (W.alloc (.cells cs.toArray 40)) W.heap.size cs := ⟨heap_alloc_last W _⟩
theorem Cq.put {W : World} {q : Nat} {cs : List Value} (h : Cq W q cs) (j : Nat) (d : Value) : Cq (W.setCell ⟨q, j, none⟩ d) q (cs.set j d) := by
  refine ⟨?_⟩
  rw [setCell_eq_setRow W q j _ _ _ d h.h, setRow_heap W q _ _ _ _ h.h]
  congr 2
  simp
theorem Cq.oth {W : World} {q p : Nat} {cs : List Value} (h : Cq W q cs) (hp : q ≠ p) (j : Nat) (d : Value) : Cq (W.setCell ⟨p, j, none⟩ d) q cs :=
  ⟨(heap_setCell_other W _ q d hp).trans h.h⟩
theorem info35 : (Tryz.prog.info? 40).map (·.size) = some 23 := by kernel_rfl
theorem step_store_row {w : World} {ops : Array Oper} {o : Oper} {a : Act} {K : Act → World → Prop} {Q : Exit → Act → World → Prop} {E : Prop} (hgd : o.guard = none) (ty : TypeId) (x y : Operand) (ho : o.op = .store ty x y)
    (g : Nat) (cells : Array Value) (hx : a.eval x = .pointer (some ⟨g, 0, none⟩)) (hy : a.eval y = .agg cells)
    (t : TypeId) (old : Array Value) (hg : w.heap[g]? = some (.cells old t (0, 0))) (hi : (Tryz.prog.info? ty).map (·.size) = some cells.size)
    (hold : old.size = cells.size) (h1 : cells.all (·.oneCell') = true)
    (h : K (a.put o.dst undef) (w.setRow g cells)) : if Region.wanted o (yielded ops a.tmps) = true then Oper.wp Tryz.prog o a w K Q else E := by
  have hw : Region.wanted o (yielded ops a.tmps) = true := by simp [Region.wanted, hgd]
  rw [if_pos hw]
  exact wp_store_row ty x y ho g cells hx hy t old hg hi hold h1 h
theorem step_load_row {w : World} {ops : Array Oper} {o : Oper} {a : Act} {K : Act → World → Prop} {Q : Exit → Act → World → Prop} {E : Prop} (hgd : o.guard = none) (x : Operand) (ho : o.op = .load 40 x)
    (g : Nat) (hx : a.eval x = .pointer (some ⟨g, 0, none⟩)) (cs : List Value) (hg : Cq w g cs) (hi : cs.length = 23)
    (h : K (a.put o.dst (.agg cs.toArray)) w) : if Region.wanted o (yielded ops a.tmps) = true then Oper.wp Tryz.prog o a w K Q else E := by
  have hw : Region.wanted o (yielded ops a.tmps) = true := by simp [Region.wanted, hgd]
  rw [if_pos hw]
  exact wp_load_row 40 x ho g hx 40 cs.toArray (0, 0) _ hg.h Tryz.underlying40 rfl (info35.trans (by simp [hi])) h
theorem wpl_loadg {w : World} {ops : Array Oper} {rest : List Oper} {o : Oper} {a : Act} {Q : Exit → Act → World → Prop} (x : Operand) (ho : o.op = .load 40 x) (hw : Region.wanted o (yielded ops a.tmps) = true)
    (g : Nat) (hx : a.eval x = .pointer (some ⟨g, 0, none⟩)) (cs : List Value) (hg : Cq w g cs) (hi : cs.length = 23)
    (h : wpList Tryz.prog ops Q rest (a.put o.dst (.agg cs.toArray)) w) : wpList Tryz.prog ops Q (o :: rest) a w := by
  simp only [wpList, hw, if_true]
  exact .inl (wp_load_row 40 x ho g hx 40 cs.toArray (0, 0) _ hg.h Tryz.underlying40 rfl (info35.trans (by simp [hi])) h)
theorem wpl_buildg {w : World} {ops : Array Oper} {rest : List Oper} {o : Oper} {a : Act} {Q : Exit → Act → World → Prop} (parts : Array (Nat × Operand)) (ho : o.op = .build 40 parts) (hw : Region.wanted o (yielded ops a.tmps) = true)
    (cs : Array Value) (hf : Tryz.prog.built 40 (parts.map fun (i, x) => (i, a.eval x)).toList = some cs)
    (h : wpList Tryz.prog ops Q rest (a.put o.dst (.agg cs)) w) : wpList Tryz.prog ops Q (o :: rest) a w := by
  simp only [wpList, hw, if_true]
  exact .inl (wp_build 40 parts ho (by rw [hf]; rfl) (by rw [hf]; exact h))
theorem there_cq {W : World} {q : Nat} {cs : List Value} (h : Cq W q cs) (o n : Nat) (hl : o + n ≤ cs.length) : W.there q o n := fun j hj =>
  ⟨by rw [h.c (o + j) _ (List.getElem?_eq_getElem (by omega))]; rfl, h.f _⟩
theorem info30 : (Tryz.prog.info? 37).map (·.size) = some 13 := by kernel_rfl
theorem wpl_buildt {w : World} {ops : Array Oper} {rest : List Oper} {o : Oper} {a : Act} {Q : Exit → Act → World → Prop} (t : TypeId) (parts : Array (Nat × Operand)) (ho : o.op = .build t parts) (hw : Region.wanted o (yielded ops a.tmps) = true)
    (cs : Array Value) (hf : Tryz.prog.built t (parts.map fun (i, x) => (i, a.eval x)).toList = some cs)
    (h : wpList Tryz.prog ops Q rest (a.put o.dst (.agg cs)) w) : wpList Tryz.prog ops Q (o :: rest) a w := by
  simp only [wpList, hw, if_true]
  exact .inl (wp_build t parts ho (by rw [hf]; rfl) (by rw [hf]; exact h))
theorem Q.cells {a : World} {b : Nat} (hb : a.heap.size ≤ b) : ∀ (vs : List Value) (o : Nat) {w : World}, Q a w → Q a (w.setCells b o vs)
  | [], _, _, h => h
  | v :: r, o, w, h => Q.cells hb r (o + 1) (Q.setCell h hb v)
def setL (cs : List Value) : Nat → List Value → List Value
  | _, [] => cs
  | o, v :: r => setL (cs.set o v) (o + 1) r
theorem Cq.cells {q : Nat} : ∀ (vs : List Value) (o : Nat) {W : World} {cs : List Value}, Cq W q cs → Cq (W.setCells q o vs) q (setL cs o vs)
  | [], _, _, _, h => h
  | v :: r, o, _, _, h => Cq.cells r (o + 1) (h.put o v)
theorem Cq.othcells {q p : Nat} (hp : q ≠ p) : ∀ (vs : List Value) (o : Nat) {W : World} {cs : List Value}, Cq W q cs → Cq (W.setCells p o vs) q cs
  | [], _, _, _, h => h
  | v :: r, o, _, _, h => Cq.othcells hp r (o + 1) (h.oth hp o v)
theorem set_new (W : World) (c c' : Array Value) (t : TypeId) : ((W.alloc (.cells c t)).drew).setRow W.heap.size c' = (W.alloc (.cells c' t)).drew := by
  rw [← World.setRow_alloc_new W c c' t]
  rfl
theorem two {A F : Prop} (h : F → A) (hf : F) : A := h hf
theorem mayline_any (n : Int) (w : World) :
    Calls Tryz.prog 150 #[.int .i64 n] w fun e w' => e = .returned (.bool (decide (0 ≤ n ∧ n < 2199023255552))) ∧ w' = w := by
  by_cases h0 : 0 ≤ n
  · by_cases h1 : n < 2199023255552
    · have hd := hid (decide_eq_true (show 0 ≤ n ∧ n < 2199023255552 from ⟨h0, h1⟩))
      go_enter Tryz.func150, Tryz.ntmps150
      go_wp2
      go_ret
      exact ⟨ret_bool hd.out.symm, rfl⟩
    · have hd := hid (decide_eq_false (show ¬ (0 ≤ n ∧ n < 2199023255552) from fun h => h1 h.2))
      go_enter Tryz.func150, Tryz.ntmps150
      go_wp2
      go_ret
      exact ⟨ret_bool (by simp; omega), rfl⟩
  · have hd := hid (decide_eq_false (show ¬ (0 ≤ n ∧ n < 2199023255552) from fun h => h0 h.1))
    go_enter Tryz.func150, Tryz.ntmps150
    go_wp2
    go_ret
    exact ⟨ret_bool (by simp; omega), rfl⟩
def cnL (n : Int) : List UInt8 := if 0 ≤ n ∧ n < 2199023255552 then nmL (n + 1).toNat else []
theorem nm_nat (m : Nat) : ((UInt8.ofNat (65 + m % 26)).toNat : Int) = 65 + (m : Int) % 26 := by
  rw [nm_byte]
  omega
def NI (N m : Nat) (l : List UInt8) : Prop := nmL m ++ l = nmL N
theorem NI.next {N m : Nat} {l : List UInt8} (h : NI N (m + 1) l) : NI N (m / 26) (UInt8.ofNat (65 + m % 26) :: l) := by
  unfold NI at *
  rw [nm_succ] at h
  rw [← h]
  simp
theorem NI.len {N m : Nat} {l : List UInt8} (h : NI N m l) (hN : N ≤ 2199023255552) : (nmL m).length + l.length ≤ 9 := by
  have h1 := nm_nine N hN
  rw [← h, List.length_append] at h1
  exact h1
structure RM (W : World) (B : Nat) (l : List UInt8) : Prop where
  cells : ∀ o : Nat, o < 9 → ∃ v, W.cell? ⟨B, o, none⟩ = some (.int .u8 v)
  tail : ∀ j (h : j < l.length), W.cell? ⟨B, 9 - l.length + j, none⟩ = some (.int .u8 (l[j].toNat : Int))
  free : ∀ o : Nat, o < 9 → W.frozen? ⟨B, o, none⟩ = false
  big : B < W.heap.size
theorem RM.set {W : World} {B k : Nat} {l : List UInt8} (h : RM W B l) (hk : k + l.length = 8) (c : UInt8) : RM (W.setCell ⟨B, k, none⟩ (.int .u8 (c.toNat : Int))) B (c :: l) := by
  refine ⟨fun o ho => ?_, fun j hj => ?_, fun o ho => ?_, ?_⟩
  · by_cases e : o = k
    · subst e
      obtain ⟨v, hv⟩ := h.cells o ho
      exact ⟨_, World.cell?_setCell_same _ _ _ hv⟩
    · rw [World.cell?_setCell_other _ _ _ _ (by simp [Ne.symm e])]
      exact h.cells o ho
  · have e9 : 9 - (c :: l).length = k := by rw [List.length_cons]; omega
    rw [e9]
    match j, hj with
    | 0, _ =>
      obtain ⟨v, hv⟩ := h.cells k (by omega)
      exact World.cell?_setCell_same _ _ _ hv
    | j + 1, hj =>
      rw [World.cell?_setCell_other _ _ _ _ (by simp)]
      have h1 := h.tail j (by simpa using hj)
      rw [show 9 - l.length + j = k + (j + 1) by omega] at h1
      exact h1
  · rw [World.frozen?_setCell]; exact h.free o ho
  · rw [World.size_setCell]; exact h.big
theorem RM.start (w : World) : RM (w.alloc (.cells #[.int .u8 0, .int .u8 0, .int .u8 0, .int .u8 0, .int .u8 0, .int .u8 0, .int .u8 0, .int .u8 0, .int .u8 0] 230)) w.heap.size [] := by
  refine ⟨fun o ho => ⟨0, ?_⟩, fun j hj => absurd hj (by simp), fun o ho => World.frozen?_alloc_new _ _ _ _, by rw [World.size_alloc]; omega⟩
  rw [World.cell?_alloc_new]
  rcases (by omega : o = 0 ∨ o = 1 ∨ o = 2 ∨ o = 3 ∨ o = 4 ∨ o = 5 ∨ o = 6 ∨ o = 7 ∨ o = 8) with rfl | rfl | rfl | rfl | rfl | rfl | rfl | rfl | rfl <;> rfl
set_option maxHeartbeats 1000000 in
theorem name_yes (n : Int) (N : Nat) (w : World) (hN : Hid (n + 1 = (N : Int))) (n0 : 0 ≤ n) (n1 : n < 2199023255552) :
    Calls Tryz.prog 152 #[.int .i64 n] w fun e w' => e = .returned (.string ⟨(nmL N).toArray⟩) ∧ Q w w' := by
  have HM := hid (fun W => mayline_any n W)
  rw [show decide (0 ≤ n ∧ n < 2199023255552) = true from decide_eq_true ⟨n0, n1⟩] at HM
  have hal : Tryz.prog.arrayLen 230 = 9 := by kernel_rfl
  have HS := hid (RM.start w)
  go_enter Tryz.func152, Tryz.ntmps152
  go_wp2_with (go_at_call 150; refine (HM.out _).mono ?_; rintro e w1 ⟨rfl, rfl⟩)
  go_loopw [0, 4] (fun a b W => ∃ (x : Int) (m k : Nat) (l : List UInt8), a = .int .i64 x ∧ b = .int .i64 (k : Int) ∧ k + l.length = 9 ∧ Hid (x = (m : Int)) ∧ 0 ≤ x ∧ x ≤ 2199023255552 ∧ NI N m l ∧ RM W w1.heap.size l ∧ Q w1 W) (fun a b _ => (intOf a).toNat)
  case atStart => exact ⟨n + 1, N, 9, [], rfl, rfl, rfl, hN, by omega, by omega, List.append_nil _, HS.out, (Q.refl _).alloc _⟩
  case round =>
    obtain ⟨x, m, k, l, rfl, rfl, hk, hx, x0, x1, di, hr, hq⟩ := hrel
    have hl20 := di.len (by have := hN.out; omega)
    have HD := hid di
    have HR := hid hr
    have HQ := hid hq
    clear di hr hq
    by_cases hp : 0 < x
    · obtain ⟨p, rfl⟩ : ∃ p, m = p + 1 := ⟨m - 1, by have := hx.out; omega⟩
      have hne : 0 < (nmL (p + 1)).length := List.length_pos_iff.2 (nm_ne _ (by omega))
      obtain ⟨k, rfl⟩ : ∃ k', k = k' + 1 := ⟨k - 1, by omega⟩
      have HN := hid (HD.out.next)
      have hc : ((UInt8.ofNat (65 + p % 26)).toNat : Int) = 65 + (x - 1) % 26 := by rw [nm_nat p, hx.out]; omega
      obtain ⟨c, ec⟩ : ∃ c, c = UInt8.ofNat (65 + p % 26) := ⟨_, rfl⟩
      rw [← ec] at HN hc
      have hx' : Hid ((x - 1) / 26 = ((p / 26 : Nat) : Int)) := by show _ = _; rw [hx.out]; omega
      obtain ⟨v, hv⟩ := HR.out.cells k (by omega)
      have hf := HR.out.free k (by omega)
      have hbg := HR.out.big
      have HW := hid (HR.out.set (k := k) (by omega) c)
      rw [hc] at HW
      clear ec hc HD
      go_wp2
      go_roundw
      case rel => exact ⟨(x - 1) / 26, p / 26, k, c :: l, rfl, rfl, by rw [List.length_cons]; omega, hx', by omega, by omega, HN.out, HW.out, HQ.out.setCell (Nat.le_refl _) _⟩
      case measure =>
        simp only [intOf]
        omega
    · have hm0 : m = 0 := by have := hx.out; omega
      subst hm0
      have HF : Hid (l = nmL N) := by have := HD.out; unfold NI at this; rw [nmL] at this; exact this
      have hlp : 0 < l.length := by rw [HF.out]; exact List.length_pos_iff.2 (nm_ne _ (by have := hN.out; omega))
      have hsl : ∀ W, (Instr.sliceAt 230 (.pointer (some ⟨w1.heap.size, 0, none⟩)) (some (.int .i64 (k : Int))) none none).run Tryz.prog W = .ok (.slice (some ⟨w1.heap.size, k, none⟩) l.length l.length) W := fun W => by
        rw [run_sliceAt_array_l W 230 ⟨w1.heap.size, 0, none⟩ (by kernel_rfl) .i64 (k : Int) (by omega) (by rw [hal]; omega)]
        go_simp
        omega
      have hcv : (convert 101 9 (.slice (some ⟨w1.heap.size, k, none⟩) l.length l.length)).run Tryz.prog wr = .ok (.string ⟨l.toArray⟩) wr :=
        run_convert_bytes_back (P := Tryz.prog) wr 101 9 5 ⟨w1.heap.size, k, none⟩ l.length l Tryz.underlying101 Tryz.underlying5 Tryz.underlying9 (fun j hj => by
          have h1 := HR.out.tail j hj
          rw [show 9 - l.length + j = k + j by omega] at h1
          rw [Lib.add_plain]
          exact h1)
      clear HD
      go_wp2
      go_ret
      exact ⟨ret_str (by rw [HF.out]), HQ.out⟩
theorem name_any (n : Int) (w : World) :
    Calls Tryz.prog 152 #[.int .i64 n] w fun e w' => e = .returned (.string ⟨(cnL n).toArray⟩) ∧ Q w w' := by
  by_cases h : 0 ≤ n ∧ n < 2199023255552
  · unfold cnL
    rw [if_pos h]
    exact name_yes n _ w (by show _ = _; omega) h.1 h.2
  · have HC : Hid (cnL n = []) := by show _ = _; unfold cnL; rw [if_neg h]
    have HM := hid (fun W => mayline_any n W)
    rw [show decide (0 ≤ n ∧ n < 2199023255552) = false from decide_eq_false h] at HM
    clear h
    go_enter Tryz.func152, Tryz.ntmps152
    go_wp2_with (go_at_call 150; refine (HM.out _).mono ?_; rintro e w1 ⟨rfl, rfl⟩)
    go_ret
    exact ⟨ret_str (by rw [HC.out]), Q.refl _⟩
end Go.Proofs.YthebfhdpofhmpaaGreatDoor
namespace Go.Proofs.YthebfhdpofhmpaaGreatDoor.V
open Go.RowKit
theorem Q.setCell {a w : World} (h : Q a w) {b k : Nat} (hb : a.heap.size ≤ b) (v : Value) : Q a (w.setCell ⟨b, k, none⟩ v) := Below.setCell h hb v
end Go.Proofs.YthebfhdpofhmpaaGreatDoor.V
namespace Go.Proofs.YthebfhdpofhmpaaGreatDoor.V
open Go Go.Lib
structure At (s : ByteArray) (k : Nat) (A : Bool) : Prop where
  asc : ∀ (h : k < s.size), s[k].toNat < 128 → validD (s.data.toList.drop (k + 1)) = A
  bad : ∀ (h : k < s.size), ((128 ≤ s[k].toNat ∧ s[k].toNat < 194) ∨ 245 ≤ s[k].toNat) → A = false
  two0 : ∀ (h : k < s.size), 194 ≤ s[k].toNat → s[k].toNat ≤ 223 → s.size ≤ k + 1 → A = false
  two1 : ∀ (h : k < s.size) (h1 : k + 1 < s.size), 194 ≤ s[k].toNat → s[k].toNat ≤ 223 → (s[k + 1].toNat < 128 ∨ 191 < s[k + 1].toNat) → A = false
  two : ∀ (h : k < s.size) (h1 : k + 1 < s.size), 194 ≤ s[k].toNat → s[k].toNat ≤ 223 → (128 ≤ s[k + 1].toNat ∧ s[k + 1].toNat ≤ 191) → validD (s.data.toList.drop (k + 2)) = A
  three0 : ∀ (h : k < s.size), 224 ≤ s[k].toNat → s[k].toNat ≤ 239 → s.size ≤ k + 2 → A = false
  three1 : ∀ (h : k < s.size) (h1 : k + 1 < s.size) (h2 : k + 2 < s.size), 224 ≤ s[k].toNat → s[k].toNat ≤ 239 →
    ((s[k].toNat = 224 ∧ s[k + 1].toNat < 160) ∨ (s[k].toNat = 237 ∧ 159 < s[k + 1].toNat) ∨ s[k + 1].toNat < 128 ∨ 191 < s[k + 1].toNat ∨ s[k + 2].toNat < 128 ∨ 191 < s[k + 2].toNat) → A = false
  three : ∀ (h : k < s.size) (h1 : k + 1 < s.size) (h2 : k + 2 < s.size), 224 ≤ s[k].toNat → s[k].toNat ≤ 239 →
    ((s[k].toNat = 224 → 160 ≤ s[k + 1].toNat) ∧ (s[k].toNat = 237 → s[k + 1].toNat ≤ 159) ∧ 128 ≤ s[k + 1].toNat ∧ s[k + 1].toNat ≤ 191 ∧ 128 ≤ s[k + 2].toNat ∧ s[k + 2].toNat ≤ 191) → validD (s.data.toList.drop (k + 3)) = A
  four0 : ∀ (h : k < s.size), 240 ≤ s[k].toNat → s[k].toNat ≤ 244 → s.size ≤ k + 3 → A = false
  four1 : ∀ (h : k < s.size) (h1 : k + 1 < s.size) (h2 : k + 2 < s.size) (h3 : k + 3 < s.size), 240 ≤ s[k].toNat → s[k].toNat ≤ 244 →
    ((s[k].toNat = 240 ∧ s[k + 1].toNat < 144) ∨ (s[k].toNat = 244 ∧ 143 < s[k + 1].toNat) ∨ s[k + 1].toNat < 128 ∨ 191 < s[k + 1].toNat ∨ s[k + 2].toNat < 128 ∨ 191 < s[k + 2].toNat ∨ s[k + 3].toNat < 128 ∨ 191 < s[k + 3].toNat) → A = false
  four : ∀ (h : k < s.size) (h1 : k + 1 < s.size) (h2 : k + 2 < s.size) (h3 : k + 3 < s.size), 240 ≤ s[k].toNat → s[k].toNat ≤ 244 →
    ((s[k].toNat = 240 → 144 ≤ s[k + 1].toNat) ∧ (s[k].toNat = 244 → s[k + 1].toNat ≤ 143) ∧ 128 ≤ s[k + 1].toNat ∧ s[k + 1].toNat ≤ 191 ∧ 128 ≤ s[k + 2].toNat ∧ s[k + 2].toNat ≤ 191 ∧ 128 ≤ s[k + 3].toNat ∧ s[k + 3].toNat ≤ 191) → validD (s.data.toList.drop (k + 4)) = A
end Go.Proofs.YthebfhdpofhmpaaGreatDoor.V
namespace Go.Proofs.YthebfhdpofhmpaaGreatDoor
def hd : Ex → Int × Int × List UInt8 × Bool × Int × List Rf
  | .mk k n t b e rs _ => (k, n, t, b, e, rs)
def kd : Ex → List Ex
  | .mk _ _ _ _ _ _ ks => ks
theorem ex_eq {x y : Ex} : x = y ↔ hd x = hd y ∧ kd x = kd y := by
  cases x with
  | mk k n t b e rs ks =>
    cases y with
    | mk k' n' t' b' e' rs' ks' =>
      simp only [hd, kd, Ex.mk.injEq, Prod.mk.injEq]
      constructor
      · rintro ⟨h1, h2, h3, h4, h5, h6, h7⟩
        exact ⟨⟨h1, h2, h3, h4, h5, h6⟩, h7⟩
      · rintro ⟨⟨h1, h2, h3, h4, h5, h6⟩, h7⟩
        exact ⟨h1, h2, h3, h4, h5, h6, h7⟩
theorem nodes_kd (x : Ex) : nodes x = 1 + nodes.nodesL (kd x) := by
  cases x with
  | mk k n t b e rs ks => rw [nodes]; rfl
abbrev Pr := List Ex × List Ex
structure Eqv (R : Prop) (L K : List Pr) : Prop where
  all : R ↔ ∀ p ∈ L, p.1 = p.2
  bgn : ∀ k ∈ K, (∀ p ∈ L, nodes.nodesL p.1 ≤ nodes.nodesL k.1 → p.1 = p.2) → k.1 = k.2
theorem eqv_start (x y : Ex) : Eqv (x = y) [([x], [y])] [] := by
  refine ⟨?_, fun k hk => absurd hk (by simp)⟩
  constructor
  · intro h p hp
    simp at hp
    subst hp h
    rfl
  · intro h
    have := h ([x], [y]) (by simp)
    simpa using this
theorem Eqv.done {R : Prop} {K : List Pr} (h : Eqv R [] K) : R := h.all.2 (fun p hp => absurd hp (by simp))
theorem Eqv.pop {R : Prop} {L K : List Pr} (h : Eqv R (([], []) :: L) K) : Eqv R L K := by
  refine ⟨?_, fun k hk hl => h.bgn k hk (fun p hp hs => ?_)⟩
  · rw [h.all]
    constructor
    · intro g p hp
      exact g p (by simp [hp])
    · intro g p hp
      simp at hp
      rcases hp with rfl | hp
      · rfl
      · exact g p hp
  · simp at hp
    rcases hp with rfl | hp
    · rfl
    · exact hl p hp hs
theorem Eqv.no {R : Prop} {L K : List Pr} {x y : Ex} {xs ys : List Ex} (h : Eqv R ((x :: xs, y :: ys) :: L) K) (hn : ¬ (hd x = hd y ∧ (kd x).length = (kd y).length)) : ¬ R := by
  intro r
  have := h.all.1 r (x :: xs, y :: ys) (by simp)
  simp at this
  rw [this.1] at hn
  exact hn ⟨rfl, rfl⟩
theorem Eqv.step {R : Prop} {L K : List Pr} {x y : Ex} {xs ys : List Ex} {L' K' : List Pr} (h : Eqv R ((x :: xs, y :: ys) :: L) K) (hh : hd x = hd y)
    (hk : (∀ p ∈ (xs, ys) :: L, nodes.nodesL p.1 ≤ nodes.nodesL (kd x) → p.1 = p.2) → (∀ p ∈ L', nodes.nodesL p.1 ≤ nodes.nodesL (kd x) → p.1 = p.2) → kd x = kd y)
    (hL : ∀ p, p ∈ L' → p ∈ (xs, ys) :: L ∨ p = (kd x, kd y)) (hL' : ∀ p ∈ (xs, ys) :: L, p ∈ L') (hK : ∀ k ∈ K', k ∈ K ∨ (k = (kd x, kd y) ∧ (kd x, kd y) ∈ L')) : Eqv R L' K' := by
  have hs : nodes.nodesL (x :: xs) = 1 + nodes.nodesL (kd x) + nodes.nodesL xs := by rw [nodes.nodesL, nodes_kd]
  have cur : ∀ m, nodes.nodesL (x :: xs) ≤ m → (∀ p ∈ L', nodes.nodesL p.1 ≤ m → p.1 = p.2) → x :: xs = y :: ys := by
    intro m hm hl
    have h1 : xs = ys := hl (xs, ys) (hL' _ (by simp)) (by simp; omega)
    have h2 : kd x = kd y := hk (fun p hp hs' => hl p (hL' _ hp) (by omega)) (fun p hp hs' => hl p hp (by omega))
    rw [h1, ex_eq.2 ⟨hh, h2⟩]
  refine ⟨?_, fun k hk' hl => ?_⟩
  · rw [h.all]
    constructor
    · intro g p hp
      have g0 := g (x :: xs, y :: ys) (by simp)
      simp at g0
      rcases hL p hp with hp | rfl
      · simp at hp
        rcases hp with rfl | hp
        · exact g0.2
        · exact g p (by simp [hp])
      · rw [g0.1]
    · intro g p hp
      simp at hp
      rcases hp with rfl | hp
      · exact cur _ (Nat.le_refl _) (fun p hp _ => g p hp)
      · exact g p (hL' _ (by simp [hp]))
  · rcases hK k hk' with hk' | ⟨rfl, hm⟩
    · refine h.bgn k hk' (fun p hp hs' => ?_)
      simp at hp
      rcases hp with rfl | hp
      · exact cur _ hs' (fun p hp hs' => hl p hp hs')
      · exact hl p (hL' _ (by simp [hp])) hs'
    · exact hl _ hm (Nat.le_refl _)
theorem Eqv.leaf {R : Prop} {L K : List Pr} {x y : Ex} {xs ys : List Ex} (h : Eqv R ((x :: xs, y :: ys) :: L) K) (hh : hd x = hd y) (hx : kd x = []) (hy : (kd x).length = (kd y).length) : Eqv R ((xs, ys) :: L) K :=
  h.step hh (fun _ _ => by
    rw [hx] at hy ⊢
    exact (List.eq_nil_of_length_eq_zero hy.symm).symm) (fun p hp => .inl hp) (fun p hp => hp) (fun k hk => .inl hk)
theorem Eqv.old {R : Prop} {L K : List Pr} {x y : Ex} {xs ys : List Ex} (h : Eqv R ((x :: xs, y :: ys) :: L) K) (hh : hd x = hd y) (hb : (kd x, kd y) ∈ K) : Eqv R ((xs, ys) :: L) K :=
  h.step hh (fun g _ => h.bgn _ hb (fun p hp hs => by
    simp at hp
    rcases hp with rfl | hp
    · rw [nodes.nodesL, nodes_kd] at hs
      simp at hs
      omega
    · exact g p (by simp [hp]) hs)) (fun p hp => .inl hp) (fun p hp => hp) (fun k hk => .inl hk)
theorem Eqv.new {R : Prop} {L K : List Pr} {x y : Ex} {xs ys : List Ex} (h : Eqv R ((x :: xs, y :: ys) :: L) K) (hh : hd x = hd y) : Eqv R ((xs, ys) :: (kd x, kd y) :: L) ((kd x, kd y) :: K) :=
  h.step hh (fun _ g => g (kd x, kd y) (by simp) (Nat.le_refl _)) (fun p hp => by
    simp at hp ⊢
    rcases hp with h | h | h
    · exact .inl (.inl h)
    · exact .inr h
    · exact .inl (.inr h)) (fun p hp => by
    simp at hp ⊢
    rcases hp with h | h
    · exact .inl h
    · exact .inr (.inr h)) (fun k hk => by
    simp at hk
    rcases hk with h | h
    · exact .inr ⟨h, by simp⟩
    · exact .inl h)
def wgt (L : List Pr) : Nat := (L.map fun p => nodes.nodesL p.1).sum
theorem wgt_cons (p : Pr) (L : List Pr) : wgt (p :: L) = nodes.nodesL p.1 + wgt L := by simp [wgt]
theorem nodesL_cons' (x : Ex) (xs : List Ex) : nodes.nodesL (x :: xs) = 1 + nodes.nodesL (kd x) + nodes.nodesL xs := by rw [nodes.nodesL, nodes_kd]
end Go.Proofs.YthebfhdpofhmpaaGreatDoor
namespace Go.Proofs.YthebfhdpofhmpaaGreatDoor
open Go.RowKit
def lnB (n : Int) : Bool := decide (0 ≤ n ∧ n < 2199023255552)
theorem mayLine_any' (n : Int) (w : World) : Calls Tryz.prog 28 #[.int .i64 n] w fun e w' => e = .returned (.bool (lnB n)) ∧ w' = w := by
  by_cases h : 0 ≤ n
  · by_cases h' : n < 2199023255552
    · have HR : Hid (lnB n = true) := hid (decide_eq_true ⟨h, h'⟩)
      go_enter Tryz.func28, Tryz.ntmps28
      go_wp2
      go_ret
      exact ⟨ret_bool HR.out.symm, rfl⟩
    · have HR : Hid (lnB n = false) := hid (decide_eq_false (fun x => h' x.2))
      go_enter Tryz.func28, Tryz.ntmps28
      go_wp2
      go_ret
      exact ⟨ret_bool HR.out.symm, rfl⟩
  · have HR : Hid (lnB n = false) := hid (decide_eq_false (fun x => h x.1))
    go_enter Tryz.func28, Tryz.ntmps28
    go_wp2
    go_ret
    exact ⟨ret_bool HR.out.symm, rfl⟩
end Go.Proofs.YthebfhdpofhmpaaGreatDoor
namespace Go.Proofs.YthebfhdpofhmpaaGreatDoor.L.Ax
set_option linter.unusedVariables false
set_option linter.unusedSimpArgs false
set_option maxHeartbeats 4000000
def lf (g a : Int) : Int := if a < g then g - 1 else g
def idx (k a t i : Int) : Int :=
  if k = 1 then (if a ≤ i then i + 1 else i)
  else if k = 2 then (if i = a then -1 else lf i a)
  else if i = a then lf t a else if lf t a ≤ lf i a then lf i a + 1 else lf i a
def gap (k a t g : Int) (bh : Bool) : Int :=
  if k = 1 then (if a < g ∨ (g = a ∧ bh = true) then g + 1 else g)
  else if k = 2 then lf g a
  else if lf t a < lf g a ∨ (lf g a = lf t a ∧ bh = true) then lf g a + 1 else lf g a
def ok (k a t : Int) : Prop := (k = 1 ∧ t = 0) ∨ (k = 2 ∧ t = 0) ∨ (k = 3 ∧ t ≠ a ∧ t ≠ a + 1)
def okB (k a t : Int) : Bool := if k = 1 then decide (t = 0) else if k = 2 then decide (t = 0) else if k = 3 then decide (t ≠ a ∧ t ≠ a + 1) else false
theorem okB_iff (k a t : Int) : okB k a t = true ↔ ok k a t := by
  unfold okB ok; by_cases h1 : k = 1 <;> by_cases h2 : k = 2 <;> by_cases h3 : k = 3 <;> simp [h1, h2, h3] <;> omega
end Go.Proofs.YthebfhdpofhmpaaGreatDoor.L.Ax
namespace Go.Proofs.YthebfhdpofhmpaaGreatDoor.IV
set_option linter.unusedVariables false
set_option linter.unusedSimpArgs false
def frm (a0 : Act) (ds : List Nat) (v : Nat → Value) : Act := { a0 with tmps := ds.foldl (fun t d => t.setIfInBounds d (v d)) a0.tmps }
def up (v : Nat → Value) (d : Nat) (x : Value) : Nat → Value := fun t => if t = d then x else v t
def ul (L : Nat → Bool) (i : Nat) : Nat → Bool := fun j => if j = i then true else L j
theorem ul_same {L : Nat → Bool} {i : Nat} : ul L i i = true := if_pos rfl
theorem ul_ne {L : Nat → Bool} {i j : Nat} (h : j ≠ i) : ul L i j = L j := if_neg h
theorem fold_get (ds : List Nat) (v : Nat → Value) : ∀ (t : Array Value) (j : Nat), (ds.foldl (fun t d => t.setIfInBounds d (v d)) t)[j]? = if j ∈ ds then (t[j]?).map (fun _ => v j) else t[j]? := by
  induction ds with
  | nil => intro t j; simp
  | cons d ds ih =>
    intro t j
    rw [List.foldl_cons, ih]
    by_cases hj : j = d
    · subst hj
      by_cases hm : j ∈ ds
      · simp [hm, Array.getElem?_setIfInBounds]
        split <;> simp_all
      · simp [hm, Array.getElem?_setIfInBounds]
        split <;> simp_all
    · have hne : ¬ d = j := fun h => hj h.symm
      rw [Array.getElem?_setIfInBounds_ne hne]
      simp [hj]
theorem frm_put {a0 : Act} {ds : List Nat} {v : Nat → Value} {d : Nat} {x : Value} (hd : d ∈ ds) : (frm a0 ds v).put (some d) x = frm a0 ds (up v d x) := by
  unfold frm Act.put
  show Act.mk _ _ = Act.mk _ _
  congr 1
  apply Array.ext_getElem?
  intro j
  rw [fold_get]
  by_cases hj : j = d
  · subst hj
    simp only [Array.getElem?_setIfInBounds, if_true]
    have h := fold_get ds v a0.tmps j
    simp only [hd, if_true] at h ⊢
    split
    · rename_i hlt
      rw [Array.getElem?_eq_getElem hlt] at h
      cases h2 : a0.tmps[j]? with
      | none => rw [h2] at h; simp at h
      | some y => simp [up]
    · rename_i hlt
      rw [Array.getElem?_eq_none (Nat.le_of_not_lt hlt)] at h
      cases h2 : a0.tmps[j]? with
      | none => simp
      | some y => rw [h2] at h; simp at h
  · have hne : d ≠ j := fun h => hj h.symm
    rw [Array.getElem?_setIfInBounds_ne hne, fold_get]
    simp only [up, if_neg hj]
theorem frm_self (a0 : Act) (ds : List Nat) : frm a0 ds (fun d => a0.tmps.getD d undef) = a0 := by
  unfold frm
  cases a0 with
  | mk t df =>
    congr 1
    apply Array.ext_getElem?
    intro j
    rw [fold_get]
    split
    · cases h : t[j]? with
      | none => rfl
      | some y => simp [Array.getD_eq_getD_getElem?, h]
    · rfl
section
variable {P : Program} {ops : Array Oper} {Q : Exit → Act → World → Prop} {md : Region.Mode}
theorem wpAny_inv {I : Array Bool → Act → World → Prop}
    (hstep : ∀ (i : Nat) (listed : Array Bool) (a : Act) (w : World), I listed a w → i ∈ Region.ready md ops listed → wpOp P ops Q i (I (listed.setIfInBounds i true)) a w)
    (hdone : ∀ listed a w, I listed a w → Region.ready md ops listed = [] → Q .normal a w) :
    ∀ (fuel : Nat) (listed : Array Bool) (a : Act) (w : World), listed.size = ops.size → listed.toList.count false ≤ fuel → I listed a w → wpAny P md ops Q fuel listed a w := by
  intro fuel
  induction fuel with
  | zero =>
    intro listed a w hs hf h
    have hr : Region.ready md ops listed = [] := by
      apply List.eq_nil_iff_forall_not_mem.2
      intro j hj
      obtain ⟨h0, o, ho, _⟩ := mem_ready.1 hj
      have hlt : j < listed.size := by rw [hs]; exact (Array.getElem?_eq_some_iff.1 ho).1
      have hm : false ∈ listed.toList := by
        rw [Array.getD_eq_getD_getElem?, Array.getElem?_eq_getElem hlt] at h0
        simp at h0
        rw [← h0]
        simp
      have := List.count_pos_iff.2 hm
      omega
    exact ⟨hr, hdone _ _ _ h hr⟩
  | succ fuel ih =>
    intro listed a w hs hf h
    refine ⟨fun hr => hdone _ _ _ h hr, fun i hi => ?_⟩
    refine wpOp_mono (fun a' w' h' => ih _ a' w' (by simpa using hs) ?_ h') (hstep i listed a w h hi)
    obtain ⟨h0, o, ho, _⟩ := mem_ready.1 hi
    have hlt : i < listed.size := by rw [hs]; exact (Array.getElem?_eq_some_iff.1 ho).1
    have h1 : listed[i] = false := by
      rw [Array.getD_eq_getD_getElem?, Array.getElem?_eq_getElem hlt] at h0
      simpa using h0
    have hc : (listed.setIfInBounds i true).toList.count false + 1 = listed.toList.count false := by
      have e : (listed.setIfInBounds i true).toList = listed.toList.set i true := by simp
      rw [e, List.count_set (by simpa using hlt)]
      have h2 : listed.toList[i]'(by simpa using hlt) = false := by simpa using h1
      have hp : 0 < listed.toList.count false := List.count_pos_iff.2 (by rw [← h2]; exact List.getElem_mem _)
      have h3 : (listed.toList[i]'(by simpa using hlt) == false) = true := by rw [h2]; rfl
      rw [if_pos h3, if_neg (by simp)]
      omega
    omega
def Back (ops : Array Oper) : Bool := (List.range ops.size).all fun i => ((ops[i]?).map (·.after.all fun e => !Region.binds .any e || decide (e.on < i))).getD true
theorem all_listed (hb : Back ops = true) {listed : Array Bool} (hs : listed.size = ops.size) (hr : Region.ready .any ops listed = []) : ∀ j, j < ops.size → listed.getD j false = true := by
  intro j
  induction j using Nat.strongRecOn with
  | ind j ih =>
    intro hj
    have hlt : j < listed.size := by omega
    cases hl : listed.getD j false with
    | true => rfl
    | false =>
      exfalso
      have hm : j ∈ Region.ready .any ops listed := by
        refine mem_ready.2 ⟨?_, ops[j], Array.getElem?_eq_getElem hj, fun e he hbd => ?_⟩
        · rw [Array.getD_eq_getD_getElem?, Array.getElem?_eq_getElem hlt] at hl ⊢
          simpa using hl
        · have h1 := List.all_eq_true.1 hb j (List.mem_range.2 hj)
          rw [Array.getElem?_eq_getElem hj] at h1
          simp only [Option.map_some, Option.getD_some] at h1
          have h2 := Array.all_eq_true_iff_forall_mem.1 h1 e he
          have h3 : e.on < j := by simpa [hbd] using h2
          exact ih e.on h3 (by omega)
      rw [hr] at hm
      cases hm
abbrev Ks (a0 : Act) (ds : List Nat) (J : (Nat → Value) → World → Prop) : Act → World → Prop := fun a w => ∃ v, a = frm a0 ds v ∧ J v w
def deps (o : Oper) : List Nat := (o.after.toList.filter (Region.binds .any)).map (·.on)
def StepAt (P : Program) (ops : Array Oper) (Q : Exit → Act → World → Prop) (a0 : Act) (ds : List Nat) (I : (Nat → Bool) → (Nat → Value) → World → Prop) (i : Nat) (o : Oper) : Prop :=
  ∀ L v w, I L v w → L i = false → (∀ j ∈ deps o, L j = true) → wpOp P ops Q i (Ks a0 ds (I (ul L i))) (frm a0 ds v) w
theorem wp_region_inv {id : Nat} {a0 : Act} {w0 : World} (hm : P.follows .mixedOrders = true) (ds : List Nat) (I : (Nat → Bool) → (Nat → Value) → World → Prop)
    (hb : Back ops = true)
    (hsteps : ∀ i o, ops[i]? = some o → StepAt P ops Q a0 ds I i o)
    (h0 : I (fun _ => false) (fun d => a0.tmps.getD d undef) { w0 with drawn := w0.drawn + 1 })
    (hdone : ∀ L v w, (∀ j, j < ops.size → L j = true) → I L v w → Q .normal (frm a0 ds v) w) : (Code.region id ops true).wp P Q a0 w0 := by
  refine wp_region_any hm ?_
  refine wpAny_inv (I := fun listed a w => listed.size = ops.size ∧ Ks a0 ds (I (fun j => listed.getD j false)) a w) ?_ ?_ _ _ _ _ (by simp) (by simp) ?_
  · rintro i listed a w ⟨hs, v, rfl, hI⟩ hi
    obtain ⟨h1, o, ho, hall⟩ := mem_ready.1 hi
    have hlt : i < listed.size := by rw [hs]; exact (Array.getElem?_eq_some_iff.1 ho).1
    refine wpOp_mono ?_ (hsteps i o ho (fun j => listed.getD j false) v w hI ?_ ?_)
    · rintro a' w' ⟨v', rfl, h'⟩
      refine ⟨by simpa using hs, v', rfl, ?_⟩
      have e : ul (fun j => listed.getD j false) i = fun j => (listed.setIfInBounds i true).getD j false := by
        funext j
        by_cases hj : j = i
        · subst hj; rw [ul_same]; simp [hlt]
        · rw [ul_ne hj, getD_set_ne false (Ne.symm hj)]
      rw [← e]
      exact h'
    · rw [Array.getD_eq_getD_getElem?, Array.getElem?_eq_getElem hlt] at h1
      show listed.getD i false = false
      rw [Array.getD_eq_getD_getElem?, Array.getElem?_eq_getElem hlt]
      simpa using h1
    · intro j hj
      unfold deps at hj
      obtain ⟨e, he, rfl⟩ := List.mem_map.1 hj
      obtain ⟨he, hbd⟩ := List.mem_filter.1 he
      exact hall e (by simpa using he) hbd
  · rintro listed a w ⟨hs, v, rfl, hI⟩ hr
    exact hdone _ _ _ (fun j hj => all_listed hb hs hr j hj) hI
  · refine ⟨by simp, _, (frm_self a0 ds).symm, ?_⟩
    have e : (fun j => (Array.replicate ops.size false).getD j false) = fun _ => false := by
      funext j
      simp [Array.getD_eq_getD_getElem?, Array.getElem?_replicate]
      split <;> rfl
    rw [e]
    exact h0
variable {a0 : Act} {ds : List Nat} {I : (Nat → Bool) → (Nat → Value) → World → Prop} {J : (Nat → Value) → World → Prop} {v : Nat → Value} {w w' w1 : World} {i : Nat} {o : Oper} {d : Nat} {u : Value}
theorem op_val (ho : ops[i]? = some o) (hg : o.guard = none) (hd : o.dst = some d) (hm : d ∈ ds) (h : (execOp (frm a0 ds v).eval o).run P w = .ok (.value u) w') (hI : J (up v d u) w') :
    wpOp P ops Q i (Ks a0 ds J) (frm a0 ds v) w := by
  refine wpOp_step ho fun K' hK => ?_
  have hw : Region.wanted o (yielded ops (frm a0 ds v).tmps) = true := by unfold Region.wanted; rw [hg]
  rw [if_pos hw]
  unfold Oper.wp
  rw [h, Oper.upon_value, hd]
  exact hK _ _ ⟨up v d u, frm_put hm, hI⟩
theorem op_non (ho : ops[i]? = some o) (hg : o.guard = none) (hd : o.dst = none) (h : (execOp (frm a0 ds v).eval o).run P w = .ok .skip w') (hI : J v w') :
    wpOp P ops Q i (Ks a0 ds J) (frm a0 ds v) w := by
  refine wpOp_step ho fun K' hK => ?_
  have hw : Region.wanted o (yielded ops (frm a0 ds v).tmps) = true := by unfold Region.wanted; rw [hg]
  rw [if_pos hw]
  unfold Oper.wp
  rw [h, Oper.upon_skip, hd]
  exact hK _ _ ⟨v, rfl, hI⟩
theorem op_call (ho : ops[i]? = some o) (hg : o.guard = none) (hd : o.dst = some d) (hm : d ∈ ds) {f : FuncId} {args : Array Value} (h : (execOp (frm a0 ds v).eval o).run P w = .ok (.enter f args) w1)
    (hc : Calls P f args w1 fun e w' => ∃ u, e = .returned u ∧ J (up v d u) w') :
    wpOp P ops Q i (Ks a0 ds J) (frm a0 ds v) w := by
  refine wpOp_step ho fun K' hK => ?_
  have hw : Region.wanted o (yielded ops (frm a0 ds v).tmps) = true := by unfold Region.wanted; rw [hg]
  rw [if_pos hw]
  unfold Oper.wp
  rw [h, Oper.upon_enter, hd]
  refine hc.mono ?_
  rintro e w2 ⟨u, rfl, hI⟩
  exact hK _ _ ⟨up v d u, frm_put hm, hI⟩
end
def SL (S : Nat → Oper → Prop) : Nat → List Oper → Prop
  | _, [] => True
  | k, o :: r => S k o ∧ SL S (k + 1) r
theorem sl_get {S : Nat → Oper → Prop} : ∀ (l : List Oper) (k : Nat), SL S k l → ∀ i o, l[i]? = some o → S (k + i) o
  | [], _, _, i, o, h => by simp at h
  | a :: l, k, hs, i, o, h => by
    cases i with
    | zero => simp at h; subst h; exact hs.1
    | succ i =>
      have := sl_get l (k + 1) hs.2 i o (by simpa using h)
      rw [show k + (i + 1) = k + 1 + i by omega]
      exact this
theorem steps_list {S : Nat → Oper → Prop} {l : List Oper} (h : SL S 0 l) : ∀ i o, l.toArray[i]? = some o → S i o := fun i o ho => by
  have := sl_get l 0 h i o (by simpa using ho)
  rwa [Nat.zero_add] at this
theorem frm_get {a0 : Act} {ds : List Nat} {v : Nat → Value} {d : Nat} (hm : d ∈ ds) (hs : (a0.tmps[d]?).isSome = true) : (frm a0 ds v).tmps[d]? = some (v d) := by
  show (ds.foldl (fun t d => t.setIfInBounds d (v d)) a0.tmps)[d]? = _
  rw [fold_get, if_pos hm]
  cases h : a0.tmps[d]? with
  | none => rw [h] at hs; cases hs
  | some x => rfl
section
variable {P : Program} {ops : Array Oper} {Q : Exit → Act → World → Prop} {a0 : Act} {ds : List Nat} {J : (Nat → Value) → World → Prop} {v : Nat → Value} {w w' w1 : World} {i : Nat} {o : Oper} {d : Nat} {u : Value}
end
structure WO (P : Program) (ops : Array Oper) (Q : Exit → Act → World → Prop) (i : Nat) (K : Act → World → Prop) (a : Act) (w : World) : Prop where
  out : wpOp P ops Q i K a w
section
variable {P : Program} {ops : Array Oper} {Q : Exit → Act → World → Prop}
def StepW (P : Program) (ops : Array Oper) (Q : Exit → Act → World → Prop) (a0 : Act) (ds : List Nat) (I : (Nat → Bool) → (Nat → Value) → World → Prop) (i : Nat) (o : Oper) : Prop :=
  ∀ L v w, I L v w → L i = false → (∀ j ∈ deps o, L j = true) → WO P ops Q i (Ks a0 ds (I (ul L i))) (frm a0 ds v) w
theorem wp_region_invw {id : Nat} {a0 : Act} {w0 : World} (hm : P.follows .mixedOrders = true) (ds : List Nat) (I : (Nat → Bool) → (Nat → Value) → World → Prop)
    (hb : Back ops = true)
    (hsteps : ∀ i o, ops[i]? = some o → StepW P ops Q a0 ds I i o)
    (h0 : I (fun _ => false) (fun d => a0.tmps.getD d undef) { w0 with drawn := w0.drawn + 1 })
    (hdone : ∀ L v w, (∀ j, j < ops.size → L j = true) → I L v w → Q .normal (frm a0 ds v) w) : (Code.region id ops true).wp P Q a0 w0 :=
  wp_region_inv hm ds I hb (fun i o ho L v w h1 h2 h3 => (hsteps i o ho L v w h1 h2 h3).out) h0 hdone
variable {a0 : Act} {ds : List Nat} {J : (Nat → Value) → World → Prop} {v : Nat → Value} {w w' w1 : World} {i : Nat} {o : Oper} {d : Nat} {u : Value}
theorem opw_val (ho : ops[i]? = some o) (hg : o.guard = none) (hd : o.dst = some d) (hm : d ∈ ds) (h : (execOp (frm a0 ds v).eval o).run P w = .ok (.value u) w') (hI : J (up v d u) w') :
    WO P ops Q i (Ks a0 ds J) (frm a0 ds v) w := ⟨op_val ho hg hd hm h hI⟩
theorem opw_non (ho : ops[i]? = some o) (hg : o.guard = none) (hd : o.dst = none) (h : (execOp (frm a0 ds v).eval o).run P w = .ok .skip w') (hI : J v w') :
    WO P ops Q i (Ks a0 ds J) (frm a0 ds v) w := ⟨op_non ho hg hd h hI⟩
theorem opw_call (ho : ops[i]? = some o) (hg : o.guard = none) (hd : o.dst = some d) (hm : d ∈ ds) {f : FuncId} {args : Array Value} (h : (execOp (frm a0 ds v).eval o).run P w = .ok (.enter f args) w1)
    (hc : Calls P f args w1 fun e w' => ∃ u, e = .returned u ∧ J (up v d u) w') :
    WO P ops Q i (Ks a0 ds J) (frm a0 ds v) w := ⟨op_call ho hg hd hm h hc⟩
end
section
variable {P : Program} {ops : Array Oper} {Q : Exit → Act → World → Prop} {a0 : Act} {ds : List Nat} {J : (Nat → Value) → World → Prop} {v : Nat → Value} {w w' : World} {i : Nat} {o : Oper} {d : Nat} {u : Value}
theorem opw_wp (ho : ops[i]? = some o) (hg : o.guard = none) (h : Oper.wp P o (frm a0 ds v) w (Ks a0 ds J) Q) : WO P ops Q i (Ks a0 ds J) (frm a0 ds v) w := by
  refine ⟨wpOp_step ho fun K' hK => ?_⟩
  have hw : Region.wanted o (yielded ops (frm a0 ds v).tmps) = true := by unfold Region.wanted; rw [hg]
  rw [if_pos hw]
  exact Oper.wp_mono hK h
theorem ks_put (hd : o.dst = some d) (hm : d ∈ ds) (hI : J (up v d u) w) : Ks a0 ds J ((frm a0 ds v).put o.dst u) w := ⟨up v d u, by rw [hd]; exact frm_put hm, hI⟩
theorem ks_non (hd : o.dst = none) (hI : J v w) : Ks a0 ds J ((frm a0 ds v).put o.dst u) w := ⟨v, by rw [hd]; rfl, hI⟩
theorem frm_eval {d : Nat} (hm : d ∈ ds) (hs : (a0.tmps[d]?).isSome = true) : (frm a0 ds v).eval (.tmp d) = v d := by
  show (frm a0 ds v).tmps.getD d undef = v d
  rw [Array.getD_eq_getD_getElem?, frm_get hm hs]
  rfl
end
end Go.Proofs.YthebfhdpofhmpaaGreatDoor.IV
namespace Go.Proofs.YthebfhdpofhmpaaGreatDoor
open Go
def let1 (c : UInt8) : Bool := decide (65 ≤ c.toNat ∧ c.toNat ≤ 90)
def allL (l : List UInt8) : Bool := l.all let1
theorem val_one (c : UInt8) : val [c] = c.toNat - 48 := by simp [val]
theorem allL_app (a b : List UInt8) : allL (a ++ b) = (allL a && allL b) := by unfold allL; rw [List.all_append]
theorem allD_mem {a : List UInt8} (h : allD a = true) {c : UInt8} (hc : c ∈ a) : 48 ≤ c.toNat ∧ c.toNat ≤ 57 := by
  unfold allD at h
  rw [List.all_eq_true] at h
  have := h c hc
  unfold dig at this
  simpa using this
theorem cut_at (x : UInt8) (a b : List UInt8) (h : x ∉ a) : Lib.cut (a ++ x :: b) [x] = (a, b, true) := by
  have hi : Lib.index (a ++ x :: b) [x] = (a.length : Int) := by
    refine Lib.index_first (by simp) ?_ ?_
    · unfold Lib.occAt
      rw [List.drop_left]
      simp
    · intro j hj
      unfold Lib.occAt
      rw [List.drop_append_of_le_length (by omega), List.drop_eq_getElem_cons hj]
      simp only [List.cons_append, List.isPrefixOf_cons_cons, List.isPrefixOf_nil_left, Bool.and_true, beq_eq_false_iff_ne]
      intro e
      exact h (e ▸ List.getElem_mem hj)
  unfold Lib.cut
  rw [hi, if_pos (by omega)]
  simp
theorem cut_free (x : UInt8) (a : List UInt8) (h : x ∉ a) : Lib.cut a [x] = (a, [], false) := by
  have hi : Lib.index a [x] = -1 := by
    refine Lib.index_none ?_
    intro j hj
    unfold Lib.occAt
    by_cases hl : j < a.length
    · rw [List.drop_eq_getElem_cons hl]
      simp only [List.isPrefixOf_cons_cons, List.isPrefixOf_nil_left, Bool.and_true, beq_eq_false_iff_ne]
      intro e
      exact h (e ▸ List.getElem_mem hl)
    · rw [List.drop_of_length_le (by omega)]
      rfl
  unfold Lib.cut
  rw [hi, if_neg (by omega)]
theorem cut_any (x : UInt8) (t : List UInt8) : (∃ a b, t = a ++ x :: b ∧ x ∉ a) ∨ x ∉ t := by
  induction t with
  | nil => exact .inr (by simp)
  | cons c t ih =>
    by_cases hc : c = x
    · subst hc; exact .inl ⟨[], t, rfl, by simp⟩
    · rcases ih with ⟨a, b, rfl, h⟩ | h
      · exact .inl ⟨c :: a, b, rfl, by simp [h, Ne.symm hc]⟩
      · exact .inr (by simp [h, Ne.symm hc])
theorem val_big (c : UInt8) (l : List UInt8) (hc : 49 ≤ c.toNat) : 10 ^ l.length ≤ val (c :: l) := by
  have e : val (c :: l) = val [c] * 10 ^ l.length + val l := val_app [c] l
  rw [e, val_one]
  have := Nat.mul_le_mul_right (10 ^ l.length) (show 1 ≤ c.toNat - 48 by omega)
  omega
theorem numF_long (l : List UInt8) (most : Nat) (h : 15 < l.length) (hm : most < 1000000000000000) : numF l most = false := by
  match l with
  | [] => simp at h
  | c :: l =>
    unfold numF
    cases hd : allD (c :: l)
    · simp
    · by_cases hc : c = 48
      · subst hc
        have : 1 < ((48 : UInt8) :: l).length := by omega
        have h2 : decide (1 < ((48 : UInt8) :: l).length) = true := decide_eq_true this
        rw [h2]
        simp
      · have h1 := allD_mem hd (c := c) (by simp)
        have h2 : c.toNat ≠ 48 := fun e => hc (UInt8.toNat_inj.1 e)
        have h3 := val_big c l (by omega)
        rw [List.length_cons] at h
        have h4 : 10 ^ 15 ≤ 10 ^ l.length := Nat.pow_le_pow_right (by omega) (by omega)
        have h5 : decide (val (c :: l) ≤ most) = false := decide_eq_false (by omega)
        rw [h5]
        simp
end Go.Proofs.YthebfhdpofhmpaaGreatDoor
namespace Go.Proofs.YthebfhdpofhmpaaGreatDoor
open Go.RowKit
theorem bytes_cat (a b : List UInt8) : (⟨a.toArray⟩ : ByteArray) ++ (⟨b.toArray⟩ : ByteArray) = ⟨(a ++ b).toArray⟩ := by
  apply ByteArray.ext
  simp
theorem bytes_eq {s : ByteArray} {l : List UInt8} (h : s.data.toList = l) : s = ⟨l.toArray⟩ := by
  apply ByteArray.ext
  apply Array.ext'
  exact h
end Go.Proofs.YthebfhdpofhmpaaGreatDoor
namespace Go.Proofs.YthebfhdpofhmpaaGreatDoor.V
open Go
def fitB (n : Int) : Bool := decide (-9223372036854775808 ≤ n ∧ n ≤ 9223372036854775807)
def keep (n : Int) : Int := if fitB n then n else 0
def pk : Option Int → Int | none => 0 | some n => keep n
theorem allD_app (a b : List UInt8) : allD (a ++ b) = (allD a && allD b) := by unfold allD; rw [List.all_append]
theorem cut_at (a b : List UInt8) (h : (46 : UInt8) ∉ a) : Lib.cut (a ++ 46 :: b) [46] = (a, b, true) := by
  have hi : Lib.index (a ++ 46 :: b) [46] = (a.length : Int) := by
    refine Lib.index_first (by simp) ?_ ?_
    · unfold Lib.occAt
      rw [List.drop_left]
      simp
    · intro j hj
      unfold Lib.occAt
      rw [List.drop_append_of_le_length (by omega), List.drop_eq_getElem_cons hj]
      simp only [List.cons_append, List.isPrefixOf_cons_cons, List.isPrefixOf_nil_left, Bool.and_true, beq_eq_false_iff_ne]
      intro e
      exact h (e ▸ List.getElem_mem hj)
  unfold Lib.cut
  rw [hi, if_pos (by omega)]
  simp
theorem cut_free (a : List UInt8) (h : (46 : UInt8) ∉ a) : Lib.cut a [46] = (a, [], false) := by
  have hi : Lib.index a [46] = -1 := by
    refine Lib.index_none ?_
    intro j hj
    unfold Lib.occAt
    by_cases hl : j < a.length
    · rw [List.drop_eq_getElem_cons hl]
      simp only [List.isPrefixOf_cons_cons, List.isPrefixOf_nil_left, Bool.and_true, beq_eq_false_iff_ne]
      intro e
      exact h (e ▸ List.getElem_mem hl)
    · rw [List.drop_of_length_le (by omega)]
      rfl
  unfold Lib.cut
  rw [hi, if_neg (by omega)]
theorem cut_any (t : List UInt8) : (∃ a b, t = a ++ 46 :: b ∧ (46 : UInt8) ∉ a) ∨ (46 : UInt8) ∉ t := by
  induction t with
  | nil => exact .inr (by simp)
  | cons c t ih =>
    by_cases hc : c = 46
    · subst hc; exact .inl ⟨[], t, rfl, by simp⟩
    · rcases ih with ⟨a, b, rfl, h⟩ | h
      · exact .inl ⟨c :: a, b, rfl, by simp [h, Ne.symm hc]⟩
      · exact .inr (by simp [h, Ne.symm hc])
end Go.Proofs.YthebfhdpofhmpaaGreatDoor.V
namespace Go.Proofs.YthebfhdpofhmpaaGreatDoor
def lvl (t : List UInt8) : Nat :=
  if t = [61] then 1 else if t = [60, 62] then 1 else if t = [60] then 1 else if t = [60, 61] then 1 else if t = [62] then 1 else if t = [62, 61] then 1 else if t = [38] then 2 else if t = [43] then 3 else if t = [45] then 3 else if t = [42] then 4 else if t = [47] then 4 else 0
def truW : List UInt8 := [84, 82, 85, 69]
def flsW : List UInt8 := [70, 65, 76, 83, 69]
theorem nodesL_snoc (ks : List Ex) (x : Ex) : nodes.nodesL (ks ++ [x]) = nodes.nodesL ks + nodes x := by
  induction ks with
  | nil => simp [nodes.nodesL]
  | cons y ys ih => rw [List.cons_append, nodes.nodesL, nodes.nodesL, ih]; omega
end Go.Proofs.YthebfhdpofhmpaaGreatDoor
namespace Go.Proofs.YthebfhdpofhmpaaGreatDoor
open Go.RowKit
def sgS (b : Bool) : List UInt8 := if b then [36] else []
theorem asign_any (b : Bool) (w : World) :
    Calls Tryz.prog 151 #[.bool b] w fun e w' => e = .returned (.string ⟨(sgS b).toArray⟩) ∧ w' = w := by
  cases b
  · go_enter Tryz.func151, Tryz.ntmps151
    go_wp2
    go_ret
    exact ⟨rfl, rfl⟩
  · go_enter Tryz.func151, Tryz.ntmps151
    go_wp2
    go_ret
    exact ⟨rfl, rfl⟩
end Go.Proofs.YthebfhdpofhmpaaGreatDoor
namespace Go.Proofs
open Go.Shelf
def Tryz.laysM173_ren : Go.Shelf.Ren := ⟨fun | 173 => 153 | 246 => 163 | 283 => 173 | 284 => 174 | 285 => 175 | 286 => 176 | 129 => 149 | 317 => 180 | 318 => 181 | 319 => 182 | 320 => 183 | 337 => 185 | 338 => 186 | n => n, fun | 2 => 2 | 3 => 3 | 9 => 9 | 4 => 4 | 171 => 239 | 0 => 0 | 53 => 199 | 37 => 101 | 5 => 5 | 173 => 241 | 212 => 246 | 51 => 215 | 20 => 20 | 213 => 247 | 46 => 176 | 232 => 249 | 233 => 250 | n => n, fun | 17 => 4 | 18 => 5 | 19 => 6 | n => n⟩
theorem Tryz.laysM173 : Go.Proofs.LaysM.n173 Tryz.prog Tryz.laysM173_ren := {
  mixed := by kernel_rfl
  f129 := Tryz.func149.trans (congrArg some (by kernel_rfl))
  f173 := Tryz.func153.trans (congrArg some (by kernel_rfl))
  f246 := Tryz.func163.trans (congrArg some (by kernel_rfl))
  f283 := Tryz.func173.trans (congrArg some (by kernel_rfl))
  f284 := Tryz.func174.trans (congrArg some (by kernel_rfl))
  f285 := Tryz.func175.trans (congrArg some (by kernel_rfl))
  f286 := Tryz.func176.trans (congrArg some (by kernel_rfl))
  f317 := Tryz.func180.trans (congrArg some (by kernel_rfl))
  f318 := Tryz.func181.trans (congrArg some (by kernel_rfl))
  f319 := Tryz.func182.trans (congrArg some (by kernel_rfl))
  f320 := Tryz.func183.trans (congrArg some (by kernel_rfl))
  f337 := Tryz.func185.trans (congrArg some (by kernel_rfl))
  f338 := Tryz.func186.trans (congrArg some (by kernel_rfl))
  t0 := Tryz.underlying0
  a0 := Tryz.isAgg0
  z0 := Tryz.sizeOf0
  v0 := Tryz.zeroValue0
  t2 := Tryz.underlying2
  a2 := Tryz.isAgg2
  z2 := Tryz.sizeOf2
  v2 := Tryz.zeroValue2
  t3 := Tryz.underlying3
  a3 := Tryz.isAgg3
  z3 := Tryz.sizeOf3
  v3 := Tryz.zeroValue3
  t4 := Tryz.underlying4
  a4 := Tryz.isAgg4
  z4 := Tryz.sizeOf4
  v4 := Tryz.zeroValue4
  t5 := Tryz.underlying5
  a5 := Tryz.isAgg5
  z5 := Tryz.sizeOf5
  v5 := Tryz.zeroValue5
  t9 := Tryz.underlying9
  a9 := Tryz.isAgg9
  z9 := Tryz.sizeOf9
  v9 := Tryz.zeroValue9
  t20 := Tryz.underlying20
  a20 := Tryz.isAgg20
  z20 := Tryz.sizeOf20
  v20 := Tryz.zeroValue20
  t37 := Tryz.underlying101
  a37 := Tryz.isAgg101
  z37 := Tryz.sizeOf101
  v37 := Tryz.zeroValue101
  t46 := Tryz.underlying176
  a46 := Tryz.isAgg176
  z46 := Tryz.sizeOf176
  v46 := Tryz.zeroValue176
  t51 := Tryz.underlying215
  a51 := Tryz.isAgg215
  z51 := Tryz.sizeOf215
  v51 := Tryz.zeroValue215
  t53 := Tryz.underlying199
  a53 := Tryz.isAgg199
  z53 := Tryz.sizeOf199
  v53 := Tryz.zeroValue199
  t171 := Tryz.underlying239
  a171 := Tryz.isAgg239
  z171 := Tryz.sizeOf239
  v171 := Tryz.zeroValue239
  t173 := Tryz.underlying241
  a173 := Tryz.isAgg241
  z173 := Tryz.sizeOf241
  v173 := Tryz.zeroValue241
  t212 := Tryz.underlying246
  a212 := Tryz.isAgg246
  z212 := Tryz.sizeOf246
  v212 := Tryz.zeroValue246
  t213 := Tryz.underlying247
  a213 := Tryz.isAgg247
  z213 := Tryz.sizeOf247
  t232 := Tryz.underlying249
  a232 := Tryz.isAgg249
  z232 := Tryz.sizeOf249
  v232 := Tryz.zeroValue249
  t233 := Tryz.underlying250
  a233 := Tryz.isAgg250
  z233 := Tryz.sizeOf250
  v233 := Tryz.zeroValue250
  g17 := by kernel_rfl
  g18 := by kernel_rfl
  g19 := by kernel_rfl
  i0 := by kernel_rfl
  i2 := by kernel_rfl
  i3 := by kernel_rfl
  i4 := by kernel_rfl
  i5 := by kernel_rfl
  i9 := by kernel_rfl
  i20 := by kernel_rfl
  i37 := by kernel_rfl
  i46 := by kernel_rfl
  i51 := by kernel_rfl
  i53 := by kernel_rfl
  i171 := by kernel_rfl
  i173 := by kernel_rfl
  i212 := by kernel_rfl
  i232 := by kernel_rfl
  i233 := by kernel_rfl
  m17 := by kernel_rfl
  m18 := by kernel_rfl
  m19 := by kernel_rfl }
open Go.RowKit Go.Sort Go.Lib in
theorem Tryz.strconv_FormatInt_10 (n : Int) (h0 : -9223372036854775808 ≤ n) (h1 : n ≤ 9223372036854775807) (w : World) (htab : Lib.TabIs Tryz.prog w "internal/strconv.uint64pow10" .u64 Lib.pow10Tab) :
    Calls Tryz.prog 153 #[.int .i64 n, .int .i64 10] w fun e w' => e = .returned (.string ⟨(Lib.itoa n).toArray⟩) ∧ ∃ k os, w' = grow (w.drewN k) os := Any.strconv_FormatInt_10 Tryz.laysM173 n h0 h1 w htab
end Go.Proofs
namespace Go.Proofs.YthebfhdpofhmpaaGreatDoor.L.Ax
set_option linter.unusedVariables false
set_option linter.unusedSimpArgs false
set_option maxHeartbeats 4000000
def trA (ka aa ta kb ab tb : Int) (pr : Bool) : Int := if ka = 1 then gap kb ab tb aa (!pr) else idx kb ab tb aa
def trT (ka aa ta kb ab tb : Int) (pr : Bool) : Int := if ka = 3 then gap kb ab tb ta (!pr) else 0
abbrev trO (ka aa ta kb ab tb : Int) (pr : Bool) : Prop :=
  ¬ (ka = 3 ∧ kb = 3 ∧ ab = aa ∧ pr = true) ∧ 0 ≤ trA ka aa ta kb ab tb pr ∧ (ka = 3 → trT ka aa ta kb ab tb pr ≠ trA ka aa ta kb ab tb pr ∧ trT ka aa ta kb ab tb pr ≠ trA ka aa ta kb ab tb pr + 1)
def two (ka aa ta kb ab tb i : Int) (pr : Bool) : Int :=
  if idx ka aa ta i < 0 ∨ ¬ trO kb ab tb ka aa ta pr then idx ka aa ta i else idx kb (trA kb ab tb ka aa ta pr) (trT kb ab tb ka aa ta pr) (idx ka aa ta i)
end Go.Proofs.YthebfhdpofhmpaaGreatDoor.L.Ax
