/- A word for 'nothing that was there has turned'; what the library's functions ask of the world; small facts for the walks. -/
import Derived.Test.YtkipbcimjmialaaDoorRows
import Derived.Test.YtkipbcimjmialaaDoorZ
import Derived.Test.YtkipbcimjmialaaDoorSh
import Derived.Shelf.Unicode.DecodeSlow
import Derived.WalkKit
import Derived.WalkSpells
import Derived.WalkLawsBesides
namespace Go.Proofs.YtkipbcimjmialaaDoor
open Go.RowKit

theorem hid {p : Prop} (h : p) : Hid p := h

/-- nothing that was there has turned -/
def Q (w w' : World) : Prop := Below w.heap.size w w'
theorem Q.refl (w : World) : Q w w := Below.refl _ _
theorem Q.trans {a b c : World} (h : Q a b) (k : Q b c) : Q a c := Below.trans h (Below.mono k h.size)
theorem Q.drew {a w : World} (h : Q a w) : Q a w.drew := Below.drew h
theorem Q.drewN {a w : World} (h : Q a w) (n : Nat) : Q a (w.drewN n) := below_drewN h n
theorem Q.alloc {a w : World} (h : Q a w) (o : Obj) : Q a (w.alloc o) := Below.alloc h h.size o
theorem Q.of_eq {a w : World} (h : w = a) : Q a w := h ▸ Q.refl _
theorem Q.cell {a w : World} (h : Q a w) {b o : Nat} (hb : b < a.heap.size) : w.cell? ⟨b, o, none⟩ = a.cell? ⟨b, o, none⟩ := Below.cell h hb
theorem Q.lt {a w : World} (h : Q a w) {b : Nat} (hb : b < a.heap.size) : b < w.heap.size := Nat.lt_of_lt_of_le hb h.size
theorem Q.setCell {a w : World} (h : Q a w) {b k : Nat} (hb : a.heap.size ≤ b) (v : Value) : Q a (w.setCell ⟨b, k, none⟩ v) := Below.setCell h hb v

/-- how an error is written -/
def enL (e : Int) : List UInt8 :=
  if e = 1 then [35, 82, 69, 70, 33] else if e = 2 then [35, 67, 89, 67, 76, 69, 33] else if e = 3 then [35, 68, 73, 86, 47, 48, 33]
  else if e = 4 then [35, 78, 85, 77, 33] else if e = 5 then [35, 86, 65, 76, 85, 69, 33] else if e = 6 then [35, 78, 65, 77, 69, 63]
  else if e = 7 then [35, 78, 47, 65] else []
/-- the signs, the longer ones first -/
def sgL : List (List UInt8) := [[60, 62], [60, 61], [62, 61], [60], [62], [61], [43], [45], [42], [47], [38], [40], [41], [44], [58]]

/-- the table of names lies in its variable -/
def Nam (w : World) : Prop := 1 < w.heap.size ∧ ∀ i : Nat, i < 8 → w.cell? ⟨1, i, none⟩ = some (.string ⟨(enL i).toArray⟩)
theorem Nam.on {w w' : World} (h : Nam w) (q : Q w w') : Nam w' := ⟨q.lt h.1, fun i hi => by rw [q.cell h.1]; exact h.2 i hi⟩

/-- What of the world the functions ask: the signs, the errors' names, two tables of package utf8, and a variable of package bytealg that holds some int. -/
structure Std (w : World) : Prop where
  sg : ∀ i : Nat, i < 15 → w.cell? ⟨0, i, none⟩ = some (.string ⟨(sgL.getD i []).toArray⟩)
  nam : Nam w
  utf : Lib.Utf8Tabs 2 3 w
  len : ∃ m : Int, w.cell? ⟨4, 0, none⟩ = some (.int .i64 m)
  big : 4 < w.heap.size

theorem Std.on {w w' : World} (h : Std w) (q : Q w w') : Std w' := by
  have hb := h.big
  refine ⟨fun i hi => ?_, h.nam.on q, Utf8Tabs_below h.utf q, ?_, q.lt h.big⟩
  · rw [q.cell (by omega)]; exact h.sg i hi
  · obtain ⟨m, hm⟩ := h.len
    exact ⟨m, by rw [q.cell h.big]; exact hm⟩

theorem ret_int {k : IntKind} {a b : Int} (h : a = b) : Ending.returned (.int k a) = .returned (.int k b) := by rw [h]
theorem ret_bool {a b : Bool} (h : a = b) : Ending.returned (.bool a) = .returned (.bool b) := by rw [h]
theorem ret_str {a b : ByteArray} (h : a = b) : Ending.returned (.string a) = .returned (.string b) := by rw [h]
theorem ret_two {k : IntKind} {a b : Int} {c d : Bool} (h : a = b) (g : c = d) : Ending.returned (.tuple #[.int k a, .bool c]) = .returned (.tuple #[.int k b, .bool d]) := by rw [h, g]
theorem bytes_cat (a b : List UInt8) : (⟨a.toArray⟩ : ByteArray) ++ (⟨b.toArray⟩ : ByteArray) = ⟨(a ++ b).toArray⟩ := by
  apply ByteArray.ext
  simp
theorem size_mk (l : List UInt8) : (⟨l.toArray⟩ : ByteArray).size = l.length := by simp [ByteArray.size]
theorem bytes_eq {s : ByteArray} {l : List UInt8} (h : s.data.toList = l) : s = ⟨l.toArray⟩ := by
  apply ByteArray.ext
  apply Array.ext'
  exact h
theorem take_snoc (s : ByteArray) (k : Nat) (h : k < s.size) : s.data.toList.take (k + 1) = s.data.toList.take k ++ [s[k]] := by
  rw [List.take_succ_eq_append_getElem (by simpa using h)]; rfl
theorem take_all (s : ByteArray) (k : Nat) (h : s.size ≤ k) : s.data.toList.take k = s.data.toList :=
  List.take_of_length_le (by simpa using h)
theorem drop_cons (s : ByteArray) (k : Nat) (h : k < s.size) : s.data.toList.drop k = s[k] :: s.data.toList.drop (k + 1) := by
  rw [List.drop_eq_getElem_cons (by simpa using h)]; rfl
theorem get_mem (s : ByteArray) (k : Nat) (h : k < s.size) : s[k] ∈ s.data.toList := by
  have : s[k] = s.data.toList[k]'(by simpa using h) := rfl
  rw [this]
  exact List.getElem_mem _
theorem len_data (s : ByteArray) : s.data.toList.length = s.size := by simp
theorem headD_get (s : ByteArray) (h : 0 < s.size) : s.data.toList.headD 0 = s[0] := by
  have h' : 0 < s.data.toList.length := by simpa using h
  have e : s[0] = s.data.toList[0]'h' := rfl
  rw [e, List.headD_eq_head?_getD, List.head?_eq_getElem?, List.getElem?_eq_getElem h']
  rfl
theorem dig_no {c : UInt8} (h : (c.toNat : Int) < 48 ∨ 57 < (c.toNat : Int)) : dig c = false := by unfold dig; simp; omega
theorem dig_yes {c : UInt8} (h : 48 ≤ (c.toNat : Int)) (h' : (c.toNat : Int) ≤ 57) : dig c = true := by unfold dig; simp; omega
theorem let_no {c : UInt8} (h : (c.toNat : Int) < 65 ∨ 90 < (c.toNat : Int)) : let1 c = false := by unfold let1; simp; omega
theorem let_yes {c : UInt8} (h : 65 ≤ (c.toNat : Int)) (h' : (c.toNat : Int) ≤ 90) : let1 c = true := by unfold let1; simp; omega
/-- how long a text is -/
def strLen : Value → Nat
  | .string s => s.size
  | _ => 0
end Go.Proofs.YtkipbcimjmialaaDoor
