/- counterpaneref5.EqExpr, walked: trees whose heads are not th. -/
import Derived.Test.YtcgddnliiondoaaGreatDoorKq05
set_option linter.unusedVariables false
set_option linter.unusedSimpArgs false
set_option maxRecDepth 100000
set_option maxHeartbeats 8000000
namespace Go.Proofs.YtcgddnliiondoaaGreatDoor
open Go.RowKit
def Ans (p : Prop) (e : Ending) : Prop := ∃ r : Bool, e = .returned (.bool r) ∧ (r = true ↔ p)
theorem Ans.no {p : Prop} (h : ¬ p) : Ans p (.returned (.bool false)) := ⟨false, rfl, by simp [h]⟩
theorem Ans.yes {p : Prop} (h : p) : Ans p (.returned (.bool true)) := ⟨true, rfl, by simp [h]⟩
theorem beq_no {α : Type} [BEq α] [LawfulBEq α] {a b : α} (h : a ≠ b) : (a == b) = false := by rw [beq_eq_false_iff_ne]; exact h
theorem str_no {a b : ByteArray} (h : a.data.toList ≠ b.data.toList) : (a.toList == b.toList) = false := by rw [Lib.toList_data, Lib.toList_data]; exact beq_no h
theorem str_eq {a b : ByteArray} (h : a.data.toList = b.data.toList) : a = b := by
  apply ByteArray.ext
  apply Array.ext'
  exact h
structure Two (w W : World) (k n : Int) (t : ByteArray) (b : Bool) (e : Int) (rv kv : Value) (k' n' : Int) (t' : ByteArray) (b' : Bool) (e' : Int) (rv' kv' : Value) : Prop where
  one : Bx w W (.int .i64 k) (.int .i64 n) (.string t) (.bool b) (.int .i64 e) rv kv
  lt : w.heap.size + 1 < W.heap.size
  g5 : W.cell? ⟨w.heap.size + 1, 5, none⟩ = some rv'
  g6 : W.cell? ⟨w.heap.size + 1, 6, none⟩ = some kv'
theorem Two.on {w W W' : World} {k n : Int} {t : ByteArray} {b : Bool} {e : Int} {rv kv : Value} {k' n' : Int} {t' : ByteArray} {b' : Bool} {e' : Int} {rv' kv' : Value} (h : Two w W k n t b e rv kv k' n' t' b' e' rv' kv') (q : Q W W') : Two w W' k n t b e rv kv k' n' t' b' e' rv' kv' :=
  ⟨h.one.on q, q.lt h.lt, (q.cell h.lt).trans h.g5, (q.cell h.lt).trans h.g6⟩
theorem Two.start (w : World) (k n : Int) (t : ByteArray) (b : Bool) (e : Int) (rv kv : Value) (k' n' : Int) (t' : ByteArray) (b' : Bool) (e' : Int) (rv' kv' : Value) (ty : TypeId) :
    Two w ((w.alloc (.cells #[.int .i64 k, .int .i64 n, .string t, .bool b, .int .i64 e, rv, kv] ty)).alloc (.cells #[.int .i64 k', .int .i64 n', .string t', .bool b', .int .i64 e', rv', kv'] ty)) k n t b e rv kv k' n' t' b' e' rv' kv' := by
  refine ⟨(Bx.start _ _ _ _ _ _ _ _ _).on ((Q.refl _).alloc _), by simp, ?_, ?_⟩
  · have e : w.heap.size + 1 = (w.alloc (.cells #[.int .i64 k, .int .i64 n, .string t, .bool b, .int .i64 e, rv, kv] ty)).heap.size := by simp
    rw [e]; simp [World.cell?_alloc_new]
  · have e : w.heap.size + 1 = (w.alloc (.cells #[.int .i64 k, .int .i64 n, .string t, .bool b, .int .i64 e, rv, kv] ty)).heap.size := by simp
    rw [e]; simp [World.cell?_alloc_new]
set_option maxHeartbeats 4000000 in
theorem eq_heads (k n : Int) (t : ByteArray) (b : Bool) (e : Int) (a1 : Option Addr) (l1 c1 : Nat) (a2 : Option Addr) (l2 c2 : Nat) (k' n' : Int) (t' : ByteArray) (b' : Bool) (e' : Int) (a3 : Option Addr) (l3 c3 : Nat) (a4 : Option Addr) (l4 c4 : Nat) (w : World)
    (h : ¬ (k = k' ∧ n = n' ∧ t.data.toList = t'.data.toList ∧ b = b' ∧ e = e' ∧ l1 = l3 ∧ l2 = l4)) :
    Calls Tryz.prog 33 #[.agg #[.int .i64 k, .int .i64 n, .string t, .bool b, .int .i64 e, .slice a1 l1 c1, .slice a2 l2 c2], .agg #[.int .i64 k', .int .i64 n', .string t', .bool b', .int .i64 e', .slice a3 l3 c3, .slice a4 l4 c4]] w fun x w' => x = .returned (.bool false) ∧ Q w w' := by
  by_cases h1 : k = k'
  · subst h1
    by_cases h2 : n = n'
    · subst h2
      by_cases h3 : t.data.toList = t'.data.toList
      · obtain rfl := str_eq h3
        by_cases h4 : b = b'
        · subst h4
          by_cases h5 : e = e'
          · subst h5
            by_cases h6 : l1 = l3
            · subst h6
              have h7 : l2 ≠ l4 := fun e => h ⟨rfl, rfl, rfl, rfl, rfl, rfl, e⟩
              have f7 : ((l2 : Int) == (l4 : Int)) = false := beq_no (by omega)
              clear h h3 h7
              go_enter Tryz.func33, Tryz.ntmps33
              go_wp2
              go_ret
              exact ⟨rfl, ((Q.refl _).alloc _).alloc _⟩
            · have f6 : ((l1 : Int) == (l3 : Int)) = false := beq_no (by omega)
              clear h h3 h6
              go_enter Tryz.func33, Tryz.ntmps33
              go_wp2
              go_ret
              exact ⟨rfl, ((Q.refl _).alloc _).alloc _⟩
          · have f5 : (e == e') = false := beq_no h5
            clear h h3
            go_enter Tryz.func33, Tryz.ntmps33
            go_wp2
            go_ret
            exact ⟨rfl, ((Q.refl _).alloc _).alloc _⟩
        · have f4 : b' = !b := by cases b <;> cases b' <;> simp_all
          subst f4
          clear h h3 h4
          cases b
          · go_enter Tryz.func33, Tryz.ntmps33
            go_wp2
            go_ret
            exact ⟨rfl, ((Q.refl _).alloc _).alloc _⟩
          · go_enter Tryz.func33, Tryz.ntmps33
            go_wp2
            go_ret
            exact ⟨rfl, ((Q.refl _).alloc _).alloc _⟩
      · have f3 := str_no h3
        clear h h3
        go_enter Tryz.func33, Tryz.ntmps33
        go_wp2
        go_ret
        exact ⟨rfl, ((Q.refl _).alloc _).alloc _⟩
    · have f2 : (n == n') = false := beq_no h2
      clear h
      go_enter Tryz.func33, Tryz.ntmps33
      go_wp2
      go_ret
      exact ⟨rfl, ((Q.refl _).alloc _).alloc _⟩
  · have f1 : (k == k') = false := beq_no h1
    clear h
    go_enter Tryz.func33, Tryz.ntmps33
    go_wp2
    go_ret
    exact ⟨rfl, ((Q.refl _).alloc _).alloc _⟩
end Go.Proofs.YtcgddnliiondoaaGreatDoor
