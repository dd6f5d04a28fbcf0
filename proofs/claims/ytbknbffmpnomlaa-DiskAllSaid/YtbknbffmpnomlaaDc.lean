/- Maps of slices by names. -/
import Derived.Test.YtbknbffmpnomlaaDb
import Derived.Maps.OwnSet
import Derived.Maps.OwnOps
import Derived.Maps.RangeWalk
import Derived.Maps.Ext
namespace Go.Proofs.Ytbknbffmpnomlaa
open Go.RowKit Go.Maps
set_option linter.unusedVariables false
set_option linter.unusedSimpArgs false

/-- a slice's three words -/
structure Sv where
  a : Option Addr
  n : Nat
  c : Nat
def sv (x : Sv) : Value := .slice x.a x.n x.c
def nl : Sv := ⟨none, 0, 0⟩
def rel (v : Value) : Option (DataW Sv × List MemPlace) :=
  match v with
  | .slice a n c => some (.held ⟨a, n, c⟩, [])
  | _ => none
theorem rel_sv (x : Sv) : rel (sv x) = some (.held x, []) := rfl
theorem rel_inv {v : Value} {y : DataW Sv × List MemPlace} (h : rel v = some y) : ∃ x, v = sv x ∧ y = (.held x, []) := by
  cases v <;> simp [rel] at h
  exact ⟨⟨_, _, _⟩, rfl, h.symm⟩
def ky (s : ByteArray) : Lit := .string s.data.toList
theorem ky_inj {s t : ByteArray} (h : ky s = ky t) : s = t := by
  unfold ky at h
  injection h with h
  cases s; cases t
  simp only at h
  congr 1
  exact Array.ext' h
theorem law : Keyed Try.prog 9 := string_keyed Try.underlying9
theorem keyS {s : ByteArray} (hs : s.size ≤ maxLen) : keyOf Try.prog 9 (.string s) = some (ky s) := WideMaps.keyOf_string_mk Try.underlying9 hs
theorem key_lit (s : ByteArray) : WideAt.IsKeyLit (ky s) := by trivial
theorem zero30 (w : World) : (zeroValue 30).run Try.prog w = .ok (.slice none 0 0) w := by kernel_rfl
/-- block b is a map that holds just these -/
def Mp (w : World) (b n : Nat) (f : ByteArray → Option Sv) : Prop :=
  ∃ D : DataW Sv, w.ownsMap Try.prog 9 rel b n D ∧ ∀ s, has D (ky s) = (f s).isSome ∧ ∀ x, f s = some x → ∀ z, D.atKey (ky s) z = .held x
/-- a map, or none -/
def Mv (w : World) (mv : Option Nat) (n : Nat) (f : ByteArray → Option Sv) : Prop :=
  match mv with
  | none => ∀ s, f s = none
  | some b => Mp w b n f
theorem Mp.kept {w w' : World} {row : Option Nat} {b n : Nat} {f : ByteArray → Option Sv} (h : Mp w b n f) (hg : w.grownBy w' row) (hne : some b ≠ row) : Mp w' b n f := by
  obtain ⟨D, h1, h2⟩ := h
  exact ⟨D, h1.kept hg hne, h2⟩
theorem Mp.lt {w : World} {b n : Nat} {f : ByteArray → Option Sv} (h : Mp w b n f) : b < w.heap.size := by
  obtain ⟨D, h1, h2⟩ := h
  exact h1.lt
theorem Mp.same {w w' : World} {b n : Nat} {f : ByteArray → Option Sv} (h : Mp w b n f) (hg : w'.heap[b]? = w.heap[b]?) : Mp w' b n f := by
  obtain ⟨D, ⟨es, clock, hb, r⟩, h2⟩ := h
  exact ⟨D, ⟨es, clock, hg.trans hb, r⟩, h2⟩
theorem Mp.on {w w' : World} {b n : Nat} {f : ByteArray → Option Sv} (h : Mp w b n f) (q : Q w w') : Mp w' b n f := h.same (q.block h.lt)
theorem Mp.mono {w : World} {b n m : Nat} {f : ByteArray → Option Sv} (h : Mp w b n f) (hn : n ≤ m) : Mp w b m f := by
  obtain ⟨D, h1, h2⟩ := h
  exact ⟨D, h1.mono hn, h2⟩
theorem Mp.congr {w : World} {b n : Nat} {f g : ByteArray → Option Sv} (h : Mp w b n f) (e : ∀ s, f s = g s) : Mp w b n g := by
  rwa [show g = f from funext fun s => (e s).symm]
theorem mp_made (w : World) : Mp (w.alloc (.map #[] 0)) w.heap.size 0 (fun _ => none) :=
  ⟨.map [], World.ownsMap_made w _ _ _, fun s => ⟨rfl, fun x h => by cases h⟩⟩
theorem Mp.block {w : World} {b n : Nat} {f : ByteArray → Option Sv} (h : Mp w b n f) : ∃ es clock, w.heap[b]? = some (.map es clock) := by
  obtain ⟨D, ⟨es, clock, hb, r⟩, h2⟩ := h
  exact ⟨es, clock, hb⟩
theorem Mv.on {w w' : World} {mv : Option Nat} {n : Nat} {f : ByteArray → Option Sv} (h : Mv w mv n f) (q : Q w w') : Mv w' mv n f := by
  cases mv with
  | none => exact h
  | some b => exact Mp.on h q
theorem Mv.same {w w' : World} {mv : Option Nat} {n : Nat} {f : ByteArray → Option Sv} (h : Mv w mv n f) (hg : ∀ b, mv = some b → w'.heap[b]? = w.heap[b]?) : Mv w' mv n f := by
  cases mv with
  | none => exact h
  | some b => exact Mp.same h (hg b rfl)
/-- the map with one more -/
def upd {α : Type} (f : ByteArray → Option α) (s : ByteArray) (x : Option α) : ByteArray → Option α := fun t => if t = s then x else f t
theorem upd_same {α : Type} (f : ByteArray → Option α) (s : ByteArray) (x : Option α) : upd f s x s = x := by simp [upd]
theorem upd_other {α : Type} (f : ByteArray → Option α) {s t : ByteArray} (x : Option α) (h : t ≠ s) : upd f s x t = f t := by simp [upd, h]
theorem upd_map {α β : Type} (g : α → β) (f : ByteArray → Option α) (s : ByteArray) (x : Option α) : (fun t => (upd f s x t).map g) = upd (fun t => (f t).map g) s (x.map g) := by
  funext t
  unfold upd
  split <;> rfl
theorem Mp.put {w' : World} {b n : Nat} {D : DataW Sv} {f : ByteArray → Option Sv} (h2 : ∀ s, has D (ky s) = (f s).isSome ∧ ∀ x, f s = some x → ∀ z, D.atKey (ky s) z = .held x) (hm : IsMap D) (s : ByteArray) (x : Sv)
    (hs : w'.ownsMap Try.prog 9 rel b n (D.put (ky s) (.held x))) : Mp w' b n (upd f s (some x)) := by
  refine ⟨_, hs, fun t => ?_⟩
  by_cases e : t = s
  · subst e
    rw [upd_same]
    exact ⟨has_put_same hm (key_lit _) _, fun y hy z => by cases hy; exact atKey_put_same hm (key_lit _) _ _⟩
  · have hne : ky t ≠ ky s := fun k => e (ky_inj k)
    rw [upd_other _ _ e]
    exact ⟨(has_put_other hne _).trans (h2 t).1, fun y hy z => (atKey_put_other hne _ _).trans ((h2 t).2 y hy z)⟩
theorem Mp.cut {w' : World} {b n : Nat} {D : DataW Sv} {f : ByteArray → Option Sv} (h2 : ∀ s, has D (ky s) = (f s).isSome ∧ ∀ x, f s = some x → ∀ z, D.atKey (ky s) z = .held x) (s : ByteArray)
    (hs : w'.ownsMap Try.prog 9 rel b n (D.del (ky s))) : Mp w' b n (upd f s none) := by
  refine ⟨_, hs, fun t => ?_⟩
  by_cases e : t = s
  · subst e
    rw [upd_same]
    exact ⟨has_del_same, fun y hy z => by cases hy⟩
  · have hne : ky t ≠ ky s := fun k => e (ky_inj k)
    rw [upd_other _ _ e]
    exact ⟨(has_del_other hne).trans (h2 t).1, fun y hy z => (atKey_del_other hne _).trans ((h2 t).2 y hy z)⟩
/-- what is there -/
def at' (f : ByteArray → Option Sv) (s : ByteArray) : Sv := (f s).getD nl
theorem run_look (c : Bool) {w : World} {mv : Option Nat} {n : Nat} {f : ByteArray → Option Sv} (h : Mv w mv n f) (s : ByteArray) (hs : s.size ≤ maxLen) :
    (Instr.lookup 47 (.map mv) (.string s) c).run Try.prog w = .ok (if c then .tuple #[sv (at' f s), .bool (f s).isSome] else sv (at' f s)) w := by
  cases mv with
  | none =>
    have e : f s = none := h s
    rw [look_nil c law Try.underlying47 (zero30 w) (keyS hs)]
    simp [at', e, sv, nl]
  | some b =>
    obtain ⟨D, h1, h2⟩ := h
    have hz : rel (.slice none 0 0) = some (.held nl, []) := rfl
    have key : ∀ v ps, rel v = some (D.atKey (ky s) (.held nl), ps) → v = sv (at' f s) := by
      intro v ps hv
      obtain ⟨x, rfl, e⟩ := rel_inv hv
      simp only [Prod.mk.injEq] at e
      cases hf : f s with
      | none =>
        have hh := (h2 s).1
        rw [hf] at hh
        rw [atKey_of_not_has hh] at e
        simp only [DataW.held.injEq] at e
        rw [← e.1]
        simp [at', hf]
      | some y =>
        rw [(h2 s).2 y hf] at e
        simp only [DataW.held.injEq] at e
        rw [← e.1]
        simp [at', hf]
    cases c with
    | true =>
      obtain ⟨v, ps, hr, hv⟩ := h1.look_ok law Try.underlying47 (zero30 w) hz (keyS hs)
      rw [hr, key v ps hv, (h2 s).1]
      rfl
    | false =>
      obtain ⟨v, ps, hr, hv⟩ := h1.lookup law Try.underlying47 (zero30 w) hz (keyS hs)
      rw [hr, key v ps hv]
      rfl
section
variable (w : World) {ops : Array Oper} {rest : List Oper} {o : Oper} {a : Act} {K : Exit → Act → World → Prop}
theorem wpl_look (hg : o.guard = none) (m x : Operand) (c : Bool) (hop : o.op = Op.lookup 47 m x c) (mv : Option Nat) (n : Nat) (f : ByteArray → Option Sv) (hm : a.eval m = .map mv) (h : Mv w mv n f) (s : ByteArray) (hx : a.eval x = .string s) (hs : s.size ≤ maxLen)
    (hK : wpList Try.prog ops K rest (a.put o.dst (if c then .tuple #[sv (at' f s), .bool (f s).isSome] else sv (at' f s))) w) : wpList Try.prog ops K (o :: rest) a w := by
  refine wpList_plain hg fun K' hK' => ?_
  have hr := run_look c h s hs
  unfold Oper.wp
  simp [execOp, hop, hm, hx, hr, Result.andThen]
  exact hK' _ _ hK
theorem wpl_put (hg : o.guard = none) (m x v : Operand) (hop : o.op = Op.mapUpdate 47 m x v) (b n : Nat) (f : ByteArray → Option Sv) (hm : a.eval m = .map (some b)) (h : Mp w b n f) (hn : n < maxLen) (s : ByteArray) (hx : a.eval x = .string s) (hs : s.size ≤ maxLen) (y : Sv) (hv : a.eval v = sv y)
    (hK : ∀ w', Mp w' b (n + 1) (upd f s (some y)) → w.grownBy w' (some b) → w'.heap.size = w.heap.size → wpList Try.prog ops K rest (a.put o.dst undef) w') : wpList Try.prog ops K (o :: rest) a w := by
  obtain ⟨D, h1, h2⟩ := h
  refine wpList_mapUpdate_in w hg m x v 47 hop 9 30 law Try.underlying47 rel b n D hm h1 hn (.string s) (sv y) (ky s) hx hv (keyS hs) (.held y) [] (rel_sv y) (fun w' g1 g2 => ?_)
  have hsz : w'.heap.size = w.heap.size := by
    obtain ⟨_, _, _, _, _, rfl⟩ := g2
    simp [ChangeMaps.setBlock]
  exact hK w' (Mp.put h2 h1.isMap s y g1) g2.grown hsz
theorem wpl_del (hg : o.guard = none) (m x : Operand) (hop : o.op = Op.call { callee := Callee.builtin Builtin.delete, args := #[m, x], argTypes := #[47, 9] }) (mv : Option Nat) (n : Nat) (f : ByteArray → Option Sv) (hm : a.eval m = .map mv) (h : Mv w mv n f) (s : ByteArray) (hx : a.eval x = .string s) (hs : s.size ≤ maxLen)
    (hK : ∀ w', Mv w' mv n (upd f s none) → w.grownBy w' mv → w'.heap.size = w.heap.size → wpList Try.prog ops K rest (a.put o.dst (.tuple #[])) w') : wpList Try.prog ops K (o :: rest) a w := by
  cases mv with
  | none =>
    refine wpList_plain hg fun K' hK' => ?_
    have hr := drop_nil (P := Try.prog) (w := w) law Try.underlying47 (keyS hs) o.type
    unfold Oper.wp
    simp [execOp, hop, resolve, invoke, builtin, hm, hx, hr, Result.andThen]
    refine hK' _ _ (hK w (fun t => ?_) ⟨rfl, rfl, rfl, Nat.le_refl _, fun _ _ _ => rfl⟩ rfl)
    have := h t
    unfold upd
    split
    · rfl
    · exact this
  | some b =>
    obtain ⟨D, h1, h2⟩ := h
    refine wpList_delete_own w hg m x 47 9 hop 30 law Try.underlying47 rel b n D hm h1 (.string s) (ky s) hx (keyS hs) (fun w' g1 g2 => ?_)
    have hsz : w'.heap.size = w.heap.size := by
      obtain ⟨_, _, _, _, _, rfl⟩ := g2
      simp [ChangeMaps.setBlock]
    exact hK w' (Mp.cut h2 s g1) g2.grown hsz
end
end Go.Proofs.Ytbknbffmpnomlaa
