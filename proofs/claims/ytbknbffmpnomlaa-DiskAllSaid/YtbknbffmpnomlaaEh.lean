/- What was done, and files, that can be read. -/
import Derived.Test.YtbknbffmpnomlaaEq
import Derived.Deep.CutRange
namespace Go.Proofs.Ytbknbffmpnomlaa
open Go.RowKit
set_option linter.unusedVariables false
set_option linter.unusedSimpArgs false

/-- files that can be read -/
def Fb (K : Nat) (W : World) (F : List Fn) : Prop := ∀ d ∈ F, Sb W (sv d.v) d.L ∧ d.L.length ≤ K
theorem Fb.on {K : Nat} {W W' : World} {F : List Fn} (h : Fb K W F) (q : Q W W') : Fb K W' F := fun d hd => ⟨(h d hd).1.on q, (h d hd).2⟩
theorem Fb.mono {K K' : Nat} {W : World} {F : List Fn} (h : Fb K W F) (hk : K ≤ K') : Fb K' W F := fun d hd => ⟨(h d hd).1, Nat.le_trans (h d hd).2 hk⟩
theorem Fb.wof {K : Nat} {W : World} {F : List Fn} (h : Fb K W F) (x : ByteArray) : Fb K W (wof F x) := fun d hd => h d (wof_mem hd)
theorem Fb.snoc {K : Nat} {W : World} {F : List Fn} (h : Fb K W F) {d : Fn} (hd : Sb W (sv d.v) d.L ∧ d.L.length ≤ K) : Fb K W (F ++ [d]) := fun e he => by
  rcases List.mem_append.1 he with he | he
  · exact h e he
  · obtain rfl : e = d := by simpa using he
    exact hd
/-- what was done can be read -/
def Rb (W : World) (R : List Rn) : Prop := ∀ d ∈ R, Sb W (sv d.v) d.L ∧ d.L.length ≤ 20
theorem Rb.on {W W' : World} {R : List Rn} (h : Rb W R) (q : Q W W') : Rb W' R := fun d hd => ⟨(h d hd).1.on q, (h d hd).2⟩
theorem rb_n {W : World} {R : List Rn} (h : Rb W R) : ∀ d ∈ R, d.v.n = d.L.length ∧ d.L.length ≤ 1000 := fun d hd => by
  obtain ⟨h1, h2⟩ := h d hd
  obtain ⟨ao, cap, e, _, _⟩ := h1.s.len
  refine ⟨?_, by omega⟩
  unfold sv at e
  injection e
/-- where the loop stands -/
structure Fst (w W : World) (R : List Rn) (k : Nat) (v : Value) (F : List Fn) : Prop where
  o : Own ef 58 2 w.heap.size W v F
  m : F.map Fn.p = rf ((R.take k).map Rn.p)
  b : Fb (20 * k) W F
  l : F.length ≤ k
  q : Q w W
theorem Fst.on {w W W' : World} {R : List Rn} {k : Nat} {v : Value} {F : List Fn} (h : Fst w W R k v F) (q : Q W W') : Fst w W' R k v F := ⟨h.o.on q, h.m, h.b.on q, h.l, h.q.trans (Q.trans (Q.refl _) q)⟩
theorem Fst.sl {w W : World} {R : List Rn} {k : Nat} {v : Value} {F : List Fn} (h : Fst w W R k v F) : Sl ef 2 W v F := h.o.sl ef_len (by omega)
end Go.Proofs.Ytbknbffmpnomlaa
