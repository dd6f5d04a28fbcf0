/- A disk, as it lies in memory. -/
import Derived.Test.YtbknbffmpnomlaaDe
namespace Go.Proofs.Ytbknbffmpnomlaa
open Go.RowKit
set_option linter.unusedVariables false
set_option linter.unusedSimpArgs false

abbrev Fv := ByteArray → Option (Sv × List UInt8)
structure Mk where
  x : ByteArray
  v : Sv
  L : List UInt8
  t : Bool
  k : Nat
def em (m : Mk) : List Value := [.string m.x, sv m.v, .bool m.t, .int .i64 m.k]
theorem em_len (m : Mk) : (em m).length = 4 := rfl
def Mk.p (m : Mk) : Pm := ⟨m.x, m.L, m.t, m.k⟩
/-- S: the blocks that are the disk's alone -/
structure Dk (S : Nat → Prop) (w : World) (p : Nat) (mv : Option Nat) (n : Nat) (f : Fv) (pv : Value) (ms : List Mk) (u s : Nat) : Prop where
  blk : Bk w 50 p #[.map mv, pv, .int .i64 u, .int .i64 s]
  map : Mv w mv n (fun x => (f x).map (·.1))
  past : Own em 60 4 0 w pv ms
  fil : ∀ x v L, f x = some (v, L) → Own eb 5 1 0 w (sv v) L
  mks : ∀ m ∈ ms, Own eb 5 1 0 w (sv m.v) m.L ∧ m.x.size ≤ maxLen
  sep : ∀ x y v L v' L' g, x ≠ y → f x = some (v, L) → f y = some (v', L') → (sv v).ownBlock = some g → (sv v').ownBlock = some g → False
  pre : ∀ m ∈ ms, ∀ x v L g, f x = some (v, L) → (sv v).ownBlock = some g → (sv m.v).ownBlock = some g → m.L.length ≤ L.length
  sp : S p
  smv : ∀ b, mv = some b → S b
  spv : ∀ g, pv.ownBlock = some g → S g
  sfl : ∀ x v L g, f x = some (v, L) → (sv v).ownBlock = some g → S g
  smk : ∀ m ∈ ms, ∀ g, (sv m.v).ownBlock = some g → S g
  nom : mv = none → ∀ m ∈ ms, m.t = false
variable {S S' : Nat → Prop} {w w' : World} {p : Nat} {mv : Option Nat} {n : Nat} {f : Fv} {pv : Value} {ms : List Mk} {u s : Nat}
theorem Dk.keep (h : Dk S w p mv n f pv ms u s) (hs : ∀ i, S i → w'.heap[i]? = w.heap[i]?) : Dk S w' p mv n f pv ms u s where
  blk := h.blk.same (hs p h.sp)
  map := h.map.same (fun b e => hs b (h.smv b e))
  past := h.past.same (fun g e => hs g (h.spv g e))
  fil := fun x v L e => (h.fil x v L e).same (fun g k => hs g (h.sfl x v L g e k))
  mks := fun m hm => ⟨(h.mks m hm).1.same (fun g k => hs g (h.smk m hm g k)), (h.mks m hm).2⟩
  sep := h.sep
  pre := h.pre
  sp := h.sp
  smv := h.smv
  spv := h.spv
  sfl := h.sfl
  smk := h.smk
  nom := h.nom
theorem Dk.more (h : Dk S w p mv n f pv ms u s) (hs : ∀ i, S i → S' i) : Dk S' w p mv n f pv ms u s where
  blk := h.blk
  map := h.map
  past := h.past
  fil := h.fil
  mks := h.mks
  sep := h.sep
  pre := h.pre
  sp := hs _ h.sp
  smv := fun b e => hs _ (h.smv b e)
  spv := fun g e => hs _ (h.spv g e)
  sfl := fun x v L g e k => hs _ (h.sfl x v L g e k)
  smk := fun m hm g k => hs _ (h.smk m hm g k)
  nom := h.nom
theorem Dk.lt (h : Dk S w p mv n f pv ms u s) : p < w.heap.size := h.blk.l
/-- all of them are there -/
def Lt (S : Nat → Prop) (w : World) : Prop := ∀ i, S i → i < w.heap.size
theorem Dk.on (h : Dk S w p mv n f pv ms u s) (hl : Lt S w) (q : Q w w') : Dk S w' p mv n f pv ms u s := h.keep (fun i hi => q.block (hl i hi))
/-- what has been made since is the disk's too -/
def New (S : Nat → Prop) (w w' : World) : Nat → Prop := fun i => S i ∨ (w.heap.size ≤ i ∧ i < w'.heap.size)
theorem Lt.new (hl : Lt S w) (hs : w.heap.size ≤ w'.heap.size) : Lt (New S w w') w' := fun i hi => by
  rcases hi with h | h
  · exact Nat.lt_of_lt_of_le (hl i h) hs
  · exact h.2
theorem at_some {f : Fv} {x : ByteArray} {v : Sv} {L : List UInt8} (h : f x = some (v, L)) : at' (fun x => (f x).map (·.1)) x = v := by simp [at', h]
theorem at_none {f : Fv} {x : ByteArray} (h : f x = none) : at' (fun x => (f x).map (·.1)) x = nl := by simp [at', h]
/-- the file that is there, or none -/
def fl (f : Fv) (x : ByteArray) : Sv × List UInt8 := (f x).getD (nl, [])
theorem at_fl (f : Fv) (x : ByteArray) : at' (fun x => (f x).map (·.1)) x = (fl f x).1 := by
  unfold at' fl
  show ((f x).map (·.1)).getD nl = ((f x).getD (nl, [])).1
  cases f x <;> rfl
theorem is_fl (f : Fv) (x : ByteArray) : ((fun x => (f x).map (·.1)) x).isSome = (f x).isSome := by
  show ((f x).map (·.1)).isSome = _
  cases f x <;> rfl
theorem Dk.fl_own (h : Dk S w p mv n f pv ms u s) (x : ByteArray) : Own eb 5 1 0 w (sv (fl f x).1) (fl f x).2 := by
  unfold fl
  cases hf : f x with
  | none => exact own_nil w
  | some y => obtain ⟨v, L⟩ := y; exact h.fil x v L hf
theorem Dk.fl_s (h : Dk S w p mv n f pv ms u s) (x : ByteArray) (g : Nat) (hg : (sv (fl f x).1).ownBlock = some g) : S g ∧ ∃ v L, f x = some (v, L) ∧ fl f x = (v, L) := by
  unfold fl at *
  cases hf : f x with
  | none => rw [hf] at hg; cases hg
  | some y => obtain ⟨v, L⟩ := y; rw [hf] at hg; exact ⟨h.sfl x v L g hf hg, v, L, rfl, rfl⟩
theorem info60 : (Try.prog.info? 60).map (fun i => (i.zero, i.size, i.bytes)) = some (some (.agg #[.string ⟨#[]⟩, .slice none 0 0, .bool false, .int .i64 0]), 4, 56) := by kernel_rfl
section
variable (w : World) {ops : Array Oper} {rest : List Oper} {o : Oper} {a : Act} {K : Exit → Act → World → Prop}
theorem wpl_look2 (hg : o.guard = none) (m x : Operand) (hop : o.op = Op.lookup 47 m x true) (mv : Option Nat) (n : Nat) (f : Fv) (hm : a.eval m = .map mv) (h : Mv w mv n (fun x => (f x).map (·.1))) (s : ByteArray) (hx : a.eval x = .string s) (hs : s.size ≤ maxLen)
    (b : Option Addr) (k c : Nat) (L : List UInt8) (t : Bool) (hv : fl f s = (⟨b, k, c⟩, L)) (ht : (f s).isSome = t)
    (hK : wpList Try.prog ops K rest (a.put o.dst (.tuple #[.slice b k c, .bool t])) w) : wpList Try.prog ops K (o :: rest) a w := by
  refine wpl_look w hg m x true hop mv n _ hm h s hx hs ?_
  rw [at_fl, is_fl, hv, ht]
  exact hK
theorem wpl_look1 (hg : o.guard = none) (m x : Operand) (hop : o.op = Op.lookup 47 m x false) (mv : Option Nat) (n : Nat) (f : Fv) (hm : a.eval m = .map mv) (h : Mv w mv n (fun x => (f x).map (·.1))) (s : ByteArray) (hx : a.eval x = .string s) (hs : s.size ≤ maxLen)
    (b : Option Addr) (k c : Nat) (L : List UInt8) (hv : fl f s = (⟨b, k, c⟩, L))
    (hK : wpList Try.prog ops K rest (a.put o.dst (.slice b k c)) w) : wpList Try.prog ops K (o :: rest) a w := by
  refine wpl_look w hg m x false hop mv n _ hm h s hx hs ?_
  rw [at_fl, hv]
  exact hK
theorem wpl_mark (hgd : o.guard = none) (s x : Operand) (ho : o.op = .call { callee := .builtin .append, args := #[s, x], argTypes := #[48, 48] }) (v : Value) (ms : List Mk) (hs : a.eval s = v) (hown : Own em 60 4 0 w v ms)
    (m : Mk) (q : Nat) (hx : a.eval x = .slice (some ⟨q, 0, none⟩) 1 1) (hq : Bk w 60 q (em m).toArray) (hb : ms.length ≤ 100000)
    (h : ∀ v' w', Own em 60 4 0 w' v' (ms ++ [m]) → w.grownBy w' v.ownBlock → (v'.ownBlock = v.ownBlock ∨ v'.ownBlock = some w.heap.size) → wpList Try.prog ops K rest (a.put o.dst v') w') : wpList Try.prog ops K (o :: rest) a w := by
  obtain ⟨i0, hi, hz0, hz1, hz2⟩ := inf_of info60
  refine wpList_append_own_at w hgd s x 48 ho 0 60 i0 _ 4 56 Try.underlying48 hi hz0 hz1 hz2 rfl (by decide) v ms.length (flat em ms) hs hown ⟨q, 0, none⟩ 1 1 (em m) hx (by rw [em_len]) (fun j u hj => ?_) (fun u hu => ?_) (by unfold maxLen; omega) (by omega) (Nat.zero_le _) (fun v' w' ho' hg _ hat => h v' w' (own_snoc ho') hg hat)
  · rw [add_lit, Nat.zero_add]
    exact hq.c j u (by rw [List.getElem?_toArray]; exact hj)
  · obtain ⟨mx, ⟨ma, mn, mc⟩, mL, mt, mk⟩ := m
    simp only [em, List.mem_cons, List.not_mem_nil, or_false] at hu
    rcases hu with rfl | rfl | rfl | rfl <;> rfl
end
theorem size_set (w : World) (b j : Nat) (v : Value) : (w.setCell ⟨b, j, none⟩ v).heap.size = w.heap.size := by simp [World.setCell]
theorem heap_set (w : World) (b j : Nat) (v : Value) (i : Nat) (h : i ≠ b) : (w.setCell ⟨b, j, none⟩ v).heap[i]? = w.heap[i]? := heap_setCell_other w _ i v h
/-- what was done has been noted -/
theorem Dk.noted (h : Dk S w p mv n f pv ms u s) (hl : Lt S w) {w0 w1 : World} (q : Q w w0) {pv' : Value} {x : ByteArray} (hx : x.size ≤ maxLen) {v : Sv} {L : List UInt8} {t : Bool} {k : Nat} (ht : (f x).isSome = t) (hv : fl f x = (v, L)) (hg : w0.grownBy w1 pv.ownBlock) (hat : pv'.ownBlock = pv.ownBlock ∨ pv'.ownBlock = some w0.heap.size)
    (ho : Own em 60 4 0 w1 pv' (ms ++ [⟨x, v, L, t, k⟩])) (u' : Nat) :
    Dk (New S w ((w1.setCell ⟨p, 1, none⟩ pv').setCell ⟨p, 2, none⟩ (.int .i64 u'))) ((w1.setCell ⟨p, 1, none⟩ pv').setCell ⟨p, 2, none⟩ (.int .i64 u')) p mv n f pv' (ms ++ [⟨x, v, L, t, k⟩]) u' s ∧
      Qp S w ((w1.setCell ⟨p, 1, none⟩ pv').setCell ⟨p, 2, none⟩ (.int .i64 u')) := by
  have hsz : ((w1.setCell ⟨p, 1, none⟩ pv').setCell ⟨p, 2, none⟩ (.int .i64 u')).heap.size = w1.heap.size := by rw [size_set, size_set]
  have h0 : Dk S w0 p mv n f pv ms u s := h.on hl q
  have hl0 : ∀ i, S i → i < w0.heap.size := fun i hi => q.lt (hl i hi)
  have hb1 : Bk w1 50 p #[.map mv, pv, .int .i64 u, .int .i64 s] := h0.blk.same (hg.block p (hl0 p h0.sp) (Ne.symm (h0.past.nbk h0.blk (by decide))))
  have hrest : ∀ i, S i → i ≠ p → pv.ownBlock ≠ some i → ((w1.setCell ⟨p, 1, none⟩ pv').setCell ⟨p, 2, none⟩ (.int .i64 u')).heap[i]? = w0.heap[i]? := fun i hi h1 h2 => by
    rw [heap_set _ _ _ _ _ h1, heap_set _ _ _ _ _ h1]
    exact hg.block i (hl0 i hi) (Ne.symm h2)
  have hfo : Own eb 5 1 0 w0 (sv v) L := by have := h0.fl_own x; rw [hv] at this; exact this
  have hpv : ∀ {e : TypeId} {v : Value} {L : List UInt8}, Own eb 5 1 0 w0 v L → ∀ g, v.ownBlock = some g → g ≠ p ∧ pv.ownBlock ≠ some g := fun ho g hg' =>
    ⟨fun e => ho.nbk h0.blk (by decide) (by rw [hg', e]), fun e => ho.nown h0.past (by decide) hg' e⟩
  have hfs : ∀ g, (sv v).ownBlock = some g → S g ∧ f x = some (v, L) := fun g hg' => by
    obtain ⟨h1, v', L', h2, h3⟩ := h0.fl_s x g (by rw [hv]; exact hg')
    rw [hv] at h3
    cases h3
    exact ⟨h1, h2⟩
  refine ⟨⟨?_, ?_, ?_, ?_, ?_, h.sep, ?_, .inl h.sp, fun b e => .inl (h.smv b e), ?_, fun x v L g e k => .inl (h.sfl x v L g e k), ?_, ?_⟩, ?_⟩
  · exact (hb1.put 1 pv').put 2 (.int .i64 u')
  · refine h0.map.same (fun b e => ?_)
    subst e
    exact hrest b (h.smv b rfl) (Ne.symm (h0.blk.nmp h0.map)) (h0.past.nmp h0.map)
  · refine ho.same (fun g hg' => ?_)
    have : g ≠ p := fun e => ho.nbk hb1 (by decide) (by rw [hg', e])
    rw [heap_set _ _ _ _ _ this, heap_set _ _ _ _ _ this]
  · intro y v' L' hy
    have ho' := h0.fil y v' L' hy
    exact ho'.same (fun g hg' => hrest g (h.sfl y v' L' g hy hg') (hpv (e := 5) ho' g hg').1 (hpv (e := 5) ho' g hg').2)
  · intro m hm
    rcases List.mem_append.1 hm with hm | hm
    · have ho' := h0.mks m hm
      exact ⟨ho'.1.same (fun g hg' => hrest g (h.smk m hm g hg') (hpv (e := 5) ho'.1 g hg').1 (hpv (e := 5) ho'.1 g hg').2), ho'.2⟩
    · obtain rfl : m = ⟨x, v, L, t, k⟩ := by simpa using hm
      exact ⟨hfo.same (fun g hg' => hrest g (hfs g hg').1 (hpv (e := 5) hfo g hg').1 (hpv (e := 5) hfo g hg').2), hx⟩
  · intro m hm y v' L' g hy hg1 hg2
    rcases List.mem_append.1 hm with hm | hm
    · exact h.pre m hm y v' L' g hy hg1 hg2
    · obtain rfl : m = ⟨x, v, L, t, k⟩ := by simpa using hm
      have h5 := (hfs g hg2).2
      by_cases e : y = x
      · subst e
        rw [h5] at hy
        cases hy
        exact Nat.le_refl _
      · exact (h.sep y x v' L' v L g e hy h5 hg1 hg2).elim
  · intro g hg'
    rcases hat with h1 | h1
    · exact .inl (h.spv g (by rw [← h1]; exact hg'))
    · refine .inr ⟨?_, ?_⟩
      · rw [h1] at hg'
        cases hg'
        exact q.size
      · rw [hsz]
        exact ho.lt g hg'
  · intro m hm g hg'
    rcases List.mem_append.1 hm with hm | hm
    · exact .inl (h.smk m hm g hg')
    · obtain rfl : m = ⟨x, v, L, t, k⟩ := by simpa using hm
      exact .inl (hfs g hg').1
  · intro e m hm
    rcases List.mem_append.1 hm with hm | hm
    · exact h.nom e m hm
    · obtain rfl : m = ⟨x, v, L, t, k⟩ := by simpa using hm
      subst e
      have hn : (f x).map (·.1) = none := h.map x
      rw [← ht]
      show (f x).isSome = false
      cases hf : f x with
      | none => rfl
      | some y => rw [hf] at hn; cases hn
  · exact (((Qp.of q).grown hg (fun k e => .inl (h.spv k e))).set 1 _ (.inl h.sp)).set 2 _ (.inl h.sp)
set_option maxRecDepth 100000 in
set_option maxHeartbeats 1000000 in
theorem note_any (h : Dk S w p mv n f pv ms u s) (hl : Lt S w) (x : ByteArray) (hx : x.size ≤ maxLen) (k : Nat) (hms : ms.length ≤ 100000) (hu : u ≤ 1000000000) (hk : k ≤ 1000000000) :
    Calls Try.prog 20 #[.pointer (some ⟨p, 0, none⟩), .string x, .int .i64 k] w fun e W' => (∃ v, e = .returned v) ∧ ∃ pv', Dk (New S w W') W' p mv n f pv' (ms ++ [⟨x, (fl f x).1, (fl f x).2, (f x).isSome, k⟩]) (u + k) s ∧ Qp S w W' := by
  have H := hid h
  have c0 := h.blk.c 0 _ rfl
  have c1 := h.blk.c 1 _ rfl
  have c2 := h.blk.c 2 _ rfl
  have f1 := h.blk.f 1
  have f2 := h.blk.f 2
  clear h
  generalize hfl : fl f x = y
  obtain ⟨⟨b, l, c⟩, L⟩ := y
  generalize ht : (f x).isSome = t
  have HV := hid hfl
  have HT := hid ht
  clear hfl ht
  go_enter Try.func20, Try.ntmps20
  go_wp2_with (first
    | (at_lookup; refine wpl_look2 _ rfl _ _ rfl mv n f rfl H.out.map x rfl hx b l c L t HV.out HT.out ?_)
    | (at_builtin; refine wpl_mark _ rfl _ _ rfl pv ms rfl (H.out.past.alloc _) ⟨x, ⟨b, l, c⟩, L, t, k⟩ w.heap.size rfl (bk_new _ _ _) hms ?_))
  intro v' w1 hown hg hat
  obtain ⟨g', cap', rfl, _⟩ := hown.shape (by simp)
  have HB : Hid (Bk w1 50 p #[.map mv, pv, .int .i64 u, .int .i64 s]) := hid ((H.out.blk.on ((Q.refl w).alloc _)).same (hg.block p (by have := hl p H.out.sp; simp; omega) (Ne.symm (H.out.past.nbk H.out.blk (by decide)))))
  have HN := hid (H.out.noted hl ((Q.refl w).alloc (.cells #[.string x, .slice b l c, .bool t, .int .i64 k] 60)) hx HT.out HV.out hg (by simpa using hat) hown (u + k))
  have c1 : w1.cell? ⟨p, 1, none⟩ = some pv := HB.out.c 1 _ rfl
  have c2 : w1.cell? ⟨p, 2, none⟩ = some (.int .i64 u) := HB.out.c 2 _ rfl
  have f1 := HB.out.f 1
  have f2 := HB.out.f 2
  simp only [List.length_append, List.length_cons, List.length_nil, Nat.zero_add, Int.natCast_add] at HN
  have e3 : (u : Int) + (k : Int) ≤ 9223372036854775807 := by omega
  have e4 : -9223372036854775808 ≤ (u : Int) + (k : Int) := by omega
  clear hown hg hat
  go_wp2_with fail
  go_end0
  exact ⟨⟨_, rfl⟩, _, HN.out⟩
end Go.Proofs.Ytbknbffmpnomlaa
