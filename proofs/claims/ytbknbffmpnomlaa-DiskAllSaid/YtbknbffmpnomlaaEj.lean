/- Both disks in memory. -/
import Derived.Test.YtbknbffmpnomlaaEg
namespace Go.Proofs.Ytbknbffmpnomlaa
open Go.RowKit
set_option linter.unusedVariables false
set_option linter.unusedSimpArgs false

/-- the program's disk, i operations behind its beginning -/
structure Dp (S : Nat → Prop) (w W : World) (p n : Nat) (P : Pd) (i : Nat) : Prop where
  ds : Ds S W p n P
  lt : Lt S W
  ge : ∀ j, S j → w.heap.size ≤ j
  wf : Wf P
  bu : P.u ≤ 20 * i
  bm : P.ms.length ≤ 2 * i
  bn : n ≤ 100 * i
  bd : Bd P (20 * i)
/-- the reference's -/
structure Rp (T : Nat → Prop) (w W : World) (q : Nat) (v : Value) (R : List Rn) (s : Nat) : Prop where
  bk : Bk W 29 q #[v, .int .i64 s]
  row : Own er 36 4 0 W v R
  rb : Rb W R
  ty : ∀ d ∈ R, ∀ g, (sv d.v).ownBlock = some g → ∃ cur, W.heap[g]? = some (.cells cur 5 (0, 0))
  tq : T q
  tv : ∀ g, v.ownBlock = some g → T g
  tb : ∀ d ∈ R, ∀ g, (sv d.v).ownBlock = some g → T g
  lt : Lt T W
  ge : ∀ j, T j → w.heap.size ≤ j
theorem Rp.keep {T : Nat → Prop} {w W W' : World} {q : Nat} {v : Value} {R : List Rn} {s : Nat} (h : Rp T w W q v R s) (hs : ∀ j, T j → W'.heap[j]? = W.heap[j]?) (hz : W.heap.size ≤ W'.heap.size) : Rp T w W' q v R s :=
  ⟨h.bk.same (hs q h.tq), h.row.same (fun g hg => hs g (h.tv g hg)), fun d hd => ⟨(h.rb d hd).1.same (fun g hg => hs g (h.tb d hd g hg)), (h.rb d hd).2⟩, fun d hd g hg => by rw [hs g (h.tb d hd g hg)]; exact h.ty d hd g hg, h.tq, h.tv, h.tb, fun j hj => Nat.lt_of_lt_of_le (h.lt j hj) hz, h.ge⟩
theorem Rp.on {T : Nat → Prop} {w W W' : World} {q : Nat} {v : Value} {R : List Rn} {s : Nat} (h : Rp T w W q v R s) (x : Q W W') : Rp T w W' q v R s := h.keep (fun j hj => x.block (h.lt j hj)) x.size
theorem Rp.qp {S T : Nat → Prop} {w W W' : World} {q : Nat} {v : Value} {R : List Rn} {s : Nat} (h : Rp T w W q v R s) (hsep : ∀ j, S j → T j → False) (x : Qp S W W') : Rp T w W' q v R s := h.keep (fun j hj => x.block j (h.lt j hj) (fun hs => hsep j hs hj)) x.size
theorem Dp.keep {S : Nat → Prop} {w W W' : World} {p n i : Nat} {P : Pd} (h : Dp S w W p n P i) (hs : ∀ j, S j → W'.heap[j]? = W.heap[j]?) (hz : W.heap.size ≤ W'.heap.size) : Dp S w W' p n P i :=
  ⟨h.ds.keep hs, fun j hj => Nat.lt_of_lt_of_le (h.lt j hj) hz, h.ge, h.wf, h.bu, h.bm, h.bn, h.bd⟩
theorem Dp.on {S : Nat → Prop} {w W W' : World} {p n i : Nat} {P : Pd} (h : Dp S w W p n P i) (x : Q W W') : Dp S w W' p n P i := h.keep (fun j hj => x.block (h.lt j hj)) x.size
theorem Dp.qp {S T : Nat → Prop} {w W W' : World} {p n i : Nat} {P : Pd} (h : Dp S w W p n P i) (hsep : ∀ j, S j → T j → False) (x : Qp T W W') : Dp S w W' p n P i := h.keep (fun j hj => x.block j (h.lt j hj) (fun ht => hsep j hj ht)) x.size
theorem Dp.up {S : Nat → Prop} {w W : World} {p n i : Nat} {P : Pd} (h : Dp S w W p n P i) : Dp S w W p n P (i + 1) := ⟨h.ds, h.lt, h.ge, h.wf, by have := h.bu; omega, by have := h.bm; omega, by have := h.bn; omega, h.bd.mono (by omega)⟩
/-- one thing more has been noted -/
theorem Rp.add {T : Nat → Prop} {w W Wc w5 : World} {q : Nat} {v v5 : Value} {R : List Rn} {s : Nat} {d : Rn} (h : Rp T w W q v R s) (hww : w.heap.size ≤ W.heap.size) (q4 : Q W Wc) (hd : Own eb 5 1 W.heap.size Wc (sv d.v) d.L) (hdl : d.L.length ≤ 20) (ho5 : Own er 36 4 0 w5 v5 (R ++ [d])) (hg5 : Wc.grownBy w5 v.ownBlock) (hat : v5.ownBlock = v.ownBlock ∨ v5.ownBlock = some Wc.heap.size) :
    Rp (New T W (w5.setCell ⟨q, 0, none⟩ v5)) w (w5.setCell ⟨q, 0, none⟩ v5) q v5 (R ++ [d]) s ∧ Qp T W (w5.setCell ⟨q, 0, none⟩ v5) := by
  have hsz : (w5.setCell ⟨q, 0, none⟩ v5).heap.size = w5.heap.size := size_set _ _ _ _
  have hm : Bk w5 29 q #[v, .int .i64 s] := (h.bk.on q4).same (hg5.block q (q4.lt h.bk.l) (Ne.symm (h.row.nbk h.bk (by decide))))
  have hqp : Qp T W (w5.setCell ⟨q, 0, none⟩ v5) := ((Qp.of q4).grown hg5 (fun k e => .inl (h.tv k e))).set 0 v5 (.inl h.tq)
  -- what lies in blocks of bytes stands
  have hty : ∀ g, g < Wc.heap.size → (∃ cur, Wc.heap[g]? = some (.cells cur 5 (0, 0))) → (w5.setCell ⟨q, 0, none⟩ v5).heap[g]? = Wc.heap[g]? := fun g hg ⟨cur, hc⟩ => by
    have h1 : g ≠ q := fun e => by
      have := (h.bk.on q4).h
      rw [← e, hc] at this
      cases this
    rw [heap_set _ _ _ _ _ h1]
    refine hg5.block g hg (fun e => ?_)
    have ho := h.row.on q4
    obtain ⟨c2, hc2⟩ := ho.kind e.symm
    rw [hc] at hc2
    cases hc2
  have hold : ∀ e ∈ R, ∀ g, (sv e.v).ownBlock = some g → (w5.setCell ⟨q, 0, none⟩ v5).heap[g]? = W.heap[g]? := fun e he g hg => by
    have hlt := h.lt g (h.tb e he g hg)
    have hb := q4.block hlt
    obtain ⟨cur, hc⟩ := h.ty e he g hg
    rw [hty g (q4.lt hlt) ⟨cur, by rw [hb, hc]⟩, hb]
  have hnew : ∀ g, (sv d.v).ownBlock = some g → (w5.setCell ⟨q, 0, none⟩ v5).heap[g]? = Wc.heap[g]? := fun g hg => hty g (hd.lt g hg) (hd.kind hg)
  refine ⟨⟨hm.put 0 v5, ho5.same (fun g hg' => heap_set _ _ _ _ _ (fun e => ho5.nbk hm (by decide) (by rw [hg', e]))), fun e he => ?_, fun e he g hg => ?_, .inl h.tq, fun g hg => ?_, fun e he g hg => ?_, fun j hj => ?_, fun j hj => ?_⟩, hqp⟩
  · rcases List.mem_append.1 he with he | he
    · exact ⟨(h.rb e he).1.same (hold e he), (h.rb e he).2⟩
    · obtain rfl : e = d := by simpa using he
      exact ⟨(own_sb (e := 5) hd).same hnew, hdl⟩
  · rcases List.mem_append.1 he with he | he
    · rw [hold e he g hg]
      exact h.ty e he g hg
    · obtain rfl : e = d := by simpa using he
      rw [hnew g hg]
      exact hd.kind hg
  · rcases hat with hat | hat
    · exact .inl (h.tv g (by rw [← hat]; exact hg))
    · rw [hat] at hg
      cases hg
      refine .inr ⟨q4.size, ?_⟩
      rw [hsz]
      exact ho5.lt _ hat
  · rcases List.mem_append.1 he with he | he
    · exact .inl (h.tb e he g hg)
    · obtain rfl : e = d := by simpa using he
      refine .inr ⟨hd.blk g hg, ?_⟩
      rw [hsz]
      exact Nat.lt_of_lt_of_le (hd.lt g hg) hg5.size
  · rcases hj with hj | hj
    · exact Nat.lt_of_lt_of_le (h.lt j hj) hqp.size
    · exact hj.2
  · rcases hj with hj | hj
    · exact h.ge j hj
    · omega
/-- both -/
structure St (S T : Nat → Prop) (w W : World) (p n q : Nat) (P : Pd) (v : Value) (R : List Rn) (i : Nat) : Prop where
  d : Dp S w W p n P i
  r : Rp T w W q v R P.s
  sep : ∀ j, S j → T j → False
  q : Q w W
  iv : Iv P (R.map Rn.p)
  l : R.length ≤ i
theorem St.on {S T : Nat → Prop} {w W W' : World} {p n q i : Nat} {P : Pd} {v : Value} {R : List Rn} (h : St S T w W p n q P v R i) (x : Q W W') : St S T w W' p n q P v R i := ⟨h.d.on x, h.r.on x, h.sep, h.q.trans (Q.trans (Q.refl _) x), h.iv, h.l⟩
theorem St.up {S T : Nat → Prop} {w W : World} {p n q i : Nat} {P : Pd} {v : Value} {R : List Rn} (h : St S T w W p n q P v R i) : St S T w W p n q P v R (i + 1) := ⟨h.d.up, h.r, h.sep, h.q, h.iv, by have := h.l; omega⟩
/-- something was done to the program's disk, and is noted -/
theorem St.put {S T : Nat → Prop} {w W W1 W2 : World} {p n n' q i : Nat} {P P' : Pd} {v v5 : Value} {R : List Rn} {d : Rn} (h : St S T w W p n q P v R i) (hd : Ds (New S W W1) W1 p n' P') (hq : Qp S W W1) (hr : Rp (New T W1 W2) w W2 q v5 (R ++ [d]) P'.s) (hq2 : Qp T W1 W2)
    (hwf : Wf P') (hu : P'.u ≤ P.u + 20) (hm : P'.ms.length ≤ P.ms.length + 2) (hn : n' ≤ n + 100) (hb : Bd P' (20 * i + 20)) (hiv : Iv P' ((R ++ [d]).map Rn.p)) : St (New S W W1) (New T W1 W2) w W2 p n' q P' v5 (R ++ [d]) (i + 1) := by
  have hsep1 : ∀ j, New S W W1 j → T j → False := fun j hs ht => by
    rcases hs with hs | hs
    · exact h.sep j hs ht
    · have := h.r.lt j ht
      omega
  refine ⟨⟨hd.keep (fun j hj => hq2.block j (h.d.lt.new hq.size j hj) (fun ht => hsep1 j hj ht)), fun j hj => Nat.lt_of_lt_of_le (h.d.lt.new hq.size j hj) hq2.size, fun j hj => ?_, hwf, ?_, ?_, ?_, hb.mono (by omega)⟩, hr, fun j hs ht => ?_, ?_, hiv, ?_⟩
  · rcases hj with hj | hj
    · exact h.d.ge j hj
    · have := h.q.size
      omega
  · have := h.d.bu
    omega
  · have := h.d.bm
    omega
  · have := h.d.bn
    omega
  · rcases ht with ht | ht
    · exact hsep1 j hs ht
    · have := h.d.lt.new hq.size j hs
      omega
  · exact q_qp (q_qp h.q hq h.d.ge) hq2 h.r.ge
  · rw [List.length_append]
    have := h.l
    show _ + 1 ≤ i + 1
    omega
end Go.Proofs.Ytbknbffmpnomlaa
