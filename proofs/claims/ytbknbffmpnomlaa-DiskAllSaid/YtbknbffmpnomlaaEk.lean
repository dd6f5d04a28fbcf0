/- DiskAll: what is handed in; the parts of its walk. -/
import Derived.Test.YtbknbffmpnomlaaEj
import Derived.Test.YtbknbffmpnomlaaEe
import Derived.Test.YtbknbffmpnomlaaEi
namespace Go.Proofs.Ytbknbffmpnomlaa
open Go.RowKit
set_option linter.unusedVariables false
set_option linter.unusedSimpArgs false

/-- an operation that is handed in -/
structure On where
  k : Int
  m : Int
  x : ByteArray
  y : ByteArray
  v : Sv
  L : List UInt8
def eo (o : On) : List Value := [.int .i64 o.k, .int .i64 o.m, .string o.x, .string o.y, sv o.v]
theorem eo_len (o : On) : (eo o).length = 5 := rfl
structure Ov (w : World) (o : On) : Prop where
  b : Sb w (sv o.v) o.L
  x : o.x.size ≤ maxLen
  y : o.y.size ≤ maxLen
  m1 : -9223372036854775808 ≤ o.m
  m2 : o.m ≤ 9223372036854775807
/-- all is well behind an operation, and b is in blocks of neither -/
def Bh (w wc : World) (p q k : Nat) (b : Value) (B : List UInt8) : Prop := ∃ S T n P v R, St S T w wc p n q P v R (k + 1) ∧ Own eb 5 1 w.heap.size wc b B ∧ ∀ g, b.ownBlock = some g → ¬ S g ∧ ¬ T g
theorem own_bytes {W : World} {v : Value} {B : List UInt8} {b0 : Nat} (h : Own eb 5 1 b0 W v B) (hl : 0 < B.length) : ∃ g cap cur, v = .slice (some ⟨g, 0, none⟩) B.length cap ∧ Bk W 5 g cur ∧ ∀ j, 0 ≤ j → j < B.length → cur[j]? = some (.int .u8 (B.getD j 0).toNat) := by
  obtain ⟨g, cap, rfl, _, _, _, _⟩ := h.shape hl
  obtain ⟨cur, hc⟩ := h.kind rfl
  refine ⟨g, cap, cur, rfl, ⟨hc⟩, fun j _ hj => ?_⟩
  have h1 := h.cell eb_len hj 0 (.int .u8 B[j].toNat) rfl
  rw [cell_of_row _ _ _ _ _ _ hc] at h1
  simpa [List.getD, hj] using h1
theorem St.bq {S T : Nat → Prop} {w W W' : World} {p n q i : Nat} {P : Pd} {v b : Value} {R : List Rn} (h : St S T w W p n q P v R i) (hn : ∀ g, b.ownBlock = some g → ¬ S g ∧ ¬ T g) (hge : ∀ g, b.ownBlock = some g → w.heap.size ≤ g) (x : Qp (fun g => b.ownBlock = some g) W W') : St S T w W' p n q P v R i :=
  ⟨h.d.keep (fun j hj => x.block j (h.d.lt j hj) (fun hb => (hn j hb).1 hj)) x.size, h.r.keep (fun j hj => x.block j (h.r.lt j hj) (fun hb => (hn j hb).2 hj)) x.size, h.sep, q_qp h.q x hge, h.iv, h.l⟩
theorem bd20 {P : Pd} {i : Nat} (h : Bd P (20 * i)) : Bd P (20 * i + 20) := h.mono (by omega)
theorem append_s (P : Pd) (x : ByteArray) (B : List UInt8) : (P.append x B).s = P.s := by
  unfold Pd.append
  split <;> rfl
theorem rename_s (P : Pd) (x y : ByteArray) : (P.rename x y).s = P.s := by
  unfold Pd.rename
  split <;> rfl
theorem Rp.mid {T : Nat → Prop} {w W Wc w5 : World} {q : Nat} {v : Value} {R : List Rn} {s : Nat} (h : Rp T w W q v R s) (q4 : Q W Wc) (hg5 : Wc.grownBy w5 v.ownBlock) : Bk w5 29 q #[v, .int .i64 s] := (h.bk.on q4).same (hg5.block q (q4.lt h.bk.l) (Ne.symm (h.row.nbk h.bk (by decide))))
theorem Rp.sync {T : Nat → Prop} {w W : World} {q : Nat} {v : Value} {R : List Rn} {s : Nat} (h : Rp T w W q v R s) (u : Nat) : Rp T w (W.setCell ⟨q, 1, none⟩ (.int .i64 u)) q v R u := by
  have hne : ∀ g, g ≠ q → (W.setCell ⟨q, 1, none⟩ (.int .i64 u)).heap[g]? = W.heap[g]? := fun g hg => heap_set _ _ _ _ _ hg
  have hbq : ∀ d ∈ R, ∀ g, (sv d.v).ownBlock = some g → g ≠ q := fun d hd g hg e => by
    obtain ⟨cur, hc⟩ := h.ty d hd g hg
    rw [e, h.bk.h] at hc
    cases hc
  refine ⟨h.bk.put 1 _, h.row.same (fun g hg => hne g (fun e => h.row.nbk h.bk (by decide) (by rw [hg, e]))), fun d hd => ⟨(h.rb d hd).1.same (fun g hg => hne g (hbq d hd g hg)), (h.rb d hd).2⟩, fun d hd g hg => ?_, h.tq, h.tv, h.tb, fun j hj => ?_, h.ge⟩
  · rw [hne g (hbq d hd g hg)]
    exact h.ty d hd g hg
  · rw [size_set]
    exact h.lt j hj
theorem bh_put {S T : Nat → Prop} {w W W1 W2 : World} {p n n' q k : Nat} {P P' : Pd} {v v5 b : Value} {R : List Rn} {d : Rn} {B : List UInt8} (h : St S T w W p n q P v R k) (hob : Own eb 5 1 w.heap.size W b B) (hnb : ∀ g, b.ownBlock = some g → ¬ S g ∧ ¬ T g) (hd : Ds (New S W W1) W1 p n' P') (hq : Qp S W W1) (hr : Rp (New T W1 W2) w W2 q v5 (R ++ [d]) P.s) (hs : P'.s = P.s) (hq2 : Qp T W1 W2)
    (hwf : Wf P') (hu : P'.u ≤ P.u + 20) (hm : P'.ms.length ≤ P.ms.length + 2) (hn : n' ≤ n + 100) (hb : Bd P' (20 * k + 20)) (hiv : Iv P' ((R ++ [d]).map Rn.p)) : Bh w W2 p q k b B := by
  have hlt := hob.lt
  refine ⟨_, _, _, _, _, _, h.put hd hq (by rw [hs]; exact hr) hq2 hwf hu hm hn hb hiv, (hob.same (fun g hg => hq.block g (hlt g hg) (hnb g hg).1)).same (fun g hg => hq2.block g (Nat.lt_of_lt_of_le (hlt g hg) hq.size) (hnb g hg).2), fun g hg => ⟨fun hx => ?_, fun hx => ?_⟩⟩
  · rcases hx with hx | hx
    · exact (hnb g hg).1 hx
    · have := hlt g hg
      omega
  · rcases hx with hx | hx
    · exact (hnb g hg).2 hx
    · have := hlt g hg
      have := hq.size
      omega
/-- .. nothing was done, or nothing that is noted -/
theorem bh_same {S T : Nat → Prop} {w W W1 W2 : World} {p n n' q k : Nat} {P P' : Pd} {v b : Value} {R : List Rn} {B : List UInt8} (h : St S T w W p n q P v R k) (hob : Own eb 5 1 w.heap.size W b B) (hnb : ∀ g, b.ownBlock = some g → ¬ S g ∧ ¬ T g) (hd : Ds (New S W W1) W1 p n' P') (hq : Qp S W W1) (hr : Rp T w W2 q v R P'.s) (hq2 : Qp T W1 W2)
    (hwf : Wf P') (hu : P'.u ≤ P.u + 20) (hm : P'.ms.length ≤ P.ms.length + 2) (hn : n' ≤ n + 100) (hb : Bd P' (20 * k + 20)) (hiv : Iv P' (R.map Rn.p)) : Bh w W2 p q k b B := by
  have hlt := hob.lt
  have hsep1 : ∀ j, New S W W1 j → T j → False := fun j hs ht => by
    rcases hs with hs | hs
    · exact h.sep j hs ht
    · have := h.r.lt j ht
      omega
  refine ⟨New S W W1, T, n', P', v, R, ⟨⟨hd.keep (fun j hj => hq2.block j (h.d.lt.new hq.size j hj) (fun ht => hsep1 j hj ht)), fun j hj => Nat.lt_of_lt_of_le (h.d.lt.new hq.size j hj) hq2.size, fun j hj => ?_, hwf, ?_, ?_, ?_, hb.mono (by omega)⟩, hr, hsep1, q_qp (q_qp h.q hq h.d.ge) hq2 h.r.ge, hiv, by have := h.l; omega⟩, (hob.same (fun g hg => hq.block g (hlt g hg) (hnb g hg).1)).same (fun g hg => hq2.block g (Nat.lt_of_lt_of_le (hlt g hg) hq.size) (hnb g hg).2), fun g hg => ⟨fun hx => ?_, (hnb g hg).2⟩⟩
  · rcases hj with hj | hj
    · exact h.d.ge j hj
    · have := h.q.size
      omega
  · have := h.d.bu
    omega
  · have := h.d.bm
    omega
  · have := h.d.bn
    omega
  · rcases hx with hx | hx
    · exact (hnb g hg).1 hx
    · have := hlt g hg
      omega
theorem near_eq {P : Pd} {R : List Re} (h : Iv P R) (m : Int) : ((P.near m : Nat) : Int) = min (max m (P.s : Int)) (ru R) := by
  have h1 := h.s
  have h2 := h.u
  unfold Pd.near
  omega
theorem st_cut {S T : Nat → Prop} {w W W1 W2 : World} {p n n' q k qd qo k' n2 : Nat} {P : Pd} {v : Value} {R Tn : List Rn} {m : Int} (h : St S T w W p n q P v R k) (hk : k ≤ 40) (hd : Ds (fun i => W.heap.size ≤ i ∧ i < W1.heap.size) W1 qd n' (P.cut m)) (hn : n' ≤ n + P.ms.length + 1) (hq : Q W W1)
    (hc : Cst W1 W2 R (P.near m) k' n2 qo Tn) (hm : Tn.map Rn.p = rcut (R.map Rn.p) (P.near m)) (hk' : k' ≤ R.length) : ∃ ov, St (fun i => W.heap.size ≤ i ∧ i < W1.heap.size) (New T W1 W2) w W2 qd n' qo (P.cut m) ov Tn (k + 1) := by
  obtain ⟨ov, hb, ho⟩ := hc.b
  have hr1 := h.r.on hq
  refine ⟨ov, ⟨hd.on (fun i hi => hi.2) hc.q, fun i hi => Nat.lt_of_lt_of_le hi.2 hc.q.size, fun i hi => Nat.le_trans h.q.size hi.1, h.d.wf.cut m, ?_, Nat.zero_le _, ?_, (h.d.bd.cut m).mono (by omega)⟩,
    ⟨hb, ho.mono (Nat.zero_le _), hc.rb.on hc.q, fun d hd g hg => ?_, .inr ⟨hc.h, hb.l⟩, fun g hg => .inr ⟨ho.blk g hg, ho.lt g hg⟩, fun d hd g hg => ?_, hr1.lt.new hc.q.size, fun j hj => ?_⟩, fun j hs ht => ?_, (h.q.trans (Q.trans (Q.refl _) hq)).trans (Q.trans (Q.refl _) hc.q), ?_, ?_⟩
  · have := near_le P m
    have := h.d.bu
    show P.near m ≤ _
    omega
  · have := h.d.bn
    have := h.d.bm
    omega
  · obtain ⟨d0, hd0, hg0⟩ := hc.bl d hd g hg
    rw [hc.q.block (hr1.lt g (hr1.tb d0 hd0 g hg0))]
    exact hr1.ty d0 hd0 g hg0
  · obtain ⟨d0, hd0, hg0⟩ := hc.bl d hd g hg
    exact .inl (hr1.tb d0 hd0 g hg0)
  · rcases hj with hj | hj
    · exact hr1.ge j hj
    · have := h.q.size
      have := hq.size
      omega
  · rcases ht with ht | ht
    · have := h.r.lt j ht
      omega
    · omega
  · rw [hm]
    exact h.iv.cut m
  · have := hc.l
    have := h.l
    omega
theorem same_of {S T : Nat → Prop} {w W : World} {p n q i : Nat} {P : Pd} {v : Value} {R : List Rn} (h : St S T w W p n q P v R i) (hi : i ≤ 100) : Calls Try.prog 17 #[.pointer (some ⟨p, 0, none⟩), .pointer (some ⟨q, 0, none⟩)] W fun e W' => e = .returned (.bool true) ∧ Q W W' := by
  have hl := h.l
  refine same_any h.d.ds h.d.lt h.r.bk (h.r.row.sl er_len (by decide)) (by omega) h.r.rb h.iv (fun x => Nat.le_trans (h.d.bd.f x) (by omega)) (fun W' hq => ?_)
  have h2 := h.r.on hq
  exact rfiles_any W' q P.s v R h2.bk (h2.row.sl er_len (by decide)) (by omega) h2.rb
end Go.Proofs.Ytbknbffmpnomlaa
