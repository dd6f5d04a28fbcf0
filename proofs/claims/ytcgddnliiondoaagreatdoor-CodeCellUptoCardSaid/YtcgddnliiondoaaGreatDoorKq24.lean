/- What is cut of a tree, walked. -/
import Derived.Test.YtcgddnliiondoaaGreatDoorKq16
import Derived.Test.YtcgddnliiondoaaGreatDoorKq14
import Derived.Test.YtcgddnliiondoaaGreatDoorKq07
import Derived.Maps.AppendAt
import Derived.Deep.AppendLies
import Derived.Deep.RegionHeld3
set_option linter.unusedVariables false
set_option linter.unusedSimpArgs false
set_option maxRecDepth 100000
set_option maxHeartbeats 8000000
namespace Go.Proofs.YtcgddnliiondoaaGreatDoor
open Go.RowKit
def RepS (W0 : World) (p : Nat) (W : World) (r : Ex × Nat) (e : Ending) (W' : World) : Prop :=
  ∃ v, e = .returned v ∧ Rdg (fun b => b < W0.heap.size ∨ W.heap.size ≤ b) W' r.1 v ∧ Qx p W W' ∧ W'.cell? ⟨p, 0, none⟩ = some (.int .i64 (r.2 : Int)) ∧ W'.frozen? ⟨p, 0, none⟩ = false
structure LfP (W : World) (p l : Nat) : Prop where
  c : W.cell? ⟨p, 0, none⟩ = some (.int .i64 (l : Int))
  f : W.frozen? ⟨p, 0, none⟩ = false
theorem LfP.lt {W : World} {p l : Nat} (h : LfP W p l) : p < W.heap.size := World.block_lt_of_cell? W ⟨p, 0, none⟩ h.c
theorem LfP.blk {W W' : World} {p l : Nat} (h : LfP W p l) (q : W'.heap[p]? = W.heap[p]?) : LfP W' p l :=
  ⟨(World.cell?_of_block (w := W) (w' := W') (a := ⟨p, 0, none⟩) q).trans h.c, by rw [← h.f]; simp only [World.frozen?, q]⟩
theorem LfP.onx {W W' : World} {p l r : Nat} (h : LfP W p l) (q : Qx r W W') (hr : p ≠ r) : LfP W' p l := h.blk (q.block p h.lt (fun e => hr (Option.some.inj e)))
theorem LfP.put {W : World} {p l : Nat} (h : LfP W p l) (l' : Nat) : LfP (W.setCell ⟨p, 0, none⟩ (.int .i64 (l' : Int))) p l' :=
  ⟨World.cell?_setCell_same _ _ _ h.c, by rw [World.frozen?_setCell]; exact h.f⟩
structure SI (W0 W : World) (p : Nat) (k n : Int) (T : ByteArray) (b : Bool) (e : Int) (a1 : Option Addr) (m c1 : Nat) (kv0 : Value) (wr : World) (ks' : List Ex) (Ls : List V7) (kv : Value) (l : Nat) : Prop where
  lp : LfP wr p l
  eb : wr.cell? ⟨W.heap.size, 6, none⟩ = some kv0
  rb : Tb wr (W.heap.size + 1) (.int .i64 0) (.int .i64 0) (.string ⟨#[]⟩) (.bool false) (.int .i64 0) (.slice none 0 0) (.slice none 0 0)
  xb : Tb wr (W.heap.size + 2) (.int .i64 k) (.int .i64 n) (.string T) (.bool b) (.int .i64 e) (.slice a1 m c1) kv
  ow : Own enc7 40 7 (W.heap.size + 3) wr kv Ls
  ln : ks'.length = Ls.length
  rd : ∀ i (h : i < ks'.length) (h' : i < Ls.length), Rdg (fun b => (b < W0.heap.size ∨ W.heap.size + 3 ≤ b) ∧ kv.ownBlock ≠ some b) wr ks'[i] (agg7 Ls[i])
  qx : Qx p W wr
  sz : W.heap.size + 3 ≤ wr.heap.size
theorem SI.call {W0 W : World} {p : Nat} {k n : Int} {T : ByteArray} {b : Bool} {e : Int} {a1 : Option Addr} {m c1 : Nat} {kv0 : Value} {wr w8 : World} {ks' : List Ex} {Ls : List V7} {kv : Value} {l l8 : Nat} (h : SI W0 W p k n T b e a1 m c1 kv0 wr ks' Ls kv l) (hp0 : W0.heap.size ≤ p) (hp1 : p < W.heap.size) (q : Qx p wr w8) (lp : LfP w8 p l8) : SI W0 W p k n T b e a1 m c1 kv0 w8 ks' Ls kv l8 := by
  have hs := h.sz
  refine ⟨lp, (q.cell (by omega) (by omega)).trans h.eb, h.rb.on q (by omega), h.xb.on q (by omega), h.ow.grown q (.inr fun e => by have := h.ow.blk _ e; omega), h.ln, fun i h1 h2 => Rdg.on q (fun b hb => by omega) _ _ (h.rd i h1 h2), h.qx.trans q, Nat.le_trans hs q.size⟩
theorem SI.app {W0 W : World} {p : Nat} {k n : Int} {T : ByteArray} {b : Bool} {e : Int} {a1 : Option Addr} {m c1 : Nat} {kv0 : Value} {wr w8 w9 : World} {ks' : List Ex} {Ls : List V7} {kv v9 : Value} {l8 : Nat} (h : SI W0 W p k n T b e a1 m c1 kv0 w8 ks' Ls kv l8) (hp0 : W0.heap.size ≤ p) (hp1 : p < W.heap.size)
    (hwr : W.heap.size + 3 ≤ wr.heap.size) (hlt : ∀ j, kv.ownBlock = some j → j < wr.heap.size) (y : Ex) (x : V7) (R8 : Rdg (fun b => b < W0.heap.size ∨ wr.heap.size ≤ b) w8 y (agg7 x)) (o1 : Obj) (hgrow : (w8.alloc o1).grownBy w9 kv.ownBlock) (ow9 : Own enc7 40 7 (W.heap.size + 3) w9 v9 (Ls ++ [x])) (hat : v9.ownBlock = kv.ownBlock ∨ v9.ownBlock = some (w8.alloc o1).heap.size) :
    SI W0 W p k n T b e a1 m c1 kv0 (w9.setCell ⟨W.heap.size + 2, 6, none⟩ v9) (ks' ++ [y]) (Ls ++ [x]) v9 l8 := by
  have hs := h.sz
  have hsA : (w8.alloc o1).heap.size = w8.heap.size + 1 := by simp
  obtain ⟨r9, Qr, hr9, hro⟩ := grown_qx (n := W.heap.size + 3) hgrow (by omega) h.ow.blk
  have QA : ∀ r, Qx r w8 (w8.alloc o1) := fun r => (Qx.refl r _).alloc _
  have QS : Qx (W.heap.size + 2) w9 (w9.setCell ⟨W.heap.size + 2, 6, none⟩ v9) := (Qx.refl _ _).own 6 v9
  have hs9 : w8.heap.size + 1 ≤ w9.heap.size := by have := Qr.size; omega
  have hlk := h.ow.lt
  have hob : ∀ j, v9.ownBlock = some j → W.heap.size + 3 ≤ j := ow9.blk
  have X9 := ((h.xb.on (QA p) (by omega)).on Qr (by omega)).put6 v9
  refine ⟨(((h.lp.onx (QA (p + 1)) (by omega)).onx Qr (by omega)).onx QS (by omega)), ?_, ((h.rb.on (QA p) (by omega)).on Qr (by omega)).on QS (by omega), X9, ow9.grown QS (.inr fun e => by have := hob _ e; omega), by simp [h.ln], ?_, ?_, ?_⟩
  · rw [QS.cell (by omega) (by omega), Qr.cell (by omega) (by omega), (QA p).cell (by omega) (by omega)]
    exact h.eb
  · have fin : ∀ {z : Ex} {v : Value} {gg : Nat → Prop}, (∀ b, gg b → (b < W0.heap.size ∨ W.heap.size + 3 ≤ b) ∧ kv.ownBlock ≠ some b ∧ b < w8.heap.size) → Rdg gg w8 z v → Rdg (fun b => (b < W0.heap.size ∨ W.heap.size + 3 ≤ b) ∧ v9.ownBlock ≠ some b) (w9.setCell ⟨W.heap.size + 2, 6, none⟩ v9) z v := by
      intro z v gg hg hz
      refine Rdg.mono (fun b hb => ⟨(hg b hb).1, fun e => ?_⟩) _ _ (Rdg.on QS (fun b hb => by have := (hg b hb).1; omega) _ _ (Rdg.on Qr (fun b hb e => ?_) _ _ (Rdg.on (QA p) (fun b hb => by have := (hg b hb).1; omega) _ _ hz)))
      · subst e
        rcases hro with e' | e'
        · exact (hg _ hb).2.1 e'
        · have := (hg _ hb).2.2; omega
      · rcases hat with e' | e'
        · rw [e'] at e; exact (hg b hb).2.1 e
        · rw [e'] at e
          have := Option.some.inj e
          have := (hg b hb).2.2
          omega
    intro i h1 h2
    by_cases hi : i < ks'.length
    · have hi' : i < Ls.length := by rw [← h.ln]; exact hi
      rw [List.getElem_append_left hi, List.getElem_append_left hi']
      exact fin (gg := fun b => ((b < W0.heap.size ∨ W.heap.size + 3 ≤ b) ∧ kv.ownBlock ≠ some b) ∧ b < w8.heap.size) (fun b hb => ⟨hb.1.1, hb.1.2, hb.2⟩) (Rdg.in _ _ (h.rd i hi hi'))
    · have e : i = ks'.length := by simp at h1; omega
      subst e
      rw [List.getElem_append_right (by omega), List.getElem_append_right (by rw [h.ln]; omega)]
      simp only [h.ln, Nat.sub_self, List.getElem_cons_zero]
      refine fin (gg := fun b => (b < W0.heap.size ∨ wr.heap.size ≤ b) ∧ b < w8.heap.size) (fun b hb => ⟨by omega, fun e => ?_, hb.2⟩) (Rdg.in _ _ R8)
      have h3 := hlt _ e
      have h4 := h.ow.blk _ e
      omega
  · exact ((h.qx.trans (QA p)).via Qr (by omega)).via QS (by omega)
  · have : (w9.setCell ⟨W.heap.size + 2, 6, none⟩ v9).heap.size = w9.heap.size := by simp [World.setCell]
    omega
theorem rdg_mk {g : Nat → Prop} {W : World} {B : Nat} (k n : Int) {t : List UInt8} {T : ByteArray} (hT : T.data.toList = t) (b : Bool) (e : Int) {rs : List Rf} {rv : Value} (hr : Slg g W rv rs) {ks : List Ex} {Ls : List V7} {kv : Value} (ow : Own enc7 40 7 B W kv Ls) (hl : ks.length = Ls.length) (hb : ∀ j, kv.ownBlock = some j → g j) (hrd : ∀ i (h : i < ks.length) (h' : i < Ls.length), Rdg g W ks[i] (agg7 Ls[i])) :
    Rdg g W (.mk k n t b e rs ks) (.agg #[.int .i64 k, .int .i64 n, .string T, .bool b, .int .i64 e, rv, kv]) := by
  have h := rdg_call (g := g) hT ow hl hb hrd
  have e' : T = ⟨t.toArray⟩ := bytes_eq hT
  subst e'
  unfold callE Rdg at h
  obtain ⟨rv', kv', hv, _, hk⟩ := h
  simp only [Value.agg.injEq, Array.mk.injEq, List.cons.injEq, and_true, true_and] at hv
  obtain ⟨_, rfl⟩ := hv
  unfold Rdg
  exact ⟨_, _, rfl, hr, hk⟩
theorem slg_in {W0 V : World} {rv : Value} {rs : List Rf} (h : Sl rf 5 W0 rv rs) (q : Q W0 V) : Slg (fun b => b < W0.heap.size) V rv rs := by
  obtain ⟨ao, cap, hv, h1, h2, h3⟩ := h
  refine ⟨ao, cap, hv, h1, h2, fun hl => ?_⟩
  obtain ⟨b, off, ha, hc⟩ := h3 hl
  exact ⟨b, off, ha, World.block_lt_of_cell? W0 ⟨b, off + 0 * 5 + 0, none⟩ (hc 0 hl 0 _ rfl), fun i hi => (hc i hi).on q⟩
theorem slg_cut {W0 V : World} {a1 : Option Addr} {n c1 : Nat} {rs : List Rf} (h : Sl rf 5 W0 (.slice a1 n c1) rs) (q : Q W0 V) (hl : 4 < rs.length) : Slg (fun b => b < W0.heap.size) V (.slice a1 4 c1) (rs.take 4) := by
  obtain ⟨ao, cap, hv, h1, h2, h3⟩ := slg_in h q
  simp only [Value.slice.injEq] at hv
  obtain ⟨rfl, _, rfl⟩ := hv
  have e : (rs.take 4).length = 4 := by rw [List.length_take]; omega
  refine ⟨a1, c1, by rw [e], by omega, h2, fun _ => ?_⟩
  obtain ⟨b, off, ha, hg, hc⟩ := h3 (by omega)
  exact ⟨b, off, ha, hg, fun i hi => by rw [List.getElem_take]; exact hc i (by omega)⟩
set_option maxHeartbeats 4000000 in
theorem si_start {W0 W : World} {p l : Nat} (hp1 : p < W.heap.size) (h : LfP W p l) (l' : Nat) (c0 c1 c2 c3 c4 c5 kv0 : Value) (k n : Int) (T : ByteArray) (b : Bool) (e : Int) (a1 : Option Addr) (m cc : Nat) :
    SI W0 W p k n T b e a1 m cc kv0 ((((W.setCell ⟨p, 0, none⟩ (.int .i64 (l' : Int))).alloc (.cells #[c0, c1, c2, c3, c4, c5, kv0] 40)).alloc (.cells #[.int .i64 0, .int .i64 0, .string ⟨#[]⟩, .bool false, .int .i64 0, .slice none 0 0, .slice none 0 0] 40)).alloc (.cells #[.int .i64 k, .int .i64 n, .string T, .bool b, .int .i64 e, .slice a1 m cc, .slice none 0 0] 40)) [] [] (.slice none 0 0) l' := by
  have e0 : (W.setCell ⟨p, 0, none⟩ (.int .i64 (l' : Int))).heap.size = W.heap.size := by simp [World.setCell]
  have q0 : Qx p W (W.setCell ⟨p, 0, none⟩ (.int .i64 (l' : Int))) := (Qx.refl p W).own 0 _
  have L1 := h.put l'
  have A : ∀ (V : World) (o : Obj) (r : Nat), Qx r V (V.alloc o) := fun V o r => (Qx.refl r V).alloc o
  have t1 := tb_new (W.setCell ⟨p, 0, none⟩ (.int .i64 (l' : Int))) c0 c1 c2 c3 c4 c5 kv0 40
  have t2 := tb_new ((W.setCell ⟨p, 0, none⟩ (.int .i64 (l' : Int))).alloc (.cells #[c0, c1, c2, c3, c4, c5, kv0] 40)) (.int .i64 0) (.int .i64 0) (.string ⟨#[]⟩) (.bool false) (.int .i64 0) (.slice none 0 0) (.slice none 0 0) 40
  have t3 := tb_new (((W.setCell ⟨p, 0, none⟩ (.int .i64 (l' : Int))).alloc (.cells #[c0, c1, c2, c3, c4, c5, kv0] 40)).alloc (.cells #[.int .i64 0, .int .i64 0, .string ⟨#[]⟩, .bool false, .int .i64 0, .slice none 0 0, .slice none 0 0] 40)) (.int .i64 k) (.int .i64 n) (.string T) (.bool b) (.int .i64 e) (.slice a1 m cc) (.slice none 0 0) 40
  rw [e0] at t1
  rw [show ((W.setCell ⟨p, 0, none⟩ (.int .i64 (l' : Int))).alloc (.cells #[c0, c1, c2, c3, c4, c5, kv0] 40)).heap.size = W.heap.size + 1 by simp [World.setCell]] at t2
  rw [show (((W.setCell ⟨p, 0, none⟩ (.int .i64 (l' : Int))).alloc (.cells #[c0, c1, c2, c3, c4, c5, kv0] 40)).alloc (.cells #[.int .i64 0, .int .i64 0, .string ⟨#[]⟩, .bool false, .int .i64 0, .slice none 0 0, .slice none 0 0] 40)).heap.size = W.heap.size + 2 by simp [World.setCell]] at t3
  refine ⟨((L1.onx (A _ _ (p + 1)) (by omega)).onx (A _ _ (p + 1)) (by omega)).onx (A _ _ (p + 1)) (by omega), ((t1.on (A _ _ p) (by omega)).on (A _ _ p) (by omega)).g6, t2.on (A _ _ p) (by omega), t3, own_nil _, rfl, fun i h => absurd h (by simp), ((q0.alloc _).alloc _).alloc _, by simp [World.setCell]⟩
theorem q_over {W0 W wr : World} {p : Nat} (h : Q W0 W) (q : Qx p W wr) (hp : W0.heap.size ≤ p) : Q W0 wr :=
  ⟨q.os.trans h.os, q.tape.trans h.tape, q.output.trans h.output, Nat.le_trans h.size q.size, fun i hi => (q.block i (Nat.lt_of_lt_of_le hi h.size) (fun e => by have := Option.some.inj e; omega)).trans (Q.block h hi)⟩
theorem KidI.cells {W W' : World} {x : Ex} {b off : Nat} {c0 c1 c2 c3 c4 c5 c6 : Value} (h : KidI W x b off c0 c1 c2 c3 c4 c5 c6) (q : Q W W') : W'.cell? ⟨b, off, none⟩ = some c0 ∧ W'.cell? ⟨b, off + 1, none⟩ = some c1 ∧ W'.cell? ⟨b, off + 2, none⟩ = some c2 ∧ W'.cell? ⟨b, off + 3, none⟩ = some c3 ∧ W'.cell? ⟨b, off + 4, none⟩ = some c4 ∧ W'.cell? ⟨b, off + 5, none⟩ = some c5 ∧ W'.cell? ⟨b, off + 6, none⟩ = some c6 := by
  have ce : ∀ {o : Nat} {c : Value}, W.cell? ⟨b, o, none⟩ = some c → W'.cell? ⟨b, o, none⟩ = some c := fun h => (q.cell (World.block_lt_of_cell? W ⟨b, _, none⟩ h)).trans h
  exact ⟨ce h.g0, ce h.g1, ce h.g2, ce h.g3, ce h.g4, ce h.g5, ce h.g6⟩
theorem ks_on {W V : World} (q : Q W V) {E X b o : Nat} {u0 u1 c0 c1 c2 c3 c4 c5 c6 : Value} (h : W.cell? ⟨E, 6, none⟩ = some u0 ∧ W.cell? ⟨X, 6, none⟩ = some u1 ∧ W.cell? ⟨b, o, none⟩ = some c0 ∧ W.cell? ⟨b, o + 1, none⟩ = some c1 ∧ W.cell? ⟨b, o + 2, none⟩ = some c2 ∧ W.cell? ⟨b, o + 3, none⟩ = some c3 ∧ W.cell? ⟨b, o + 4, none⟩ = some c4 ∧ W.cell? ⟨b, o + 5, none⟩ = some c5 ∧ W.cell? ⟨b, o + 6, none⟩ = some c6) :
    V.cell? ⟨E, 6, none⟩ = some u0 ∧ V.cell? ⟨X, 6, none⟩ = some u1 ∧ V.cell? ⟨b, o, none⟩ = some c0 ∧ V.cell? ⟨b, o + 1, none⟩ = some c1 ∧ V.cell? ⟨b, o + 2, none⟩ = some c2 ∧ V.cell? ⟨b, o + 3, none⟩ = some c3 ∧ V.cell? ⟨b, o + 4, none⟩ = some c4 ∧ V.cell? ⟨b, o + 5, none⟩ = some c5 ∧ V.cell? ⟨b, o + 6, none⟩ = some c6 := by
  have ce : ∀ {b o : Nat} {c : Value}, W.cell? ⟨b, o, none⟩ = some c → V.cell? ⟨b, o, none⟩ = some c := fun {b o c} h => (q.cell (World.block_lt_of_cell? W ⟨b, o, none⟩ h)).trans h
  obtain ⟨h0, h1, h2, h3, h4, h5, h6, h7, h8⟩ := h
  exact ⟨ce h0, ce h1, ce h2, ce h3, ce h4, ce h5, ce h6, ce h7, ce h8⟩
theorem ks_onx {p : Nat} {W V : World} (q : Qx p W V) {E X b o : Nat} {u0 u1 c0 c1 c2 c3 c4 c5 c6 : Value} (hE : E ≠ p) (hX : X ≠ p) (hB : b ≠ p) (h : W.cell? ⟨E, 6, none⟩ = some u0 ∧ W.cell? ⟨X, 6, none⟩ = some u1 ∧ W.cell? ⟨b, o, none⟩ = some c0 ∧ W.cell? ⟨b, o + 1, none⟩ = some c1 ∧ W.cell? ⟨b, o + 2, none⟩ = some c2 ∧ W.cell? ⟨b, o + 3, none⟩ = some c3 ∧ W.cell? ⟨b, o + 4, none⟩ = some c4 ∧ W.cell? ⟨b, o + 5, none⟩ = some c5 ∧ W.cell? ⟨b, o + 6, none⟩ = some c6) :
    V.cell? ⟨E, 6, none⟩ = some u0 ∧ V.cell? ⟨X, 6, none⟩ = some u1 ∧ V.cell? ⟨b, o, none⟩ = some c0 ∧ V.cell? ⟨b, o + 1, none⟩ = some c1 ∧ V.cell? ⟨b, o + 2, none⟩ = some c2 ∧ V.cell? ⟨b, o + 3, none⟩ = some c3 ∧ V.cell? ⟨b, o + 4, none⟩ = some c4 ∧ V.cell? ⟨b, o + 5, none⟩ = some c5 ∧ V.cell? ⟨b, o + 6, none⟩ = some c6 := by
  have ce : ∀ {b o : Nat} {c : Value}, b ≠ p → W.cell? ⟨b, o, none⟩ = some c → V.cell? ⟨b, o, none⟩ = some c := fun {b o c} hn h => (q.cell (World.block_lt_of_cell? W ⟨b, o, none⟩ h) hn).trans h
  obtain ⟨h0, h1, h2, h3, h4, h5, h6, h7, h8⟩ := h
  exact ⟨ce hE h0, ce hX h1, ce hB h2, ce hB h3, ce hB h4, ce hB h5, ce hB h6, ce hB h7, ce hB h8⟩
theorem ks_grown {W V : World} {r : Option Nat} (g : W.grownBy V r) {E X b o : Nat} {u0 u1 c0 c1 c2 c3 c4 c5 c6 : Value} (hE : some E ≠ r) (hX : some X ≠ r) (hB : some b ≠ r) (h : W.cell? ⟨E, 6, none⟩ = some u0 ∧ W.cell? ⟨X, 6, none⟩ = some u1 ∧ W.cell? ⟨b, o, none⟩ = some c0 ∧ W.cell? ⟨b, o + 1, none⟩ = some c1 ∧ W.cell? ⟨b, o + 2, none⟩ = some c2 ∧ W.cell? ⟨b, o + 3, none⟩ = some c3 ∧ W.cell? ⟨b, o + 4, none⟩ = some c4 ∧ W.cell? ⟨b, o + 5, none⟩ = some c5 ∧ W.cell? ⟨b, o + 6, none⟩ = some c6) :
    V.cell? ⟨E, 6, none⟩ = some u0 ∧ V.cell? ⟨X, 6, none⟩ = some u1 ∧ V.cell? ⟨b, o, none⟩ = some c0 ∧ V.cell? ⟨b, o + 1, none⟩ = some c1 ∧ V.cell? ⟨b, o + 2, none⟩ = some c2 ∧ V.cell? ⟨b, o + 3, none⟩ = some c3 ∧ V.cell? ⟨b, o + 4, none⟩ = some c4 ∧ V.cell? ⟨b, o + 5, none⟩ = some c5 ∧ V.cell? ⟨b, o + 6, none⟩ = some c6 := by
  have ce : ∀ {b o : Nat} {c : Value}, some b ≠ r → W.cell? ⟨b, o, none⟩ = some c → V.cell? ⟨b, o, none⟩ = some c := fun {b o c} hn h => (g.cell_far ⟨b, o, none⟩ (World.block_lt_of_cell? W ⟨b, o, none⟩ h) hn).trans h
  obtain ⟨h0, h1, h2, h3, h4, h5, h6, h7, h8⟩ := h
  exact ⟨ce hE h0, ce hX h1, ce hB h2, ce hB h3, ce hB h4, ce hB h5, ce hB h6, ce hB h7, ce hB h8⟩
theorem cutL_go {ks : List Ex} {d i l : Nat} (hi : i < ks.length) (hl : 0 < l) (hd : d < 60) : cutE.cutL (ks.drop i) d l = ((cutE ks[i] (d + 1) l).1 :: (cutE.cutL (ks.drop (i + 1)) d (cutE ks[i] (d + 1) l).2).1, (cutE.cutL (ks.drop (i + 1)) d (cutE ks[i] (d + 1) l).2).2) := by
  rw [List.drop_eq_getElem_cons hi, cutE.cutL, if_pos ⟨hl, hd⟩]
theorem lies_of {kv : Value} {g n m l cap : Nat} (hat : kv.ownBlock = some g ∨ g = n) (e : m = n) : (Value.slice (some ⟨g, 0, none⟩) l cap).ownBlock = kv.ownBlock ∨ (Value.slice (some ⟨g, 0, none⟩) l cap).ownBlock = some m := by
  rcases hat with h | h
  · exact .inl (by rw [h]; rfl)
  · exact .inr (by rw [e, ← h]; rfl)
theorem cutS_le {x : Ex} {d l : Nat} (h : 0 < l) (h2 : l ≤ 220) : (cutE x (d + 1) l).2 ≤ 220 := by
  have := cut_nodes x (d + 1) l h
  omega
theorem cutL_next {ks ks2 : List Ex} {d i l l0 : Nat} (h : cutE.cutL ks d l0 = (ks2 ++ (cutE.cutL (ks.drop i) d l).1, (cutE.cutL (ks.drop i) d l).2)) (hi : i < ks.length) (hl : 0 < l) (hd : d < 60) : cutE.cutL ks d l0 = ((ks2 ++ [(cutE ks[i] (d + 1) l).1]) ++ (cutE.cutL (ks.drop (i + 1)) d (cutE ks[i] (d + 1) l).2).1, (cutE.cutL (ks.drop (i + 1)) d (cutE ks[i] (d + 1) l).2).2) := by
  rw [h, cutL_go hi hl hd]
  simp
theorem cut_count {x : Ex} {Ls : List V7} {v : V7} {d i l : Nat} (h : Ls.length ≤ i ∧ Ls.length + l ≤ 220) (hl : 0 < l) : (Ls ++ [v]).length ≤ i + 1 ∧ (Ls ++ [v]).length + (cutE x (d + 1) l).2 ≤ 220 := by
  have h1 := cut_nodes x (d + 1) l hl
  have h2 : 0 < nodes (cutE x (d + 1) l).1 := by cases (cutE x (d + 1) l).1 with | mk _ _ _ _ _ _ _ => rw [nodes]; omega
  rw [List.length_append, List.length_singleton]
  omega
theorem some_end {W0 W : World} {p : Nat} {k n : Int} {t : List UInt8} {T : ByteArray} {b : Bool} {e : Int} {a1 : Option Addr} {m c1 : Nat} {kv0 : Value} {wr : World} {ks ks2 : List Ex} {Ls : List V7} {kv : Value} {d l li : Nat} {rs : List Rf} (h : SI W0 W p k n T b e a1 m c1 kv0 wr ks2 Ls kv li) (hT : T.data.toList = t.take 250) (hp0 : W0.heap.size ≤ p) (hp1 : p < W.heap.size)
    (hs : Slg (fun b => b < W0.heap.size) wr (.slice a1 m c1) (rs.take 4)) (hc : cutE.cutL ks d (l - 1) = (ks2, li)) :
    RepS W0 p W (cutE (.mk k n t b e rs ks) d l) (.returned (.agg #[.int .i64 k, .int .i64 n, .string T, .bool b, .int .i64 e, .slice a1 m c1, kv]))
      (((((((wr.setCell ⟨W.heap.size + 1, 0, none⟩ (.int .i64 k)).setCell ⟨W.heap.size + 1, 1, none⟩ (.int .i64 n)).setCell ⟨W.heap.size + 1, 2, none⟩ (.string T)).setCell ⟨W.heap.size + 1, 3, none⟩ (.bool b)).setCell ⟨W.heap.size + 1, 4, none⟩ (.int .i64 e)).setCell ⟨W.heap.size + 1, 5, none⟩ (.slice a1 m c1)).setCell ⟨W.heap.size + 1, 6, none⟩ kv) := by
  have QF : Qx (W.heap.size + 1) wr (((((((wr.setCell ⟨W.heap.size + 1, 0, none⟩ (.int .i64 k)).setCell ⟨W.heap.size + 1, 1, none⟩ (.int .i64 n)).setCell ⟨W.heap.size + 1, 2, none⟩ (.string T)).setCell ⟨W.heap.size + 1, 3, none⟩ (.bool b)).setCell ⟨W.heap.size + 1, 4, none⟩ (.int .i64 e)).setCell ⟨W.heap.size + 1, 5, none⟩ (.slice a1 m c1)).setCell ⟨W.heap.size + 1, 6, none⟩ kv) := (((((((Qx.refl _ _).own _ _).own _ _).own _ _).own _ _).own _ _).own _ _).own _ _
  have hkb := h.ow.blk
  have L := h.lp.onx QF (by omega)
  refine ⟨_, rfl, ?_, h.qx.via QF (by omega), ?_, L.f⟩
  · rw [cutE, hc]
    refine rdg_mk k n hT b e ((hs.on QF (fun b hb => by omega)).mono (fun b hb => .inl hb)) (h.ow.grown QF (.inr fun e => by have := hkb _ e; omega)) h.ln (fun j hj => .inr (by have := hkb _ hj; omega)) (fun i h1 h2 => ?_)
    exact Rdg.mono (fun b hb => by omega) _ _ (Rdg.on QF (fun b hb => by omega) _ _ (h.rd i h1 h2))
  · rw [cutE, hc]
    exact L.c
theorem cutL_stop {ks : List Ex} {d i l : Nat} (h : ¬ (i < ks.length ∧ 0 < l ∧ d < 60)) : cutE.cutL (ks.drop i) d l = ([], l) := by
  by_cases hi : i < ks.length
  · rw [List.drop_eq_getElem_cons hi, cutE.cutL, if_neg (fun h' => h ⟨hi, h'.1, h'.2⟩)]
  · rw [List.drop_eq_nil_of_le (by omega), cutE.cutL]
set_option maxHeartbeats 8000000 in
theorem some_step (W0 : World) (p : Nat) (k n : Int) (t : ByteArray) (b : Bool) (e : Int) (rs : List Rf) (ks : List Ex) (a1 : Option Addr) (c1 : Nat) (ao : Option Addr) (cap : Nat) (W : World) (d l : Nat)
    (hsl : Hid (Sl rf 5 W0 (.slice a1 rs.length c1) rs)) (hcap : Hid (ks.length ≤ cap ∧ cap ≤ maxLen)) (hkd : Hid (ks ≠ [] → ∃ b' off, ao = some ⟨b', off, none⟩ ∧ RdI.RdIL W0 ks b' off))
    (hq : Hid (Q W0 W)) (hp0 : W0.heap.size ≤ p) (hp1 : p < W.heap.size) (hc : W.cell? ⟨p, 0, none⟩ = some (.int .i64 (l : Int))) (hf : W.frozen? ⟨p, 0, none⟩ = false) (hl1 : 1 ≤ l) (hl2 : l ≤ 220) (hd : d ≤ 60)
    (IH : Hid (∀ i (hi : i < ks.length) (v : Value) (W : World) (d l : Nat), RdI W0 ks[i] v → Q W0 W → p < W.heap.size → W.cell? ⟨p, 0, none⟩ = some (.int .i64 (l : Int)) → W.frozen? ⟨p, 0, none⟩ = false → 1 ≤ l → l ≤ 220 → d ≤ 60 → Calls Tryz.prog 48 #[v, .int .i64 (d : Int), .pointer (some ⟨p, 0, none⟩)] W fun e W' => RepS W0 p W (cutE ks[i] d l) e W')) :
    Calls Tryz.prog 48 #[.agg #[.int .i64 k, .int .i64 n, .string t, .bool b, .int .i64 e, .slice a1 rs.length c1, .slice ao ks.length cap], .int .i64 (d : Int), .pointer (some ⟨p, 0, none⟩)] W fun e' W' => RepS W0 p W (cutE (.mk k n t.data.toList b e rs ks) d l) e' W' := by
  have HSH := hid (fun W' => short_any t 250 W' (by omega) (by omega))
  obtain ⟨T, hT⟩ : ∃ T, (if (250 : Int) < (t.size : Int) then t.extract 0 (250 : Int).toNat else t) = T := ⟨_, rfl⟩
  have HT : Hid (T.data.toList = t.data.toList.take 250) := by
    show _ = _
    rw [← hT]
    split
    · rw [show (250 : Int).toNat = 250 from rfl, ByteArray.data_extract, Array.toList_extract]
      simp [List.extract_eq_take_drop]
    · rw [List.take_of_length_le]
      rw [len_data]
      omega
  rw [hT] at HSH
  have hl0 : (l : Int) - 1 = ((l - 1 : Nat) : Int) := by omega
  have hc1 : rs.length ≤ c1 := by
    obtain ⟨_, cc, hv, hle, _⟩ := hsl.out
    simp only [Value.slice.injEq] at hv
    omega
  by_cases h4 : 4 < rs.length
  · skip
    have g5 : (4 : Int) ≤ (c1 : Int) := by omega
    have g4 : (4 : Int) < (rs.length : Int) := by omega
    have HSg : Hid (∀ V, Q W0 V → Slg (fun b => b < W0.heap.size) V (.slice a1 4 c1) (rs.take 4)) := hid (fun V q => slg_cut hsl.out q (by omega))
    clear h4 hc1
    go_enter Tryz.func48, Tryz.ntmps48
    go_wp2_with (go_at_call 36; refine (HSH.out _).mono ?_; rintro e9 w9 ⟨rfl, h9⟩; replace h9 := h9.symm; subst h9)
    obtain ⟨V0, hV0⟩ : ∃ V0, V0 = ((((W.setCell ⟨p, 0, none⟩ (.int .i64 ((l - 1 : Nat) : Int))).alloc (.cells #[.int .i64 k, .int .i64 n, .string t, .bool b, .int .i64 e, .slice a1 rs.length c1, .slice ao ks.length cap] 40)).alloc (.cells #[.int .i64 0, .int .i64 0, .string ⟨#[]⟩, .bool false, .int .i64 0, .slice none 0 0, .slice none 0 0] 40)).alloc (.cells #[.int .i64 k, .int .i64 n, .string T, .bool b, .int .i64 e, .slice a1 4 c1, .slice none 0 0] 40)) := ⟨_, rfl⟩
    have HI0 : Hid (SI W0 W p k n T b e a1 4 c1 (.slice ao ks.length cap) V0 [] [] (.slice none 0 0) (l - 1)) := by
      rw [hV0]
      exact si_start hp1 ⟨hc, hf⟩ _ _ _ _ _ _ _ _ _ _ _ _ _ _ _ _
    rw [← hV0]
    clear hV0 hc hf
    go_loopw [8] (fun z wr => ∃ (i : Nat) (ks2 : List Ex) (Ls : List V7) (kv : Value) (li : Nat), i ≤ ks.length ∧ z = .int .i64 (i : Int) ∧ SI W0 W p k n T b e a1 4 c1 (.slice ao ks.length cap) wr ks2 Ls kv li ∧ li ≤ 220 ∧ Hid (cutE.cutL ks d (l - 1) = (ks2 ++ (cutE.cutL (ks.drop i) d li).1, (cutE.cutL (ks.drop i) d li).2)) ∧ Hid (Ls.length ≤ i ∧ Ls.length + li ≤ 220)) (fun z _ => ks.length - (intOf z).toNat)
    case atStart => exact ⟨0, [], [], _, l - 1, Nat.zero_le _, rfl, HI0.out, by omega, hid (by rw [List.drop_zero]; rfl), hid ⟨by simp, by simp; omega⟩⟩
    case round =>
      obtain ⟨i, ks2, Ls, kv, li, hi, rfl, hS, hli, HC, HLN⟩ := hrel
      clear HI0
      have HS := hid hS
      have e6 := hS.eb
      have lc := hS.lp.c
      have hsz := hS.sz
      have HQ0 : Hid (Q W0 wr) := hid (q_over hq.out hS.qx hp0)
      by_cases hgo : i < ks.length ∧ 0 < li ∧ d < 60
      · obtain ⟨hlt, hl0', hd0⟩ := hgo
        have i1 : (i : Int) < (ks.length : Int) := by omega
        have i2 : (0 : Int) < (li : Int) := by omega
        have i3 : (d : Int) < 60 := by omega
        have hroom : ks.length ≤ 9223372036854775807 := by have h2 := hcap.out; unfold maxLen at h2; omega
        have hne : ks ≠ [] := by intro h; rw [h] at hlt; simp at hlt
        obtain ⟨bb, off, rfl, hrl⟩ := hkd.out hne
        obtain ⟨d0, d1, d2, d3, d4, d5, d6, hk0⟩ := hrl.kid i hlt
        obtain ⟨g0, g1, g2, g3, g4, g5, g6⟩ := hk0.cells HQ0.out
        have x6 : wr.cell? ⟨W.heap.size + 1 + 1, 6, none⟩ = some kv := hS.xb.g6
        have HKP : Hid (∀ V, Q wr V → (V.cell? ⟨W.heap.size, 6, none⟩ = some (.slice (some ⟨bb, off, none⟩) ks.length cap) ∧ V.cell? ⟨W.heap.size + 1 + 1, 6, none⟩ = some kv ∧ V.cell? ⟨bb, off + i * 7, none⟩ = some d0 ∧ V.cell? ⟨bb, off + i * 7 + 1, none⟩ = some d1 ∧ V.cell? ⟨bb, off + i * 7 + 2, none⟩ = some d2 ∧ V.cell? ⟨bb, off + i * 7 + 3, none⟩ = some d3 ∧ V.cell? ⟨bb, off + i * 7 + 4, none⟩ = some d4 ∧ V.cell? ⟨bb, off + i * 7 + 5, none⟩ = some d5 ∧ V.cell? ⟨bb, off + i * 7 + 6, none⟩ = some d6)) := hid (fun V q => ks_on q ⟨e6, x6, g0, g1, g2, g3, g4, g5, g6⟩)
        have HIK : Hid (∀ V, Q wr V → Calls Tryz.prog 48 #[.agg #[d0, d1, d2, d3, d4, d5, d6], .int .i64 ((d : Int) + 1), .pointer (some ⟨p, 0, none⟩)] V fun e W' => RepS W0 p V (cutE ks[i] (d + 1) li) e W') := hid (fun V q => by
          have hlp := HS.out.lp.blk (Q.block q HS.out.lp.lt)
          have := IH.out i hlt (.agg #[d0, d1, d2, d3, d4, d5, d6]) V (d + 1) li hk0.rd (HQ0.out.trans q) hlp.lt hlp.c hlp.f (by omega) (by omega) (by omega)
          rw [show ((d + 1 : Nat) : Int) = (d : Int) + 1 by omega] at this
          exact this)
        have hbb : bb < W0.heap.size := World.block_lt_of_cell? W0 ⟨bb, off + i * 7, none⟩ hk0.g0
        have HKX : Hid (∀ w8, Qx p wr w8 → ∀ V, Q w8 V → (V.cell? ⟨W.heap.size, 6, none⟩ = some (.slice (some ⟨bb, off, none⟩) ks.length cap) ∧ V.cell? ⟨W.heap.size + 1 + 1, 6, none⟩ = some kv ∧ V.cell? ⟨bb, off + i * 7, none⟩ = some d0 ∧ V.cell? ⟨bb, off + i * 7 + 1, none⟩ = some d1 ∧ V.cell? ⟨bb, off + i * 7 + 2, none⟩ = some d2 ∧ V.cell? ⟨bb, off + i * 7 + 3, none⟩ = some d3 ∧ V.cell? ⟨bb, off + i * 7 + 4, none⟩ = some d4 ∧ V.cell? ⟨bb, off + i * 7 + 5, none⟩ = some d5 ∧ V.cell? ⟨bb, off + i * 7 + 6, none⟩ = some d6)) := hid (fun w8 q V q' => ks_on q' (ks_onx q (by omega) (by omega) (by omega) ⟨e6, x6, g0, g1, g2, g3, g4, g5, g6⟩))
        have hkb := HS.out.ow.blk
        have hkp : kv.ownBlock = none ∨ kv.ownBlock ≠ some p := .inr (fun e => by have := hkb _ e; omega)
        have hkE : some W.heap.size ≠ kv.ownBlock := fun e => by have := hkb _ e.symm; omega
        have hkX : some (W.heap.size + 1 + 1) ≠ kv.ownBlock := fun e => by have := hkb _ e.symm; omega
        have hkB : some bb ≠ kv.ownBlock := fun e => by have := hkb _ e.symm; omega
        have hdd : IntKind.i64.wrap ((d : Int) + 1) = (d : Int) + 1 := by rw [IntKind.wrap_i64]; omega
        have hLL : Ls.length ≤ 220 := by have := HLN.out; omega
        obtain ⟨i0, hi0, hz0, hz1, hz2⟩ := inf_of info28
        obtain ⟨s1, s2, s3, s4, s5, s6, s7, s8, s9, s10, s11, hsh⟩ := hk0.rd.shape
        simp only [Value.agg.injEq, Array.mk.injEq, List.cons.injEq, and_true] at hsh
        obtain ⟨rfl, rfl, rfl, rfl, rfl, rfl, rfl⟩ := hsh
        clear hS
        go_wp2_with fail
        go_region_law (first | (refine step_append_lies _ (by rfl) _ _ _ (by rfl) (W.heap.size + 3) 40 i0 (.agg #[.int .i64 0, .int .i64 0, .string ⟨#[]⟩, .bool false, .int .i64 0, .slice none 0 0, .slice none 0 0]) 7 96 Tryz.underlying38 hi0 hz0 hz1 hz2 rfl (by decide) kv Ls.length (flat enc7 Ls) (by rfl) (((HS.out.ow.grown Q8.out hkp).alloc _).on (by repeat (first | with_reducible exact Q.refl _ | with_reducible refine Q.drewN ?_ _ | with_reducible refine Q.drew ?_))) ⟨w8.heap.size, 0, none⟩ 1 1 [.int .i64 k8, .int .i64 m8, .string t8, .bool bb8, .int .i64 er8, .slice a18 l18 c18, .slice a28 l28 c28] (by rfl) (by rfl) (World.news_of_block (cs := #[.int .i64 k8, .int .i64 m8, .string t8, .bool bb8, .int .i64 er8, .slice a18 l18 c18, .slice a28 l28 c28]) (t := 40) (fr := (0, 0)) (MapKept.heap_alloc w8 _).1) (one7 _ _ _ _ _ _ _ _ _ _ _) (by omega) (by unfold maxLen; omega) (by omega) (by simp; omega) (w8.heap.size + 1) (by simp) ?_; intro g9 cap9 w9 hown9 hgrow9 hat9 hlt9; have HZ9 := hid hown9; have HG9 := hid hgrow9; have HA9 := hid hat9; have HK9 := hid (ks_grown hgrow9 hkE hkX hkB (HK8.out _ ((Q.refl _).alloc _))); have x69 : w9.cell? ⟨W.heap.size + 1 + 1, 6, none⟩ = some kv := HK9.out.2.1; have f69 : w9.frozen? ⟨W.heap.size + 1 + 1, 6, none⟩ = false := (hgrow9.frozen_far ⟨W.heap.size + 1 + 1, 6, none⟩ (by simp; omega) hkX).trans ((T8.out.on ((Qx.refl p _).alloc _) (by omega)).f 6); clear hown9 hgrow9 hat9) | (go_simp; refine (HIK.out _ (by repeat (first | with_reducible exact Q.refl _ | with_reducible refine Q.drewN ?_ _ | with_reducible refine Q.drew ?_))).mono ?_; rintro e8 w8 ⟨v8, rfl, hr8, q8, l8, f8⟩; obtain ⟨k8, m8, t8, bb8, er8, a18, l18, c18, a28, l28, c28, rfl⟩ := hr8.shape; have R8 := hid (Rdg.mono (g' := fun b => b < W0.heap.size ∨ wr.heap.size ≤ b) (fun b hb => hb) _ _ hr8); have Q8 : Hid (Qx p wr w8) := hid ((Qx.of (by repeat (first | with_reducible exact Q.refl _ | with_reducible refine Q.drewN ?_ _ | with_reducible refine Q.drew ?_))).trans q8); have L8 : Hid (LfP w8 p (cutE ks[i] (d + 1) li).2) := hid ⟨l8, f8⟩; have HK8 := hid (HKX.out w8 Q8.out); have T8 := hid (HS.out.xb.on Q8.out (by omega)); obtain ⟨y1, y2, y3, y4, y5, y6, y7, y8, y9⟩ := HK8.out _ (Q.refl _); have hw8 : wr.heap.size ≤ w8.heap.size := Q8.out.size; have hlx : W.heap.size + 1 + 1 < w8.heap.size := (by omega); have hlE : W.heap.size < w8.heap.size := (by omega); clear hr8 q8 l8 f8))
        all_goals go_wp2_with fail
        all_goals go_roundw
        all_goals first
          | (simp [intOf]; omega)
          | exact ⟨i + 1, ks2 ++ [(cutE ks[i] (d + 1) li).1], Ls ++ [⟨.int .i64 k8, .int .i64 m8, .string t8, .bool bb8, .int .i64 er8, .slice a18 l18 c18, .slice a28 l28 c28⟩], .slice (some ⟨g9, 0, none⟩) (Ls.length + 1) cap9, (cutE ks[i] (d + 1) li).2, by omega, by go_num, (HS.out.call hp0 hp1 Q8.out L8.out).app hp0 hp1 hsz HS.out.ow.lt _ ⟨.int .i64 k8, .int .i64 m8, .string t8, .bool bb8, .int .i64 er8, .slice a18 l18 c18, .slice a28 l28 c28⟩ R8.out _ HG9.out (own_snoc' (x := (⟨.int .i64 k8, .int .i64 m8, .string t8, .bool bb8, .int .i64 er8, .slice a18 l18 c18, .slice a28 l28 c28⟩ : V7)) HZ9.out rfl) (lies_of HA9.out (by simp)), cutS_le hl0' hli, hid (cutL_next HC.out hlt hl0' hd0), hid (cut_count HLN.out hl0')⟩
      · obtain ⟨ak, ck, hkv, _⟩ := (hS.ow.sl enc7_len (by omega)).len
        subst hkv
        have HF : Hid (cutE.cutL ks d (l - 1) = (ks2, li)) := by
          show _ = _
          rw [HC.out, cutL_stop hgo, List.append_nil]
        have x0 : wr.cell? ⟨W.heap.size + 1 + 1, 0, none⟩ = some (.int .i64 k) := hS.xb.g0
        have x1 : wr.cell? ⟨W.heap.size + 1 + 1, 1, none⟩ = some (.int .i64 n) := hS.xb.g1
        have x2 : wr.cell? ⟨W.heap.size + 1 + 1, 2, none⟩ = some (.string T) := hS.xb.g2
        have x3 : wr.cell? ⟨W.heap.size + 1 + 1, 3, none⟩ = some (.bool b) := hS.xb.g3
        have x4 : wr.cell? ⟨W.heap.size + 1 + 1, 4, none⟩ = some (.int .i64 e) := hS.xb.g4
        have x5 : wr.cell? ⟨W.heap.size + 1 + 1, 5, none⟩ = some (.slice a1 4 c1) := hS.xb.g5
        have x6 : wr.cell? ⟨W.heap.size + 1 + 1, 6, none⟩ = some (.slice ak Ls.length ck) := hS.xb.g6
        have z0 : wr.cell? ⟨W.heap.size + 1, 0, none⟩ = some (.int .i64 0) := hS.rb.g0
        have y0 : wr.frozen? ⟨W.heap.size + 1, 0, none⟩ = false := hS.rb.f 0
        have z1 : wr.cell? ⟨W.heap.size + 1, 1, none⟩ = some (.int .i64 0) := hS.rb.g1
        have y1 : wr.frozen? ⟨W.heap.size + 1, 1, none⟩ = false := hS.rb.f 1
        have z2 : wr.cell? ⟨W.heap.size + 1, 2, none⟩ = some (.string ⟨#[]⟩) := hS.rb.g2
        have y2 : wr.frozen? ⟨W.heap.size + 1, 2, none⟩ = false := hS.rb.f 2
        have z3 : wr.cell? ⟨W.heap.size + 1, 3, none⟩ = some (.bool false) := hS.rb.g3
        have y3 : wr.frozen? ⟨W.heap.size + 1, 3, none⟩ = false := hS.rb.f 3
        have z4 : wr.cell? ⟨W.heap.size + 1, 4, none⟩ = some (.int .i64 0) := hS.rb.g4
        have y4 : wr.frozen? ⟨W.heap.size + 1, 4, none⟩ = false := hS.rb.f 4
        have z5 : wr.cell? ⟨W.heap.size + 1, 5, none⟩ = some (.slice none 0 0) := hS.rb.g5
        have y5 : wr.frozen? ⟨W.heap.size + 1, 5, none⟩ = false := hS.rb.f 5
        have z6 : wr.cell? ⟨W.heap.size + 1, 6, none⟩ = some (.slice none 0 0) := hS.rb.g6
        have y6 : wr.frozen? ⟨W.heap.size + 1, 6, none⟩ = false := hS.rb.f 6
        clear HC hS
        by_cases j1 : i < ks.length
        · have i1 : (i : Int) < (ks.length : Int) := by omega
          by_cases j2 : 0 < li
          · have i2 : (0 : Int) < (li : Int) := by omega
            have i3 : ¬ (d : Int) < 60 := fun h => hgo ⟨j1, j2, by omega⟩
            go_wp2_with fail
            refine bodyPost_ret (v := .agg #[.int .i64 k, .int .i64 n, .string T, .bool b, .int .i64 e, .slice a1 4 c1, .slice ak Ls.length ck]) (by simp [results, Tryz.results48, go_sem, z0, z1, z2, z3, z4, z5, z6]) rfl ?_
            exact some_end HS.out HT.out hp0 hp1 (HSg.out _ HQ0.out) HF.out
          · have i2 : ¬ (0 : Int) < (li : Int) := by omega
            go_wp2_with fail
            refine bodyPost_ret (v := .agg #[.int .i64 k, .int .i64 n, .string T, .bool b, .int .i64 e, .slice a1 4 c1, .slice ak Ls.length ck]) (by simp [results, Tryz.results48, go_sem, z0, z1, z2, z3, z4, z5, z6]) rfl ?_
            exact some_end HS.out HT.out hp0 hp1 (HSg.out _ HQ0.out) HF.out
        · have i1 : ¬ (i : Int) < (ks.length : Int) := by omega
          go_wp2_with fail
          refine bodyPost_ret (v := .agg #[.int .i64 k, .int .i64 n, .string T, .bool b, .int .i64 e, .slice a1 4 c1, .slice ak Ls.length ck]) (by simp [results, Tryz.results48, go_sem, z0, z1, z2, z3, z4, z5, z6]) rfl ?_
          exact some_end HS.out HT.out hp0 hp1 (HSg.out _ HQ0.out) HF.out
  · skip
    have g4 : ¬ (4 : Int) < (rs.length : Int) := by omega
    have HSg : Hid (∀ V, Q W0 V → Slg (fun b => b < W0.heap.size) V (.slice a1 rs.length c1) (rs.take 4)) := hid (fun V q => by rw [List.take_of_length_le (by omega)]; exact slg_in hsl.out q)
    clear h4 hc1
    go_enter Tryz.func48, Tryz.ntmps48
    go_wp2_with (go_at_call 36; refine (HSH.out _).mono ?_; rintro e9 w9 ⟨rfl, h9⟩; replace h9 := h9.symm; subst h9)
    obtain ⟨V0, hV0⟩ : ∃ V0, V0 = ((((W.setCell ⟨p, 0, none⟩ (.int .i64 ((l - 1 : Nat) : Int))).alloc (.cells #[.int .i64 k, .int .i64 n, .string t, .bool b, .int .i64 e, .slice a1 rs.length c1, .slice ao ks.length cap] 40)).alloc (.cells #[.int .i64 0, .int .i64 0, .string ⟨#[]⟩, .bool false, .int .i64 0, .slice none 0 0, .slice none 0 0] 40)).alloc (.cells #[.int .i64 k, .int .i64 n, .string T, .bool b, .int .i64 e, .slice a1 rs.length c1, .slice none 0 0] 40)) := ⟨_, rfl⟩
    have HI0 : Hid (SI W0 W p k n T b e a1 rs.length c1 (.slice ao ks.length cap) V0 [] [] (.slice none 0 0) (l - 1)) := by
      rw [hV0]
      exact si_start hp1 ⟨hc, hf⟩ _ _ _ _ _ _ _ _ _ _ _ _ _ _ _ _
    rw [← hV0]
    clear hV0 hc hf
    go_loopw [8] (fun z wr => ∃ (i : Nat) (ks2 : List Ex) (Ls : List V7) (kv : Value) (li : Nat), i ≤ ks.length ∧ z = .int .i64 (i : Int) ∧ SI W0 W p k n T b e a1 rs.length c1 (.slice ao ks.length cap) wr ks2 Ls kv li ∧ li ≤ 220 ∧ Hid (cutE.cutL ks d (l - 1) = (ks2 ++ (cutE.cutL (ks.drop i) d li).1, (cutE.cutL (ks.drop i) d li).2)) ∧ Hid (Ls.length ≤ i ∧ Ls.length + li ≤ 220)) (fun z _ => ks.length - (intOf z).toNat)
    case atStart => exact ⟨0, [], [], _, l - 1, Nat.zero_le _, rfl, HI0.out, by omega, hid (by rw [List.drop_zero]; rfl), hid ⟨by simp, by simp; omega⟩⟩
    case round =>
      obtain ⟨i, ks2, Ls, kv, li, hi, rfl, hS, hli, HC, HLN⟩ := hrel
      clear HI0
      have HS := hid hS
      have e6 := hS.eb
      have lc := hS.lp.c
      have hsz := hS.sz
      have HQ0 : Hid (Q W0 wr) := hid (q_over hq.out hS.qx hp0)
      by_cases hgo : i < ks.length ∧ 0 < li ∧ d < 60
      · obtain ⟨hlt, hl0', hd0⟩ := hgo
        have i1 : (i : Int) < (ks.length : Int) := by omega
        have i2 : (0 : Int) < (li : Int) := by omega
        have i3 : (d : Int) < 60 := by omega
        have hroom : ks.length ≤ 9223372036854775807 := by have h2 := hcap.out; unfold maxLen at h2; omega
        have hne : ks ≠ [] := by intro h; rw [h] at hlt; simp at hlt
        obtain ⟨bb, off, rfl, hrl⟩ := hkd.out hne
        obtain ⟨d0, d1, d2, d3, d4, d5, d6, hk0⟩ := hrl.kid i hlt
        obtain ⟨g0, g1, g2, g3, g4, g5, g6⟩ := hk0.cells HQ0.out
        have x6 : wr.cell? ⟨W.heap.size + 1 + 1, 6, none⟩ = some kv := hS.xb.g6
        have HKP : Hid (∀ V, Q wr V → (V.cell? ⟨W.heap.size, 6, none⟩ = some (.slice (some ⟨bb, off, none⟩) ks.length cap) ∧ V.cell? ⟨W.heap.size + 1 + 1, 6, none⟩ = some kv ∧ V.cell? ⟨bb, off + i * 7, none⟩ = some d0 ∧ V.cell? ⟨bb, off + i * 7 + 1, none⟩ = some d1 ∧ V.cell? ⟨bb, off + i * 7 + 2, none⟩ = some d2 ∧ V.cell? ⟨bb, off + i * 7 + 3, none⟩ = some d3 ∧ V.cell? ⟨bb, off + i * 7 + 4, none⟩ = some d4 ∧ V.cell? ⟨bb, off + i * 7 + 5, none⟩ = some d5 ∧ V.cell? ⟨bb, off + i * 7 + 6, none⟩ = some d6)) := hid (fun V q => ks_on q ⟨e6, x6, g0, g1, g2, g3, g4, g5, g6⟩)
        have HIK : Hid (∀ V, Q wr V → Calls Tryz.prog 48 #[.agg #[d0, d1, d2, d3, d4, d5, d6], .int .i64 ((d : Int) + 1), .pointer (some ⟨p, 0, none⟩)] V fun e W' => RepS W0 p V (cutE ks[i] (d + 1) li) e W') := hid (fun V q => by
          have hlp := HS.out.lp.blk (Q.block q HS.out.lp.lt)
          have := IH.out i hlt (.agg #[d0, d1, d2, d3, d4, d5, d6]) V (d + 1) li hk0.rd (HQ0.out.trans q) hlp.lt hlp.c hlp.f (by omega) (by omega) (by omega)
          rw [show ((d + 1 : Nat) : Int) = (d : Int) + 1 by omega] at this
          exact this)
        have hbb : bb < W0.heap.size := World.block_lt_of_cell? W0 ⟨bb, off + i * 7, none⟩ hk0.g0
        have HKX : Hid (∀ w8, Qx p wr w8 → ∀ V, Q w8 V → (V.cell? ⟨W.heap.size, 6, none⟩ = some (.slice (some ⟨bb, off, none⟩) ks.length cap) ∧ V.cell? ⟨W.heap.size + 1 + 1, 6, none⟩ = some kv ∧ V.cell? ⟨bb, off + i * 7, none⟩ = some d0 ∧ V.cell? ⟨bb, off + i * 7 + 1, none⟩ = some d1 ∧ V.cell? ⟨bb, off + i * 7 + 2, none⟩ = some d2 ∧ V.cell? ⟨bb, off + i * 7 + 3, none⟩ = some d3 ∧ V.cell? ⟨bb, off + i * 7 + 4, none⟩ = some d4 ∧ V.cell? ⟨bb, off + i * 7 + 5, none⟩ = some d5 ∧ V.cell? ⟨bb, off + i * 7 + 6, none⟩ = some d6)) := hid (fun w8 q V q' => ks_on q' (ks_onx q (by omega) (by omega) (by omega) ⟨e6, x6, g0, g1, g2, g3, g4, g5, g6⟩))
        have hkb := HS.out.ow.blk
        have hkp : kv.ownBlock = none ∨ kv.ownBlock ≠ some p := .inr (fun e => by have := hkb _ e; omega)
        have hkE : some W.heap.size ≠ kv.ownBlock := fun e => by have := hkb _ e.symm; omega
        have hkX : some (W.heap.size + 1 + 1) ≠ kv.ownBlock := fun e => by have := hkb _ e.symm; omega
        have hkB : some bb ≠ kv.ownBlock := fun e => by have := hkb _ e.symm; omega
        have hdd : IntKind.i64.wrap ((d : Int) + 1) = (d : Int) + 1 := by rw [IntKind.wrap_i64]; omega
        have hLL : Ls.length ≤ 220 := by have := HLN.out; omega
        obtain ⟨i0, hi0, hz0, hz1, hz2⟩ := inf_of info28
        obtain ⟨s1, s2, s3, s4, s5, s6, s7, s8, s9, s10, s11, hsh⟩ := hk0.rd.shape
        simp only [Value.agg.injEq, Array.mk.injEq, List.cons.injEq, and_true] at hsh
        obtain ⟨rfl, rfl, rfl, rfl, rfl, rfl, rfl⟩ := hsh
        clear hS
        go_wp2_with fail
        go_region_law (first | (refine step_append_lies _ (by rfl) _ _ _ (by rfl) (W.heap.size + 3) 40 i0 (.agg #[.int .i64 0, .int .i64 0, .string ⟨#[]⟩, .bool false, .int .i64 0, .slice none 0 0, .slice none 0 0]) 7 96 Tryz.underlying38 hi0 hz0 hz1 hz2 rfl (by decide) kv Ls.length (flat enc7 Ls) (by rfl) (((HS.out.ow.grown Q8.out hkp).alloc _).on (by repeat (first | with_reducible exact Q.refl _ | with_reducible refine Q.drewN ?_ _ | with_reducible refine Q.drew ?_))) ⟨w8.heap.size, 0, none⟩ 1 1 [.int .i64 k8, .int .i64 m8, .string t8, .bool bb8, .int .i64 er8, .slice a18 l18 c18, .slice a28 l28 c28] (by rfl) (by rfl) (World.news_of_block (cs := #[.int .i64 k8, .int .i64 m8, .string t8, .bool bb8, .int .i64 er8, .slice a18 l18 c18, .slice a28 l28 c28]) (t := 40) (fr := (0, 0)) (MapKept.heap_alloc w8 _).1) (one7 _ _ _ _ _ _ _ _ _ _ _) (by omega) (by unfold maxLen; omega) (by omega) (by simp; omega) (w8.heap.size + 1) (by simp) ?_; intro g9 cap9 w9 hown9 hgrow9 hat9 hlt9; have HZ9 := hid hown9; have HG9 := hid hgrow9; have HA9 := hid hat9; have HK9 := hid (ks_grown hgrow9 hkE hkX hkB (HK8.out _ ((Q.refl _).alloc _))); have x69 : w9.cell? ⟨W.heap.size + 1 + 1, 6, none⟩ = some kv := HK9.out.2.1; have f69 : w9.frozen? ⟨W.heap.size + 1 + 1, 6, none⟩ = false := (hgrow9.frozen_far ⟨W.heap.size + 1 + 1, 6, none⟩ (by simp; omega) hkX).trans ((T8.out.on ((Qx.refl p _).alloc _) (by omega)).f 6); clear hown9 hgrow9 hat9) | (go_simp; refine (HIK.out _ (by repeat (first | with_reducible exact Q.refl _ | with_reducible refine Q.drewN ?_ _ | with_reducible refine Q.drew ?_))).mono ?_; rintro e8 w8 ⟨v8, rfl, hr8, q8, l8, f8⟩; obtain ⟨k8, m8, t8, bb8, er8, a18, l18, c18, a28, l28, c28, rfl⟩ := hr8.shape; have R8 := hid (Rdg.mono (g' := fun b => b < W0.heap.size ∨ wr.heap.size ≤ b) (fun b hb => hb) _ _ hr8); have Q8 : Hid (Qx p wr w8) := hid ((Qx.of (by repeat (first | with_reducible exact Q.refl _ | with_reducible refine Q.drewN ?_ _ | with_reducible refine Q.drew ?_))).trans q8); have L8 : Hid (LfP w8 p (cutE ks[i] (d + 1) li).2) := hid ⟨l8, f8⟩; have HK8 := hid (HKX.out w8 Q8.out); have T8 := hid (HS.out.xb.on Q8.out (by omega)); obtain ⟨y1, y2, y3, y4, y5, y6, y7, y8, y9⟩ := HK8.out _ (Q.refl _); have hw8 : wr.heap.size ≤ w8.heap.size := Q8.out.size; have hlx : W.heap.size + 1 + 1 < w8.heap.size := (by omega); have hlE : W.heap.size < w8.heap.size := (by omega); clear hr8 q8 l8 f8))
        all_goals go_wp2_with fail
        all_goals go_roundw
        all_goals first
          | (simp [intOf]; omega)
          | exact ⟨i + 1, ks2 ++ [(cutE ks[i] (d + 1) li).1], Ls ++ [⟨.int .i64 k8, .int .i64 m8, .string t8, .bool bb8, .int .i64 er8, .slice a18 l18 c18, .slice a28 l28 c28⟩], .slice (some ⟨g9, 0, none⟩) (Ls.length + 1) cap9, (cutE ks[i] (d + 1) li).2, by omega, by go_num, (HS.out.call hp0 hp1 Q8.out L8.out).app hp0 hp1 hsz HS.out.ow.lt _ ⟨.int .i64 k8, .int .i64 m8, .string t8, .bool bb8, .int .i64 er8, .slice a18 l18 c18, .slice a28 l28 c28⟩ R8.out _ HG9.out (own_snoc' (x := (⟨.int .i64 k8, .int .i64 m8, .string t8, .bool bb8, .int .i64 er8, .slice a18 l18 c18, .slice a28 l28 c28⟩ : V7)) HZ9.out rfl) (lies_of HA9.out (by simp)), cutS_le hl0' hli, hid (cutL_next HC.out hlt hl0' hd0), hid (cut_count HLN.out hl0')⟩
      · obtain ⟨ak, ck, hkv, _⟩ := (hS.ow.sl enc7_len (by omega)).len
        subst hkv
        have HF : Hid (cutE.cutL ks d (l - 1) = (ks2, li)) := by
          show _ = _
          rw [HC.out, cutL_stop hgo, List.append_nil]
        have x0 : wr.cell? ⟨W.heap.size + 1 + 1, 0, none⟩ = some (.int .i64 k) := hS.xb.g0
        have x1 : wr.cell? ⟨W.heap.size + 1 + 1, 1, none⟩ = some (.int .i64 n) := hS.xb.g1
        have x2 : wr.cell? ⟨W.heap.size + 1 + 1, 2, none⟩ = some (.string T) := hS.xb.g2
        have x3 : wr.cell? ⟨W.heap.size + 1 + 1, 3, none⟩ = some (.bool b) := hS.xb.g3
        have x4 : wr.cell? ⟨W.heap.size + 1 + 1, 4, none⟩ = some (.int .i64 e) := hS.xb.g4
        have x5 : wr.cell? ⟨W.heap.size + 1 + 1, 5, none⟩ = some (.slice a1 rs.length c1) := hS.xb.g5
        have x6 : wr.cell? ⟨W.heap.size + 1 + 1, 6, none⟩ = some (.slice ak Ls.length ck) := hS.xb.g6
        have z0 : wr.cell? ⟨W.heap.size + 1, 0, none⟩ = some (.int .i64 0) := hS.rb.g0
        have y0 : wr.frozen? ⟨W.heap.size + 1, 0, none⟩ = false := hS.rb.f 0
        have z1 : wr.cell? ⟨W.heap.size + 1, 1, none⟩ = some (.int .i64 0) := hS.rb.g1
        have y1 : wr.frozen? ⟨W.heap.size + 1, 1, none⟩ = false := hS.rb.f 1
        have z2 : wr.cell? ⟨W.heap.size + 1, 2, none⟩ = some (.string ⟨#[]⟩) := hS.rb.g2
        have y2 : wr.frozen? ⟨W.heap.size + 1, 2, none⟩ = false := hS.rb.f 2
        have z3 : wr.cell? ⟨W.heap.size + 1, 3, none⟩ = some (.bool false) := hS.rb.g3
        have y3 : wr.frozen? ⟨W.heap.size + 1, 3, none⟩ = false := hS.rb.f 3
        have z4 : wr.cell? ⟨W.heap.size + 1, 4, none⟩ = some (.int .i64 0) := hS.rb.g4
        have y4 : wr.frozen? ⟨W.heap.size + 1, 4, none⟩ = false := hS.rb.f 4
        have z5 : wr.cell? ⟨W.heap.size + 1, 5, none⟩ = some (.slice none 0 0) := hS.rb.g5
        have y5 : wr.frozen? ⟨W.heap.size + 1, 5, none⟩ = false := hS.rb.f 5
        have z6 : wr.cell? ⟨W.heap.size + 1, 6, none⟩ = some (.slice none 0 0) := hS.rb.g6
        have y6 : wr.frozen? ⟨W.heap.size + 1, 6, none⟩ = false := hS.rb.f 6
        clear HC hS
        by_cases j1 : i < ks.length
        · have i1 : (i : Int) < (ks.length : Int) := by omega
          by_cases j2 : 0 < li
          · have i2 : (0 : Int) < (li : Int) := by omega
            have i3 : ¬ (d : Int) < 60 := fun h => hgo ⟨j1, j2, by omega⟩
            go_wp2_with fail
            refine bodyPost_ret (v := .agg #[.int .i64 k, .int .i64 n, .string T, .bool b, .int .i64 e, .slice a1 rs.length c1, .slice ak Ls.length ck]) (by simp [results, Tryz.results48, go_sem, z0, z1, z2, z3, z4, z5, z6]) rfl ?_
            exact some_end HS.out HT.out hp0 hp1 (HSg.out _ HQ0.out) HF.out
          · have i2 : ¬ (0 : Int) < (li : Int) := by omega
            go_wp2_with fail
            refine bodyPost_ret (v := .agg #[.int .i64 k, .int .i64 n, .string T, .bool b, .int .i64 e, .slice a1 rs.length c1, .slice ak Ls.length ck]) (by simp [results, Tryz.results48, go_sem, z0, z1, z2, z3, z4, z5, z6]) rfl ?_
            exact some_end HS.out HT.out hp0 hp1 (HSg.out _ HQ0.out) HF.out
        · have i1 : ¬ (i : Int) < (ks.length : Int) := by omega
          go_wp2_with fail
          refine bodyPost_ret (v := .agg #[.int .i64 k, .int .i64 n, .string T, .bool b, .int .i64 e, .slice a1 rs.length c1, .slice ak Ls.length ck]) (by simp [results, Tryz.results48, go_sem, z0, z1, z2, z3, z4, z5, z6]) rfl ?_
          exact some_end HS.out HT.out hp0 hp1 (HSg.out _ HQ0.out) HF.out
end Go.Proofs.YtcgddnliiondoaaGreatDoor
