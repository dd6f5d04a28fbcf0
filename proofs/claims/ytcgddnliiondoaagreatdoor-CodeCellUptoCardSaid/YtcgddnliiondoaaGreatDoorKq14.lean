/- counterpaneref5.EqExpr: the same trees?; Trees that lie outs. -/
import Derived.Test.YtcgddnliiondoaaGreatDoorKq13
import Derived.Test.YtcgddnliiondoaaGreatDoorKq07
import Derived.BigQuiet
import Derived.Test.YtcgddnliiondoaaGreatDoorKq00
import Derived.Test.YtcgddnliiondoaaGreatDoorKq05
import Derived.Deep.RegionHeld3
import Derived.Test.YtcgddnliiondoaaGreatDoorKq06
import Derived.Deep.CutBlock
import Derived.Deep.CutRange
import Derived.Maps.AppendAt
set_option linter.unusedVariables false
set_option linter.unusedSimpArgs false
set_option maxRecDepth 100000
set_option maxHeartbeats 8000000
namespace Go.Proofs.YtcgddnliiondoaaGreatDoor
open Go.RowKit
theorem eqexpr_any : ∀ (s : Nat) (x y : Ex) (v v' : Value) (W : World), SizeOf.sizeOf x ≤ s → Rd W x v → Rd W y v' → Calls Tryz.prog 33 #[v, v'] W fun e W' => Ans (x = y) e ∧ Q W W' := by
  intro s
  induction s with
  | zero =>
    intro x y v v' W hs
    cases x with
    | mk k n t b e rs ks => simp at hs
  | succ s ih =>
    intro x y v v' W hs hx hy
    obtain ⟨k, n, t, b, e, rs, ks, rv, kv, ao, cap, rfl, hp⟩ := hx.prt
    obtain ⟨k', n', t', b', e', rs', ks', rv', kv', ao', cap', rfl, hp'⟩ := hy.prt
    obtain ⟨a1, c1, rfl, m1, m2⟩ := hp.rl.len
    obtain ⟨a3, c3, rfl, m3, m4⟩ := hp'.rl.len
    obtain rfl := hp.kl
    obtain rfl := hp'.kl
    have IH : ∀ i (hi : i < ks.length) z v v' W, Rd W ks[i] v → Rd W z v' → Calls Tryz.prog 33 #[v, v'] W fun x W' => Ans (ks[i] = z) x ∧ Q W W' := fun i hi z v v' W h h' => ih ks[i] z v v' W (by
      have := kid_size (k := k) (n := n) (t := t.data.toList) (b := b) (e := e) (rs := rs) i hi
      rw [← hp.ex] at this
      omega) h h'
    by_cases hh : k = k' ∧ n = n' ∧ t.data.toList = t'.data.toList ∧ b = b' ∧ e = e' ∧ rs.length = rs'.length ∧ ks.length = ks'.length
    · obtain ⟨rfl, rfl, ht, rfl, rfl, hl1, hl2⟩ := hh
      obtain rfl := str_eq ht
      have hroom1 : rs.length ≤ 9223372036854775807 := by unfold maxLen at m2; omega
      have hroom2 : ks.length ≤ 9223372036854775807 := by have h1 := hp.le; have h2 := hp.mx; unfold maxLen at h2; omega
      have hxy : x = y ↔ (rs = rs' ∧ ks = ks') := by rw [hp.ex, hp'.ex]; simp
      have key := eq_body k n t b e a1 rs.length c1 ao ks.length cap a3 c3 ao' cap' W rs rs' ks ks' (hid rfl) (hid hl1.symm) (hid rfl) (hid hl2.symm) hroom1 hroom2
        (hid fun i hi => by
          obtain ⟨b1, o1, c, hv, _, _, hc⟩ := hp.rl.rc (by omega)
          simp only [Value.slice.injEq] at hv
          exact ⟨b1, o1, hv.1, hc i hi⟩)
        (hid fun i hi => by
          obtain ⟨b1, o1, c, hv, _, _, hc⟩ := hp'.rl.rc (by omega)
          simp only [Value.slice.injEq] at hv
          exact ⟨b1, o1, hv.1, hc i hi⟩)
        (hid fun i hi W' q => by
          obtain ⟨b2, o2, ha, hl⟩ := (hp.on q).kd (by intro h; rw [h] at hi; simp at hi)
          obtain ⟨p0, p1, p2, p3, p4, p5, p6, hk⟩ := hl.kid i hi
          exact ⟨b2, o2, p0, p1, p2, p3, p4, p5, p6, ha, hk⟩)
        (hid fun i hi W' q => by
          obtain ⟨b2, o2, ha, hl⟩ := (hp'.on q).kd (by intro h; rw [h] at hi; simp at hi)
          obtain ⟨p0, p1, p2, p3, p4, p5, p6, hk⟩ := hl.kid i hi
          exact ⟨b2, o2, p0, p1, p2, p3, p4, p5, p6, ha, hk⟩)
        (hid fun i hi hi' v v' W' h h' => IH i hi _ v v' W' h h')
      rw [← hl1, ← hl2]
      refine key.mono fun x9 w9 h => ⟨?_, h.2⟩
      rw [hxy]
      exact h.1
    · have hne : x ≠ y := by
        rw [hp.ex, hp'.ex]
        intro h
        simp only [Ex.mk.injEq] at h
        obtain ⟨g1, g2, g3, g4, g5, g6, g7⟩ := h
        exact hh ⟨g1, g2, g3, g4, g5, by rw [g6], by rw [g7]⟩
      refine (eq_heads k n t b e a1 rs.length c1 ao ks.length cap k' n' t' b' e' a3 rs'.length c3 ao' ks'.length cap' W hh).mono ?_
      rintro x9 w9 ⟨rfl, q⟩
      exact ⟨Ans.no hne, q⟩
abbrev Qx (p : Nat) (w w' : World) : Prop := World.grownBy w w' (some p)
theorem Qx.refl (p : Nat) (w : World) : Qx p w w := ⟨rfl, rfl, rfl, Nat.le_refl _, fun _ _ _ => rfl⟩
theorem Qx.trans {p : Nat} {a b c : World} (h : Qx p a b) (k : Qx p b c) : Qx p a c :=
  ⟨k.os.trans h.os, k.tape.trans h.tape, k.output.trans h.output, Nat.le_trans h.size k.size, fun i hi hp => (k.block i (Nat.lt_of_lt_of_le hi h.size) hp).trans (h.block i hi hp)⟩
theorem Qx.of {p : Nat} {a b : World} (h : Q a b) : Qx p a b := ⟨h.os, h.tape, h.output, h.size, fun i hi _ => Q.block h hi⟩
theorem Qx.alloc {p : Nat} {a w : World} (h : Qx p a w) (o : Obj) : Qx p a (w.alloc o) := h.trans (Qx.of ((Q.refl _).alloc o))
theorem Qx.drew {p : Nat} {a w : World} (h : Qx p a w) : Qx p a w.drew := h.trans (Qx.of (Q.refl _).drew)
theorem Qx.own {p : Nat} {a w : World} (h : Qx p a w) (k : Nat) (v : Value) : Qx p a (w.setCell ⟨p, k, none⟩ v) :=
  h.trans ⟨rfl, rfl, rfl, by simp [World.setCell], fun i hi hp => Below.heap_setCell _ _ _ _ (fun e => hp (by simp [e]))⟩
theorem Qx.new {p : Nat} {a w : World} (h : Qx p a w) {b : Nat} (hb : a.heap.size ≤ b) (k : Nat) (v : Value) : Qx p a (w.setCell ⟨b, k, none⟩ v) :=
  ⟨h.os, h.tape, h.output, by simpa [World.setCell] using h.size, fun i hi hp => (Below.heap_setCell _ _ _ _ (fun e => by simp at e; omega)).trans (h.block i hi hp)⟩
theorem Qx.cell {p : Nat} {a w : World} (h : Qx p a w) {b o : Nat} (hb : b < a.heap.size) (hp : b ≠ p) : w.cell? ⟨b, o, none⟩ = a.cell? ⟨b, o, none⟩ :=
  World.cell?_of_block (h.block b hb (fun e => hp (Option.some.inj e)))
def Slg (g : Nat → Prop) (W : World) (v : Value) (L : List Rf) : Prop :=
  ∃ (ao : Option Addr) (cap : Nat), v = .slice ao L.length cap ∧ L.length ≤ cap ∧ cap ≤ maxLen ∧ (0 < L.length → ∃ b off, ao = some ⟨b, off, none⟩ ∧ g b ∧ ∀ i (h : i < L.length), Ats rf W b (off + i * 5) L[i])
theorem Slg.sl {g : Nat → Prop} {W : World} {v : Value} {L : List Rf} (h : Slg g W v L) : Sl rf 5 W v L := by
  obtain ⟨ao, cap, hv, h1, h2, h3⟩ := h
  exact ⟨ao, cap, hv, h1, h2, fun hl => by obtain ⟨b, off, ha, _, hc⟩ := h3 hl; exact ⟨b, off, ha, hc⟩⟩
theorem Slg.on {g : Nat → Prop} {W W' : World} {v : Value} {L : List Rf} {p : Nat} (h : Slg g W v L) (q : Qx p W W') (hp : ∀ b, g b → b ≠ p) : Slg g W' v L := by
  obtain ⟨ao, cap, hv, h1, h2, h3⟩ := h
  refine ⟨ao, cap, hv, h1, h2, fun hl => ?_⟩
  obtain ⟨b, off, ha, hb, hc⟩ := h3 hl
  exact ⟨b, off, ha, hb, fun i hi j u hu => (q.cell (World.block_lt_of_cell? W ⟨b, off + i * 5 + j, none⟩ (hc i hi j u hu)) (hp _ hb)).trans (hc i hi j u hu)⟩
theorem Pl.onx {p : Nat} {W W' : World} {b : Nat} (h : Pl W b) (q : Qx p W W') (hp : b ≠ p) : Pl W' b := by
  have hb := h.lt
  obtain ⟨c, t, h⟩ := h
  exact ⟨c, t, (q.block b hb (fun e => hp (Option.some.inj e))).trans h⟩
def Rdg (g : Nat → Prop) (W : World) : Ex → Value → Prop
  | .mk k n t b e rs ks, v => ∃ rv kv, v = .agg #[.int .i64 k, .int .i64 n, .string ⟨t.toArray⟩, .bool b, .int .i64 e, rv, kv] ∧ Slg g W rv rs ∧
      ∃ (ao : Option Addr) (cap : Nat), kv = .slice ao ks.length cap ∧ ks.length ≤ cap ∧ cap ≤ maxLen ∧ (ks ≠ [] → ∃ b' off, ao = some ⟨b', off, none⟩ ∧ g b' ∧ Pl W b' ∧ RdLg g W ks b' off)
  where
  RdLg (g : Nat → Prop) (W : World) : List Ex → Nat → Nat → Prop
  | [], _, _ => True
  | x :: xs, b, off => (∃ c0 c1 c2 c3 c4 c5 c6, W.cell? ⟨b, off, none⟩ = some c0 ∧ W.cell? ⟨b, off + 1, none⟩ = some c1 ∧ W.cell? ⟨b, off + 2, none⟩ = some c2 ∧ W.cell? ⟨b, off + 3, none⟩ = some c3 ∧ W.cell? ⟨b, off + 4, none⟩ = some c4 ∧ W.cell? ⟨b, off + 5, none⟩ = some c5 ∧ W.cell? ⟨b, off + 6, none⟩ = some c6 ∧ Rdg g W x (.agg #[c0, c1, c2, c3, c4, c5, c6])) ∧ RdLg g W xs b (off + 7)
theorem Rdg.on {g : Nat → Prop} {W W' : World} {p : Nat} (q : Qx p W W') (hp : ∀ b, g b → b ≠ p) : ∀ (x : Ex) (v : Value), Rdg g W x v → Rdg g W' x v
  | .mk k n t b e rs ks, v, h => by
    unfold Rdg at h ⊢
    obtain ⟨rv, kv, hv, hr, ao, cap, hk, h1, h2, h3⟩ := h
    refine ⟨rv, kv, hv, hr.on q hp, ao, cap, hk, h1, h2, fun hn => ?_⟩
    obtain ⟨b', off, ha, hb, hpl, hl⟩ := h3 hn
    exact ⟨b', off, ha, hb, hpl.onx q (hp _ hb), go q hp hb ks off hl⟩
  where
  go {g : Nat → Prop} {W W' : World} {p : Nat} (q : Qx p W W') (hp : ∀ b, g b → b ≠ p) {b : Nat} (hb : g b) : ∀ (l : List Ex) (off : Nat), Rdg.RdLg g W l b off → Rdg.RdLg g W' l b off
  | [], _, _ => by unfold Rdg.RdLg; trivial
  | x :: xs, off, h => by
    unfold Rdg.RdLg at h ⊢
    obtain ⟨⟨c0, c1, c2, c3, c4, c5, c6, g0, g1, g2, g3, g4, g5, g6, hx⟩, hr⟩ := h
    have ce : ∀ {o : Nat} {c : Value}, W.cell? ⟨b, o, none⟩ = some c → W'.cell? ⟨b, o, none⟩ = some c := fun h => (q.cell (World.block_lt_of_cell? W ⟨b, _, none⟩ h) (hp _ hb)).trans h
    exact ⟨⟨c0, c1, c2, c3, c4, c5, c6, ce g0, ce g1, ce g2, ce g3, ce g4, ce g5, ce g6, Rdg.on q hp x _ hx⟩, go q hp hb xs (off + 7) hr⟩
theorem Rdg.rd {g : Nat → Prop} {W : World} : ∀ (x : Ex) (v : Value), Rdg g W x v → Rd W x v
  | .mk k n t b e rs ks, v, h => by
    unfold Rdg at h
    unfold Rd
    obtain ⟨rv, kv, hv, hr, ao, cap, hk, h1, h2, h3⟩ := h
    refine ⟨rv, kv, hv, hr.sl, ao, cap, hk, h1, h2, fun hn => ?_⟩
    obtain ⟨b', off, ha, hb, hpl, hl⟩ := h3 hn
    exact ⟨b', off, ha, hpl, go ks b' off hl⟩
  where
  go {g : Nat → Prop} {W : World} : ∀ (l : List Ex) (b off : Nat), Rdg.RdLg g W l b off → Rd.RdL W l b off
  | [], _, _, _ => by unfold Rd.RdL; trivial
  | x :: xs, b, off, h => by
    unfold Rdg.RdLg at h
    unfold Rd.RdL
    obtain ⟨⟨c0, c1, c2, c3, c4, c5, c6, g0, g1, g2, g3, g4, g5, g6, hx⟩, hr⟩ := h
    exact ⟨⟨c0, c1, c2, c3, c4, c5, c6, g0, g1, g2, g3, g4, g5, g6, Rdg.rd x _ hx⟩, go xs b (off + 7) hr⟩
theorem Slg.mono {g g' : Nat → Prop} {W : World} {v : Value} {L : List Rf} (h : Slg g W v L) (hl : ∀ b, g b → g' b) : Slg g' W v L := by
  obtain ⟨ao, cap, hv, h1, h2, h3⟩ := h
  exact ⟨ao, cap, hv, h1, h2, fun hn => by obtain ⟨b, off, ha, hb, hc⟩ := h3 hn; exact ⟨b, off, ha, hl _ hb, hc⟩⟩
theorem Rdg.mono {g g' : Nat → Prop} {W : World} (hl : ∀ b, g b → g' b) : ∀ (x : Ex) (v : Value), Rdg g W x v → Rdg g' W x v
  | .mk k n t b e rs ks, v, h => by
    unfold Rdg at h ⊢
    obtain ⟨rv, kv, hv, hr, ao, cap, hk, h1, h2, h3⟩ := h
    refine ⟨rv, kv, hv, hr.mono hl, ao, cap, hk, h1, h2, fun hn => ?_⟩
    obtain ⟨b', off, ha, hb, hpl, hm⟩ := h3 hn
    exact ⟨b', off, ha, hl _ hb, hpl, go hl ks b' off hm⟩
  where
  go {g g' : Nat → Prop} {W : World} (hl : ∀ b, g b → g' b) : ∀ (l : List Ex) (b off : Nat), Rdg.RdLg g W l b off → Rdg.RdLg g' W l b off
  | [], _, _, _ => by unfold Rdg.RdLg; trivial
  | x :: xs, b, off, h => by
    unfold Rdg.RdLg at h ⊢
    obtain ⟨⟨c0, c1, c2, c3, c4, c5, c6, g0, g1, g2, g3, g4, g5, g6, hx⟩, hr⟩ := h
    exact ⟨⟨c0, c1, c2, c3, c4, c5, c6, g0, g1, g2, g3, g4, g5, g6, Rdg.mono hl x _ hx⟩, go hl xs b (off + 7) hr⟩
def zeroV : Value := .agg #[.int .i64 0, .int .i64 0, .string ⟨#[]⟩, .bool false, .int .i64 0, .slice none 0 0, .slice none 0 0]
theorem rdg_zero (g : Nat → Prop) (W : World) : Rdg g W zeroE zeroV := by
  unfold zeroE Rdg
  exact ⟨_, _, rfl, ⟨none, 0, rfl, Nat.le_refl _, Nat.zero_le _, fun h => absurd h (by simp)⟩, none, 0, rfl, Nat.le_refl _, Nat.zero_le _, fun h => absurd rfl h⟩
theorem Slg.in {g : Nat → Prop} {W : World} {v : Value} {L : List Rf} (h : Slg g W v L) : Slg (fun b => g b ∧ b < W.heap.size) W v L := by
  obtain ⟨ao, cap, hv, h1, h2, h3⟩ := h
  refine ⟨ao, cap, hv, h1, h2, fun hl => ?_⟩
  obtain ⟨b, off, ha, hb, hc⟩ := h3 hl
  exact ⟨b, off, ha, ⟨hb, World.block_lt_of_cell? W ⟨b, off + 0 * 5 + 0, none⟩ (hc 0 hl 0 _ rfl)⟩, hc⟩
theorem Rdg.in {g : Nat → Prop} {W : World} : ∀ (x : Ex) (v : Value), Rdg g W x v → Rdg (fun b => g b ∧ b < W.heap.size) W x v
  | .mk k n t b e rs ks, v, h => by
    unfold Rdg at h ⊢
    obtain ⟨rv, kv, hv, hr, ao, cap, hk, h1, h2, h3⟩ := h
    refine ⟨rv, kv, hv, hr.in, ao, cap, hk, h1, h2, fun hn => ?_⟩
    obtain ⟨b', off, ha, hb, hpl, hm⟩ := h3 hn
    refine ⟨b', off, ha, ⟨hb, ?_⟩, hpl, go ks b' off hm⟩
    cases ks with
    | nil => exact absurd rfl hn
    | cons y ys =>
      unfold Rdg.RdLg at hm
      obtain ⟨⟨c0, c1, c2, c3, c4, c5, c6, g0, _⟩, _⟩ := hm
      exact World.block_lt_of_cell? W ⟨b', off, none⟩ g0
  where
  go {g : Nat → Prop} {W : World} : ∀ (l : List Ex) (b off : Nat), Rdg.RdLg g W l b off → Rdg.RdLg (fun b => g b ∧ b < W.heap.size) W l b off
  | [], _, _, _ => by unfold Rdg.RdLg; trivial
  | x :: xs, b, off, h => by
    unfold Rdg.RdLg at h ⊢
    obtain ⟨⟨c0, c1, c2, c3, c4, c5, c6, g0, g1, g2, g3, g4, g5, g6, hx⟩, hr⟩ := h
    exact ⟨⟨c0, c1, c2, c3, c4, c5, c6, g0, g1, g2, g3, g4, g5, g6, Rdg.in x _ hx⟩, go xs b (off + 7) hr⟩
theorem toL (s : ByteArray) : s.toList = s.data.toList := Lib.toList_data s
set_option maxHeartbeats 8000000 in
theorem bare_any (k n : Int) (t : ByteArray) (b : Bool) (e : Int) (a1 : Option Addr) (l1 c1 : Nat) (a2 : Option Addr) (l2 c2 : Nat) (W : World) : Calls Tryz.prog 123 #[.agg #[.int .i64 k, .int .i64 n, .string t, .bool b, .int .i64 e, .slice a1 l1 c1, .slice a2 l2 c2]] W fun e' W' => e' = .returned (.bool (decide (n = 0 ∧ t.data.toList = [] ∧ b = false ∧ e = 0 ∧ l1 = 0 ∧ l2 = 0))) ∧ Q W W' := by
  have et := hid (toL t)
  by_cases q0 : n = 0
  · skip
    have f0 : (n == 0) = true := by rw [q0]; rfl
    by_cases q1 : t.data.toList = []
    · skip
      have f1 : (t.toList == []) = true := by rw [et.out]; rw [q1]; rfl
      by_cases q2 : b = false
      · skip
        have f2 : b = false := q2
        by_cases q3 : e = 0
        · skip
          have f3 : (e == 0) = true := by rw [q3]; rfl
          by_cases q4 : l1 = 0
          · skip
            have f4 : ((l1 : Int) == 0) = true := by rw [q4]; rfl
            by_cases q5 : l2 = 0
            · skip
              have f5 : ((l2 : Int) == 0) = true := by rw [q5]; rfl
              have HR : Hid (decide (n = 0 ∧ t.data.toList = [] ∧ b = false ∧ e = 0 ∧ l1 = 0 ∧ l2 = 0) = true) := by show _ = _; exact decide_eq_true ⟨q0, q1, q2, q3, q4, q5⟩
              generalize decide (n = 0 ∧ t.data.toList = [] ∧ b = false ∧ e = 0 ∧ l1 = 0 ∧ l2 = 0) = r at HR ⊢
              clear et q0 q1 q2 q3 q4 q5
              go_enter Tryz.func123, Tryz.ntmps123
              go_wp2_with fail
              go_ret
              exact ⟨ret_bool HR.out.symm, (Q.refl _).alloc _⟩
            · skip
              have f5 : ((l2 : Int) == 0) = false := by rw [beq_eq_false_iff_ne]; omega
              have HR : Hid (decide (n = 0 ∧ t.data.toList = [] ∧ b = false ∧ e = 0 ∧ l1 = 0 ∧ l2 = 0) = false) := by show _ = _; exact decide_eq_false (fun hh => q5 hh.2.2.2.2.2)
              generalize decide (n = 0 ∧ t.data.toList = [] ∧ b = false ∧ e = 0 ∧ l1 = 0 ∧ l2 = 0) = r at HR ⊢
              clear et q0 q1 q2 q3 q4 q5
              go_enter Tryz.func123, Tryz.ntmps123
              go_wp2_with fail
              go_ret
              exact ⟨ret_bool HR.out.symm, (Q.refl _).alloc _⟩
          · skip
            have f4 : ((l1 : Int) == 0) = false := by rw [beq_eq_false_iff_ne]; omega
            have HR : Hid (decide (n = 0 ∧ t.data.toList = [] ∧ b = false ∧ e = 0 ∧ l1 = 0 ∧ l2 = 0) = false) := by show _ = _; exact decide_eq_false (fun hh => q4 hh.2.2.2.2.1)
            generalize decide (n = 0 ∧ t.data.toList = [] ∧ b = false ∧ e = 0 ∧ l1 = 0 ∧ l2 = 0) = r at HR ⊢
            clear et q0 q1 q2 q3 q4
            go_enter Tryz.func123, Tryz.ntmps123
            go_wp2_with fail
            go_ret
            exact ⟨ret_bool HR.out.symm, (Q.refl _).alloc _⟩
        · skip
          have f3 : (e == 0) = false := by rw [beq_eq_false_iff_ne]; omega
          have HR : Hid (decide (n = 0 ∧ t.data.toList = [] ∧ b = false ∧ e = 0 ∧ l1 = 0 ∧ l2 = 0) = false) := by show _ = _; exact decide_eq_false (fun hh => q3 hh.2.2.2.1)
          generalize decide (n = 0 ∧ t.data.toList = [] ∧ b = false ∧ e = 0 ∧ l1 = 0 ∧ l2 = 0) = r at HR ⊢
          clear et q0 q1 q2 q3
          go_enter Tryz.func123, Tryz.ntmps123
          go_wp2_with fail
          go_ret
          exact ⟨ret_bool HR.out.symm, (Q.refl _).alloc _⟩
      · skip
        have f2 : b = true := by simpa using q2
        have HR : Hid (decide (n = 0 ∧ t.data.toList = [] ∧ b = false ∧ e = 0 ∧ l1 = 0 ∧ l2 = 0) = false) := by show _ = _; exact decide_eq_false (fun hh => q2 hh.2.2.1)
        generalize decide (n = 0 ∧ t.data.toList = [] ∧ b = false ∧ e = 0 ∧ l1 = 0 ∧ l2 = 0) = r at HR ⊢
        clear et q0 q1 q2
        go_enter Tryz.func123, Tryz.ntmps123
        go_wp2_with fail
        go_ret
        exact ⟨ret_bool HR.out.symm, (Q.refl _).alloc _⟩
    · skip
      have f1 : (t.toList == []) = false := by rw [et.out]; rw [beq_eq_false_iff_ne]; exact q1
      have HR : Hid (decide (n = 0 ∧ t.data.toList = [] ∧ b = false ∧ e = 0 ∧ l1 = 0 ∧ l2 = 0) = false) := by show _ = _; exact decide_eq_false (fun hh => q1 hh.2.1)
      generalize decide (n = 0 ∧ t.data.toList = [] ∧ b = false ∧ e = 0 ∧ l1 = 0 ∧ l2 = 0) = r at HR ⊢
      clear et q0 q1
      go_enter Tryz.func123, Tryz.ntmps123
      go_wp2_with fail
      go_ret
      exact ⟨ret_bool HR.out.symm, (Q.refl _).alloc _⟩
  · skip
    have f0 : (n == 0) = false := by rw [beq_eq_false_iff_ne]; omega
    have HR : Hid (decide (n = 0 ∧ t.data.toList = [] ∧ b = false ∧ e = 0 ∧ l1 = 0 ∧ l2 = 0) = false) := by show _ = _; exact decide_eq_false (fun hh => q0 hh.1)
    generalize decide (n = 0 ∧ t.data.toList = [] ∧ b = false ∧ e = 0 ∧ l1 = 0 ∧ l2 = 0) = r at HR ⊢
    clear et q0
    go_enter Tryz.func123, Tryz.ntmps123
    go_wp2_with fail
    go_ret
    exact ⟨ret_bool HR.out.symm, (Q.refl _).alloc _⟩
theorem prR_nil (sh : List UInt8) (row col : Int) (ra ca : Bool) : decide (prR sh row col ra ca = []) = !mayR sh row col := by
  unfold prR
  cases hm : mayR sh row col
  · rw [if_neg (by simp)]; rfl
  · rw [if_pos rfl, decide_eq_false]
    · rfl
    · intro h
      unfold prL at h
      have h2 := (List.append_eq_nil_iff.1 h).2
      have h3 := congrArg List.length h2
      rw [Lib.decDigits_length] at h3
      have h4 : 0 < Lib.nDigits (row + 1).toNat := by unfold Lib.nDigits; split <;> omega
      simp at h3
      omega
set_option maxHeartbeats 4000000 in
theorem pmayref_any (sh : ByteArray) (row col : Int) (ra ca : Bool) (w : World) (hw : Std w) (ht : ∀ W, Q w W → Lib.TabIs Tryz.prog W "internal/strconv.uint64pow10" .u64 Lib.pow10Tab) (hs : sh.size ≤ 1000) :
    Calls Tryz.prog 119 #[rv sh row col ra ca] w fun e w' => e = .returned (.bool (mayR sh.data.toList row col)) ∧ Q w w' := by
  have HP := hid (fun W (q : Q w W) => print_any sh row col ra ca W (hw.on q) (fun W' q' => ht W' (q.trans q')) hs)
  have hn := prR_nil sh.data.toList row col ra ca
  obtain ⟨S, hS, lS⟩ : ∃ S : ByteArray, ⟨(prR sh.data.toList row col ra ca).toArray⟩ = S ∧ S.data.toList = prR sh.data.toList row col ra ca := ⟨_, rfl, rfl⟩
  rw [hS] at HP
  rw [← lS] at hn
  clear hw ht
  cases hm : mayR sh.data.toList row col
  · rw [hm] at hn
    have e7 : (S.toList == []) = true := by rw [toL, of_decide_eq_true hn]; rfl
    clear hn hS lS
    go_enter Tryz.func119, Tryz.ntmps119
    go_wp2_with (go_at_call 130; refine (HP.out _ ((Q.refl _).alloc _)).mono ?_; rintro e w1 ⟨rfl, q1⟩; have Q1 : Hid (Q w w1) := hid (((Q.refl _).alloc _).trans q1); clear q1)
    go_ret
    exact ⟨rfl, Q1.out⟩
  · rw [hm] at hn
    have e7 : (S.toList == []) = false := by rw [toL, beq_eq_false_iff_ne]; exact of_decide_eq_false hn
    clear hn hS lS
    go_enter Tryz.func119, Tryz.ntmps119
    go_wp2_with (go_at_call 130; refine (HP.out _ ((Q.refl _).alloc _)).mono ?_; rintro e w1 ⟨rfl, q1⟩; have Q1 : Hid (Q w w1) := hid (((Q.refl _).alloc _).trans q1); clear q1)
    go_ret
    exact ⟨rfl, Q1.out⟩
theorem Qx.frozen {p : Nat} {a w : World} (h : Qx p a w) {b o : Nat} (hb : b < a.heap.size) (hp : b ≠ p) : w.frozen? ⟨b, o, none⟩ = a.frozen? ⟨b, o, none⟩ :=
  World.frozen?_of_block (h.block b hb (fun e => hp (Option.some.inj e)))
structure Tb (W : World) (q : Nat) (c0 c1 c2 c3 c4 c5 c6 : Value) : Prop where
  g0 : W.cell? ⟨q, 0, none⟩ = some c0
  g1 : W.cell? ⟨q, 1, none⟩ = some c1
  g2 : W.cell? ⟨q, 2, none⟩ = some c2
  g3 : W.cell? ⟨q, 3, none⟩ = some c3
  g4 : W.cell? ⟨q, 4, none⟩ = some c4
  g5 : W.cell? ⟨q, 5, none⟩ = some c5
  g6 : W.cell? ⟨q, 6, none⟩ = some c6
  f : ∀ j, W.frozen? ⟨q, j, none⟩ = false
theorem Tb.on {p : Nat} {W W' : World} {q : Nat} {c0 c1 c2 c3 c4 c5 c6 : Value} (h : Tb W q c0 c1 c2 c3 c4 c5 c6) (x : Qx p W W') (hq : q ≠ p) : Tb W' q c0 c1 c2 c3 c4 c5 c6 := by
  have hl : q < W.heap.size := World.block_lt_of_cell? W ⟨q, 0, none⟩ h.g0
  exact ⟨(x.cell hl hq).trans h.g0, (x.cell hl hq).trans h.g1, (x.cell hl hq).trans h.g2, (x.cell hl hq).trans h.g3, (x.cell hl hq).trans h.g4, (x.cell hl hq).trans h.g5, (x.cell hl hq).trans h.g6, fun j => (x.frozen hl hq).trans (h.f j)⟩
theorem tb_new (W : World) (c0 c1 c2 c3 c4 c5 c6 : Value) (t : TypeId) : Tb (W.alloc (.cells #[c0, c1, c2, c3, c4, c5, c6] t)) W.heap.size c0 c1 c2 c3 c4 c5 c6 := by
  refine ⟨?_, ?_, ?_, ?_, ?_, ?_, ?_, fun j => ?_⟩
  all_goals simp [World.cell?_alloc_new, World.frozen?_alloc_new]
theorem Rdg.shape {g : Nat → Prop} {W : World} {x : Ex} {v : Value} (h : Rdg g W x v) : ∃ k n t b e a1 l1 c1 a2 l2 c2, v = .agg #[.int .i64 k, .int .i64 n, .string t, .bool b, .int .i64 e, .slice a1 l1 c1, .slice a2 l2 c2] := by
  cases x with
  | mk k n t b e rs ks =>
    unfold Rdg at h
    obtain ⟨rv, kv, hv, hr, ao, cap, hk, _⟩ := h
    obtain ⟨a1, c1, hr, _⟩ := hr
    subst hr hk
    exact ⟨_, _, _, _, _, _, _, _, _, _, _, hv⟩
def namF (t : List UInt8) : Bool := decide (0 < t.length) && (decide (t.length ≤ 20) && (decide (¬ (t = truW ∨ t = flsW)) && t.all let1))
set_option maxHeartbeats 4000000 in
theorem strength_any (s : ByteArray) (W : World) : Calls Tryz.prog 121 #[.string s] W fun e W' => e = .returned (.int .i64 (lvl s.data.toList : Int)) ∧ W' = W := by
  have et := hid (toL s)
  by_cases h0 : s.data.toList = [61]
  · have f0 : (s.toList == [61]) = true := by rw [et.out, h0]; rfl
    have HR : Hid (lvl s.data.toList = 1) := by show _ = _; rw [h0]; rfl
    generalize lvl s.data.toList = r at HR ⊢
    clear et h0
    go_enter Tryz.func121, Tryz.ntmps121
    go_wp2
    go_ret
    exact ⟨ret_int (by rw [HR.out]; rfl), rfl⟩
  · have f0 : (s.toList == [61]) = false := by rw [et.out, beq_eq_false_iff_ne]; exact h0
    by_cases h1 : s.data.toList = [60, 62]
    · have f1 : (s.toList == [60, 62]) = true := by rw [et.out, h1]; rfl
      have HR : Hid (lvl s.data.toList = 1) := by show _ = _; rw [h1]; rfl
      generalize lvl s.data.toList = r at HR ⊢
      clear et h0 h1
      go_enter Tryz.func121, Tryz.ntmps121
      go_wp2
      go_ret
      exact ⟨ret_int (by rw [HR.out]; rfl), rfl⟩
    · have f1 : (s.toList == [60, 62]) = false := by rw [et.out, beq_eq_false_iff_ne]; exact h1
      by_cases h2 : s.data.toList = [60]
      · have f2 : (s.toList == [60]) = true := by rw [et.out, h2]; rfl
        have HR : Hid (lvl s.data.toList = 1) := by show _ = _; rw [h2]; rfl
        generalize lvl s.data.toList = r at HR ⊢
        clear et h0 h1 h2
        go_enter Tryz.func121, Tryz.ntmps121
        go_wp2
        go_ret
        exact ⟨ret_int (by rw [HR.out]; rfl), rfl⟩
      · have f2 : (s.toList == [60]) = false := by rw [et.out, beq_eq_false_iff_ne]; exact h2
        by_cases h3 : s.data.toList = [60, 61]
        · have f3 : (s.toList == [60, 61]) = true := by rw [et.out, h3]; rfl
          have HR : Hid (lvl s.data.toList = 1) := by show _ = _; rw [h3]; rfl
          generalize lvl s.data.toList = r at HR ⊢
          clear et h0 h1 h2 h3
          go_enter Tryz.func121, Tryz.ntmps121
          go_wp2
          go_ret
          exact ⟨ret_int (by rw [HR.out]; rfl), rfl⟩
        · have f3 : (s.toList == [60, 61]) = false := by rw [et.out, beq_eq_false_iff_ne]; exact h3
          by_cases h4 : s.data.toList = [62]
          · have f4 : (s.toList == [62]) = true := by rw [et.out, h4]; rfl
            have HR : Hid (lvl s.data.toList = 1) := by show _ = _; rw [h4]; rfl
            generalize lvl s.data.toList = r at HR ⊢
            clear et h0 h1 h2 h3 h4
            go_enter Tryz.func121, Tryz.ntmps121
            go_wp2
            go_ret
            exact ⟨ret_int (by rw [HR.out]; rfl), rfl⟩
          · have f4 : (s.toList == [62]) = false := by rw [et.out, beq_eq_false_iff_ne]; exact h4
            by_cases h5 : s.data.toList = [62, 61]
            · have f5 : (s.toList == [62, 61]) = true := by rw [et.out, h5]; rfl
              have HR : Hid (lvl s.data.toList = 1) := by show _ = _; rw [h5]; rfl
              generalize lvl s.data.toList = r at HR ⊢
              clear et h0 h1 h2 h3 h4 h5
              go_enter Tryz.func121, Tryz.ntmps121
              go_wp2
              go_ret
              exact ⟨ret_int (by rw [HR.out]; rfl), rfl⟩
            · have f5 : (s.toList == [62, 61]) = false := by rw [et.out, beq_eq_false_iff_ne]; exact h5
              by_cases h6 : s.data.toList = [38]
              · have f6 : (s.toList == [38]) = true := by rw [et.out, h6]; rfl
                have HR : Hid (lvl s.data.toList = 2) := by show _ = _; rw [h6]; rfl
                generalize lvl s.data.toList = r at HR ⊢
                clear et h0 h1 h2 h3 h4 h5 h6
                go_enter Tryz.func121, Tryz.ntmps121
                go_wp2
                go_ret
                exact ⟨ret_int (by rw [HR.out]; rfl), rfl⟩
              · have f6 : (s.toList == [38]) = false := by rw [et.out, beq_eq_false_iff_ne]; exact h6
                by_cases h7 : s.data.toList = [43]
                · have f7 : (s.toList == [43]) = true := by rw [et.out, h7]; rfl
                  have HR : Hid (lvl s.data.toList = 3) := by show _ = _; rw [h7]; rfl
                  generalize lvl s.data.toList = r at HR ⊢
                  clear et h0 h1 h2 h3 h4 h5 h6 h7
                  go_enter Tryz.func121, Tryz.ntmps121
                  go_wp2
                  go_ret
                  exact ⟨ret_int (by rw [HR.out]; rfl), rfl⟩
                · have f7 : (s.toList == [43]) = false := by rw [et.out, beq_eq_false_iff_ne]; exact h7
                  by_cases h8 : s.data.toList = [45]
                  · have f8 : (s.toList == [45]) = true := by rw [et.out, h8]; rfl
                    have HR : Hid (lvl s.data.toList = 3) := by show _ = _; rw [h8]; rfl
                    generalize lvl s.data.toList = r at HR ⊢
                    clear et h0 h1 h2 h3 h4 h5 h6 h7 h8
                    go_enter Tryz.func121, Tryz.ntmps121
                    go_wp2
                    go_ret
                    exact ⟨ret_int (by rw [HR.out]; rfl), rfl⟩
                  · have f8 : (s.toList == [45]) = false := by rw [et.out, beq_eq_false_iff_ne]; exact h8
                    by_cases h9 : s.data.toList = [42]
                    · have f9 : (s.toList == [42]) = true := by rw [et.out, h9]; rfl
                      have HR : Hid (lvl s.data.toList = 4) := by show _ = _; rw [h9]; rfl
                      generalize lvl s.data.toList = r at HR ⊢
                      clear et h0 h1 h2 h3 h4 h5 h6 h7 h8 h9
                      go_enter Tryz.func121, Tryz.ntmps121
                      go_wp2
                      go_ret
                      exact ⟨ret_int (by rw [HR.out]; rfl), rfl⟩
                    · have f9 : (s.toList == [42]) = false := by rw [et.out, beq_eq_false_iff_ne]; exact h9
                      by_cases h10 : s.data.toList = [47]
                      · have f10 : (s.toList == [47]) = true := by rw [et.out, h10]; rfl
                        have HR : Hid (lvl s.data.toList = 4) := by show _ = _; rw [h10]; rfl
                        generalize lvl s.data.toList = r at HR ⊢
                        clear et h0 h1 h2 h3 h4 h5 h6 h7 h8 h9 h10
                        go_enter Tryz.func121, Tryz.ntmps121
                        go_wp2
                        go_ret
                        exact ⟨ret_int (by rw [HR.out]; rfl), rfl⟩
                      · have f10 : (s.toList == [47]) = false := by rw [et.out, beq_eq_false_iff_ne]; exact h10
                        have HR : Hid (lvl s.data.toList = 0) := by show _ = _; unfold lvl; rw [if_neg h0, if_neg h1, if_neg h2, if_neg h3, if_neg h4, if_neg h5, if_neg h6, if_neg h7, if_neg h8, if_neg h9, if_neg h10]
                        generalize lvl s.data.toList = r at HR ⊢
                        clear et h0 h1 h2 h3 h4 h5 h6 h7 h8 h9 h10
                        go_enter Tryz.func121, Tryz.ntmps121
                        go_wp2
                        go_ret
                        exact ⟨ret_int (by rw [HR.out]; rfl), rfl⟩
set_option maxHeartbeats 2000000 in
theorem ptruth_any (s : ByteArray) (w : World) : Calls Tryz.prog 131 #[.string s] w fun e w' => e = .returned (.bool (decide (s.data.toList = truW ∨ s.data.toList = flsW))) ∧ w' = w := by
  have et := hid (toL s)
  by_cases h1 : s.data.toList = truW
  · have f1 : (s.toList == [84, 82, 85, 69]) = true := by rw [et.out, h1]; rfl
    have HR : Hid (decide (s.data.toList = truW ∨ s.data.toList = flsW) = true) := by show _ = _; exact decide_eq_true (.inl h1)
    generalize decide (s.data.toList = truW ∨ s.data.toList = flsW) = r at HR ⊢
    clear et h1
    go_enter Tryz.func131, Tryz.ntmps131
    go_wp2
    go_ret
    exact ⟨ret_bool HR.out.symm, rfl⟩
  · have f1 : (s.toList == [84, 82, 85, 69]) = false := by rw [et.out, beq_eq_false_iff_ne]; exact h1
    by_cases h2 : s.data.toList = flsW
    · have f2 : (s.toList == [70, 65, 76, 83, 69]) = true := by rw [et.out, h2]; rfl
      have HR : Hid (decide (s.data.toList = truW ∨ s.data.toList = flsW) = true) := by show _ = _; exact decide_eq_true (.inr h2)
      generalize decide (s.data.toList = truW ∨ s.data.toList = flsW) = r at HR ⊢
      clear et h1 h2
      go_enter Tryz.func131, Tryz.ntmps131
      go_wp2
      go_ret
      exact ⟨ret_bool HR.out.symm, rfl⟩
    · have f2 : (s.toList == [70, 65, 76, 83, 69]) = false := by rw [et.out, beq_eq_false_iff_ne]; exact h2
      have HR : Hid (decide (s.data.toList = truW ∨ s.data.toList = flsW) = false) := by show _ = _; exact decide_eq_false (fun e => e.elim h1 h2)
      generalize decide (s.data.toList = truW ∨ s.data.toList = flsW) = r at HR ⊢
      clear et h1 h2
      go_enter Tryz.func131, Tryz.ntmps131
      go_wp2
      go_ret
      exact ⟨ret_bool HR.out.symm, rfl⟩
set_option maxHeartbeats 4000000 in
theorem mayname_any (s : ByteArray) (w : World) (hs : s.size ≤ 4000000000) : Calls Tryz.prog 122 #[.string s] w fun e w' => e = .returned (.bool (namF s.data.toList)) ∧ w' = w := by
  have hl := len_data s
  by_cases h0 : s.size = 0
  · have HR : Hid (namF s.data.toList = false) := by show _ = _; unfold namF; rw [hl, h0]; rfl
    have e0 : ((s.size : Int) == 0) = true := by rw [h0]; rfl
    generalize namF s.data.toList = r at HR ⊢
    clear hl
    go_enter Tryz.func122, Tryz.ntmps122
    go_wp2_with fail
    go_ret
    exact ⟨ret_bool HR.out.symm, rfl⟩
  · have e0 : ((s.size : Int) == 0) = false := by rw [beq_eq_false_iff_ne]; omega
    by_cases h20 : (20 : Int) < (s.size : Int)
    · have HR : Hid (namF s.data.toList = false) := by show _ = _; unfold namF; rw [hl, decide_eq_false (show ¬ s.size ≤ 20 by omega)]; simp
      generalize namF s.data.toList = r at HR ⊢
      clear hl h0
      go_enter Tryz.func122, Tryz.ntmps122
      go_wp2_with fail
      go_ret
      exact ⟨ret_bool HR.out.symm, rfl⟩
    · have HT := hid (ptruth_any s w)
      by_cases htr : s.data.toList = truW ∨ s.data.toList = flsW
      · rw [decide_eq_true htr] at HT
        have HR : Hid (namF s.data.toList = false) := by show _ = _; unfold namF; rw [decide_eq_false (show ¬ ¬ (s.data.toList = truW ∨ s.data.toList = flsW) from fun e => e htr)]; simp
        generalize namF s.data.toList = r at HR ⊢
        clear hl h0 htr
        go_enter Tryz.func122, Tryz.ntmps122
        go_wp2_with (go_at_call 131; refine HT.out.mono ?_; rintro e9 w9 ⟨rfl, h9⟩; replace h9 := h9.symm; subst h9)
        go_ret
        exact ⟨ret_bool HR.out.symm, rfl⟩
      · rw [decide_eq_false htr] at HT
        have HR : Hid (namF s.data.toList = allL s.data.toList) := by
          show _ = _
          unfold namF allL
          rw [hl, decide_eq_true (show 0 < s.size by omega), decide_eq_true (show s.size ≤ 20 by omega), decide_eq_true htr]
          simp
        generalize namF s.data.toList = r at HR ⊢
        clear hl h0 htr
        go_enter Tryz.func122, Tryz.ntmps122
        go_wp2_with (go_at_call 131; refine HT.out.mono ?_; rintro e9 w9 ⟨rfl, h9⟩; replace h9 := h9.symm; subst h9)
        go_loop [18, 3] (fun i _ => ∃ k : Nat, k ≤ s.size ∧ i = .int .i64 k ∧ Hid (allL (s.data.toList.take k) = true)) (fun i _ => s.size - (intOf i).toNat)
        case atStart => exact ⟨0, Nat.zero_le _, rfl, rfl⟩
        case round =>
          obtain ⟨k, hk, rfl, ha⟩ := hrel
          by_cases hlt : k < s.size
          · by_cases hd : let1 s[k] = true
            · have ha' : Hid (allL (s.data.toList.take (k + 1)) = true) := by
                show _ = _
                have := ha.out
                rw [take_snoc s k hlt, allL_app, this]
                unfold allL
                simp [hd]
              have b0 : ¬ (s[k].toNat : Int) < 65 := by unfold let1 at hd; simp at hd; omega
              have b1 : ¬ 90 < (s[k].toNat : Int) := by unfold let1 at hd; simp at hd; omega
              clear hd
              go_wp2_with fail
              go_round
              case rel => exact ⟨k + 1, by omega, by go_num, ha'⟩
              case measure => simp [intOf]; omega
            · have hN := hid (allL_no s k hlt (by simpa using hd))
              by_cases b0 : (s[k].toNat : Int) < 65
              · clear hd
                go_wp2_with fail
                go_ret
                exact ⟨ret_bool (by rw [HR.out, hN.out]), rfl⟩
              · have b1 : 90 < (s[k].toNat : Int) := by unfold let1 at hd; simp at hd; omega
                clear hd
                go_wp2_with fail
                go_ret
                exact ⟨ret_bool (by rw [HR.out, hN.out]), rfl⟩
          · have hN : Hid (allL s.data.toList = true) := by
              show _ = _
              have := ha.out
              rw [take_all s k (by omega)] at this
              exact this
            go_wp2_with fail
            go_ret
            exact ⟨ret_bool (by rw [HR.out, hN.out]), rfl⟩
def bareB (n : Int) (t : List UInt8) (b : Bool) (e : Int) (l1 l2 : Nat) : Bool := decide (n = 0 ∧ t = [] ∧ b = false ∧ e = 0 ∧ l1 = 0 ∧ l2 = 0)
theorem bare_b (k n : Int) (t : ByteArray) (b : Bool) (e : Int) (a1 : Option Addr) (l1 c1 : Nat) (a2 : Option Addr) (l2 c2 : Nat) (r : Bool) (h : bareB n t.data.toList b e l1 l2 = r) (W : World) : Calls Tryz.prog 123 #[.agg #[.int .i64 k, .int .i64 n, .string t, .bool b, .int .i64 e, .slice a1 l1 c1, .slice a2 l2 c2]] W fun e' W' => e' = .returned (.bool r) ∧ Q W W' := by
  rw [← h]
  exact bare_any k n t b e a1 l1 c1 a2 l2 c2 W
theorem two_new (W : World) (c0 c1 c2 c3 c4 c5 c6 : Value) : Tb (((W.alloc (.cells #[c0, c1, c2, c3, c4, c5, c6] 40)).alloc (.cells #[c0, c1, c2, c3, c4, c5, c6] 40)).drew) W.heap.size c0 c1 c2 c3 c4 c5 c6 ∧ Tb (((W.alloc (.cells #[c0, c1, c2, c3, c4, c5, c6] 40)).alloc (.cells #[c0, c1, c2, c3, c4, c5, c6] 40)).drew) (W.heap.size + 1) c0 c1 c2 c3 c4 c5 c6 := by
  constructor
  · exact ((tb_new W c0 c1 c2 c3 c4 c5 c6 40).on ((Qx.refl (W.heap.size + 5) _).alloc _) (by omega)).on ((Qx.refl (W.heap.size + 5) _).drew) (by omega)
  · have h := (tb_new (W.alloc (.cells #[c0, c1, c2, c3, c4, c5, c6] 40)) c0 c1 c2 c3 c4 c5 c6 40).on (p := W.heap.size + 5) ((Qx.refl _ _).drew) (by simp)
    rw [show (W.alloc (.cells #[c0, c1, c2, c3, c4, c5, c6] 40)).heap.size = W.heap.size + 1 by simp] at h
    exact h
set_option maxHeartbeats 4000000 in
theorem mn_1 (n : Int) (t : ByteArray) (b : Bool) (e : Int) (a1 : Option Addr) (l1 c1 : Nat) (a2 : Option Addr) (l2 c2 : Nat) (W : World) : Calls Tryz.prog 108 #[.agg #[.int .i64 1, .int .i64 n, .string t, .bool b, .int .i64 e, .slice a1 l1 c1, .slice a2 l2 c2]] W fun e' W' => e' = .returned (.bool ((decide (0 ≤ n)) && bareB 0 t.data.toList b e l1 l2)) ∧ Q W W' := by
  obtain ⟨rb, hrb⟩ : ∃ rb, bareB 0 t.data.toList b e l1 l2 = rb := ⟨_, rfl⟩
  have HB := hid (fun W' => bare_b 1 0 t b e a1 l1 c1 a2 l2 c2 rb hrb W')
  obtain ⟨t1, t2⟩ := two_new W (.int .i64 1) (.int .i64 n) (.string t) (.bool b) (.int .i64 e) (.slice a1 l1 c1) (.slice a2 l2 c2)
  have T1 := hid t1
  have T2 := hid t2
  have HQ : Hid (Q W (((W.alloc (.cells #[.int .i64 1, .int .i64 n, .string t, .bool b, .int .i64 e, .slice a1 l1 c1, .slice a2 l2 c2] 40)).alloc (.cells #[.int .i64 1, .int .i64 n, .string t, .bool b, .int .i64 e, .slice a1 l1 c1, .slice a2 l2 c2] 40)).drew)) := hid (((Q.refl _).alloc _).alloc _).drew
  have HRB := hid hrb
  clear hrb t1 t2
  by_cases h : 0 ≤ n
  ·
    have HR : Hid (((decide (0 ≤ n)) && bareB 0 t.data.toList b e l1 l2) = rb) := by
      show _ = _
      rw [show (decide (0 ≤ n)) = true from decide_eq_true h]
      exact (Bool.true_and _).trans HRB.out
    generalize ((decide (0 ≤ n)) && bareB 0 t.data.toList b e l1 l2) = rr at HR ⊢
    go_enter Tryz.func108, Tryz.ntmps108
    go_wp2_with fail
    go_region
    obtain ⟨w1, hw1⟩ : ∃ w1, w1 = (((W.alloc (.cells #[.int .i64 1, .int .i64 n, .string t, .bool b, .int .i64 e, .slice a1 l1 c1, .slice a2 l2 c2] 40)).alloc (.cells #[.int .i64 1, .int .i64 n, .string t, .bool b, .int .i64 e, .slice a1 l1 c1, .slice a2 l2 c2] 40)).drew) := ⟨_, rfl⟩
    rw [← hw1] at T1 T2 HQ
    rw [← hw1]
    clear hw1
    obtain ⟨g0, g1, g2, g3, g4, g5, g6, _⟩ := T1.out
    obtain ⟨d0, d1, d2, d3, d4, d5, d6, yf⟩ := T2.out
    have y0 := yf 0
    have y1 := yf 1
    have y2 := yf 2
    have y3 := yf 3
    have y4 := yf 4
    have y5 := yf 5
    have y6 := yf 6
    clear yf
    go_wp2_with (first | (go_at_call 123; refine (HB.out _).mono ?_; rintro e9 w9 ⟨rfl, q9⟩; have Q9 := hid q9; clear q9))
    go_ret
    exact ⟨ret_bool HR.out.symm, Q.trans (by repeat (first | with_reducible exact QC.out | with_reducible exact HQ.out | with_reducible refine Q.drewN ?_ _ | with_reducible refine Q.drew ?_ | with_reducible refine Q.alloc ?_ _ | with_reducible refine Q.setCell ?_ (by simp) _)) Q9.out⟩
  ·
    have HR : Hid (((decide (0 ≤ n)) && bareB 0 t.data.toList b e l1 l2) = false) := by
      show _ = _
      rw [show (decide (0 ≤ n)) = false from decide_eq_false h]
      exact Bool.false_and _
    generalize ((decide (0 ≤ n)) && bareB 0 t.data.toList b e l1 l2) = rr at HR ⊢
    go_enter Tryz.func108, Tryz.ntmps108
    go_wp2_with fail
    go_region
    obtain ⟨w1, hw1⟩ : ∃ w1, w1 = (((W.alloc (.cells #[.int .i64 1, .int .i64 n, .string t, .bool b, .int .i64 e, .slice a1 l1 c1, .slice a2 l2 c2] 40)).alloc (.cells #[.int .i64 1, .int .i64 n, .string t, .bool b, .int .i64 e, .slice a1 l1 c1, .slice a2 l2 c2] 40)).drew) := ⟨_, rfl⟩
    rw [← hw1] at T1 T2 HQ
    rw [← hw1]
    clear hw1
    obtain ⟨g0, g1, g2, g3, g4, g5, g6, _⟩ := T1.out
    obtain ⟨d0, d1, d2, d3, d4, d5, d6, yf⟩ := T2.out
    have y0 := yf 0
    have y1 := yf 1
    have y2 := yf 2
    have y3 := yf 3
    have y4 := yf 4
    have y5 := yf 5
    have y6 := yf 6
    clear yf
    go_wp2_with fail
    go_ret
    exact ⟨ret_bool HR.out.symm, (by repeat (first | with_reducible exact QC.out | with_reducible exact HQ.out | with_reducible refine Q.drewN ?_ _ | with_reducible refine Q.drew ?_ | with_reducible refine Q.alloc ?_ _ | with_reducible refine Q.setCell ?_ (by simp) _))⟩
set_option maxHeartbeats 4000000 in
theorem mn_2 (n : Int) (t : ByteArray) (b : Bool) (e : Int) (a1 : Option Addr) (l1 c1 : Nat) (a2 : Option Addr) (l2 c2 : Nat) (W : World) (hw : Std W) (hs : t.size ≤ 4000000000) : Calls Tryz.prog 108 #[.agg #[.int .i64 2, .int .i64 n, .string t, .bool b, .int .i64 e, .slice a1 l1 c1, .slice a2 l2 c2]] W fun e' W' => e' = .returned (.bool ((V.mayB 2 0 t.toList false 0) && bareB n [] b e l1 l2)) ∧ Q W W' := by
  obtain ⟨rb, hrb⟩ : ∃ rb, bareB n [] b e l1 l2 = rb := ⟨_, rfl⟩
  have HB := hid (fun W' => bare_b 2 n ⟨#[]⟩ b e a1 l1 c1 a2 l2 c2 rb hrb W')
  obtain ⟨t1, t2⟩ := two_new W (.int .i64 2) (.int .i64 n) (.string t) (.bool b) (.int .i64 e) (.slice a1 l1 c1) (.slice a2 l2 c2)
  have T1 := hid t1
  have T2 := hid t2
  have HQ : Hid (Q W (((W.alloc (.cells #[.int .i64 2, .int .i64 n, .string t, .bool b, .int .i64 e, .slice a1 l1 c1, .slice a2 l2 c2] 40)).alloc (.cells #[.int .i64 2, .int .i64 n, .string t, .bool b, .int .i64 e, .slice a1 l1 c1, .slice a2 l2 c2] 40)).drew)) := hid (((Q.refl _).alloc _).alloc _).drew
  have HRB := hid hrb
  clear hrb t1 t2
  have HM := hid (fun W' (q : Q W W') => V.may_any 2 0 t false 0 W' (hw.on q) (by omega))
  clear hw
  cases h : V.mayB 2 0 t.toList false 0
  ·
    rw [h] at HM
    have HR : Hid (((false) && bareB n [] b e l1 l2) = false) := by
      show _ = _
      rw [show (false) = false from rfl]
      exact Bool.false_and _
    generalize ((false) && bareB n [] b e l1 l2) = rr at HR ⊢
    go_enter Tryz.func108, Tryz.ntmps108
    go_wp2_with fail
    go_region
    obtain ⟨w1, hw1⟩ : ∃ w1, w1 = (((W.alloc (.cells #[.int .i64 2, .int .i64 n, .string t, .bool b, .int .i64 e, .slice a1 l1 c1, .slice a2 l2 c2] 40)).alloc (.cells #[.int .i64 2, .int .i64 n, .string t, .bool b, .int .i64 e, .slice a1 l1 c1, .slice a2 l2 c2] 40)).drew) := ⟨_, rfl⟩
    rw [← hw1] at T1 T2 HQ
    rw [← hw1]
    clear hw1
    obtain ⟨g0, g1, g2, g3, g4, g5, g6, _⟩ := T1.out
    obtain ⟨d0, d1, d2, d3, d4, d5, d6, yf⟩ := T2.out
    have y0 := yf 0
    have y1 := yf 1
    have y2 := yf 2
    have y3 := yf 3
    have y4 := yf 4
    have y5 := yf 5
    have y6 := yf 6
    clear yf
    go_wp2_with (first | (go_at_call 51; refine (HM.out _ HQ.out).mono ?_; rintro e8 w2 ⟨rfl, q2⟩; have QC := hid (HQ.out.trans q2); have T3 := hid (T2.out.on (Qx.of (p := W.heap.size + 5) q2) (by omega)); clear q2; have v0 := T3.out.g0; have v1 := T3.out.g1; have v2 := T3.out.g2; have v3 := T3.out.g3; have v4 := T3.out.g4; have v5 := T3.out.g5; have v6 := T3.out.g6; have x0 := T3.out.f 0; have x1 := T3.out.f 1; have x2 := T3.out.f 2; have x3 := T3.out.f 3; have x4 := T3.out.f 4; have x5 := T3.out.f 5; have x6 := T3.out.f 6))
    go_ret
    exact ⟨ret_bool HR.out.symm, (by repeat (first | with_reducible exact QC.out | with_reducible exact HQ.out | with_reducible refine Q.drewN ?_ _ | with_reducible refine Q.drew ?_ | with_reducible refine Q.alloc ?_ _ | with_reducible refine Q.setCell ?_ (by simp) _))⟩
  ·
    rw [h] at HM
    have HR : Hid (((true) && bareB n [] b e l1 l2) = rb) := by
      show _ = _
      rw [show (true) = true from rfl]
      exact (Bool.true_and _).trans HRB.out
    generalize ((true) && bareB n [] b e l1 l2) = rr at HR ⊢
    go_enter Tryz.func108, Tryz.ntmps108
    go_wp2_with fail
    go_region
    obtain ⟨w1, hw1⟩ : ∃ w1, w1 = (((W.alloc (.cells #[.int .i64 2, .int .i64 n, .string t, .bool b, .int .i64 e, .slice a1 l1 c1, .slice a2 l2 c2] 40)).alloc (.cells #[.int .i64 2, .int .i64 n, .string t, .bool b, .int .i64 e, .slice a1 l1 c1, .slice a2 l2 c2] 40)).drew) := ⟨_, rfl⟩
    rw [← hw1] at T1 T2 HQ
    rw [← hw1]
    clear hw1
    obtain ⟨g0, g1, g2, g3, g4, g5, g6, _⟩ := T1.out
    obtain ⟨d0, d1, d2, d3, d4, d5, d6, yf⟩ := T2.out
    have y0 := yf 0
    have y1 := yf 1
    have y2 := yf 2
    have y3 := yf 3
    have y4 := yf 4
    have y5 := yf 5
    have y6 := yf 6
    clear yf
    go_wp2_with (first | (go_at_call 51; refine (HM.out _ HQ.out).mono ?_; rintro e8 w2 ⟨rfl, q2⟩; have QC := hid (HQ.out.trans q2); have T3 := hid (T2.out.on (Qx.of (p := W.heap.size + 5) q2) (by omega)); clear q2; have v0 := T3.out.g0; have v1 := T3.out.g1; have v2 := T3.out.g2; have v3 := T3.out.g3; have v4 := T3.out.g4; have v5 := T3.out.g5; have v6 := T3.out.g6; have x0 := T3.out.f 0; have x1 := T3.out.f 1; have x2 := T3.out.f 2; have x3 := T3.out.f 3; have x4 := T3.out.f 4; have x5 := T3.out.f 5; have x6 := T3.out.f 6) | (go_at_call 123; refine (HB.out _).mono ?_; rintro e9 w9 ⟨rfl, q9⟩; have Q9 := hid q9; clear q9))
    go_ret
    exact ⟨ret_bool HR.out.symm, Q.trans (by repeat (first | with_reducible exact QC.out | with_reducible exact HQ.out | with_reducible refine Q.drewN ?_ _ | with_reducible refine Q.drew ?_ | with_reducible refine Q.alloc ?_ _ | with_reducible refine Q.setCell ?_ (by simp) _)) Q9.out⟩
set_option maxHeartbeats 4000000 in
theorem mn_3 (n : Int) (t : ByteArray) (b : Bool) (e : Int) (a1 : Option Addr) (l1 c1 : Nat) (a2 : Option Addr) (l2 c2 : Nat) (W : World) : Calls Tryz.prog 108 #[.agg #[.int .i64 3, .int .i64 n, .string t, .bool b, .int .i64 e, .slice a1 l1 c1, .slice a2 l2 c2]] W fun e' W' => e' = .returned (.bool ((true) && bareB n t.data.toList false e l1 l2)) ∧ Q W W' := by
  obtain ⟨rb, hrb⟩ : ∃ rb, bareB n t.data.toList false e l1 l2 = rb := ⟨_, rfl⟩
  have HB := hid (fun W' => bare_b 3 n t false e a1 l1 c1 a2 l2 c2 rb hrb W')
  obtain ⟨t1, t2⟩ := two_new W (.int .i64 3) (.int .i64 n) (.string t) (.bool b) (.int .i64 e) (.slice a1 l1 c1) (.slice a2 l2 c2)
  have T1 := hid t1
  have T2 := hid t2
  have HQ : Hid (Q W (((W.alloc (.cells #[.int .i64 3, .int .i64 n, .string t, .bool b, .int .i64 e, .slice a1 l1 c1, .slice a2 l2 c2] 40)).alloc (.cells #[.int .i64 3, .int .i64 n, .string t, .bool b, .int .i64 e, .slice a1 l1 c1, .slice a2 l2 c2] 40)).drew)) := hid (((Q.refl _).alloc _).alloc _).drew
  have HRB := hid hrb
  clear hrb t1 t2
  have HR : Hid (((true) && bareB n t.data.toList false e l1 l2) = rb) := by
    show _ = _
    rw [show (true) = true from rfl]
    exact (Bool.true_and _).trans HRB.out
  generalize ((true) && bareB n t.data.toList false e l1 l2) = rr at HR ⊢
  go_enter Tryz.func108, Tryz.ntmps108
  go_wp2_with fail
  go_region
  obtain ⟨w1, hw1⟩ : ∃ w1, w1 = (((W.alloc (.cells #[.int .i64 3, .int .i64 n, .string t, .bool b, .int .i64 e, .slice a1 l1 c1, .slice a2 l2 c2] 40)).alloc (.cells #[.int .i64 3, .int .i64 n, .string t, .bool b, .int .i64 e, .slice a1 l1 c1, .slice a2 l2 c2] 40)).drew) := ⟨_, rfl⟩
  rw [← hw1] at T1 T2 HQ
  rw [← hw1]
  clear hw1
  obtain ⟨g0, g1, g2, g3, g4, g5, g6, _⟩ := T1.out
  obtain ⟨d0, d1, d2, d3, d4, d5, d6, yf⟩ := T2.out
  have y0 := yf 0
  have y1 := yf 1
  have y2 := yf 2
  have y3 := yf 3
  have y4 := yf 4
  have y5 := yf 5
  have y6 := yf 6
  clear yf
  go_wp2_with (first | (go_at_call 123; refine (HB.out _).mono ?_; rintro e9 w9 ⟨rfl, q9⟩; have Q9 := hid q9; clear q9))
  go_ret
  exact ⟨ret_bool HR.out.symm, Q.trans (by repeat (first | with_reducible exact QC.out | with_reducible exact HQ.out | with_reducible refine Q.drewN ?_ _ | with_reducible refine Q.drew ?_ | with_reducible refine Q.alloc ?_ _ | with_reducible refine Q.setCell ?_ (by simp) _)) Q9.out⟩
set_option maxHeartbeats 4000000 in
theorem mn_4 (n : Int) (t : ByteArray) (b : Bool) (e : Int) (a1 : Option Addr) (l1 c1 : Nat) (a2 : Option Addr) (l2 c2 : Nat) (W : World) (hw : Std W) : Calls Tryz.prog 108 #[.agg #[.int .i64 4, .int .i64 n, .string t, .bool b, .int .i64 e, .slice a1 l1 c1, .slice a2 l2 c2]] W fun e' W' => e' = .returned (.bool ((decide (enL e ≠ [])) && bareB n t.data.toList b 0 l1 l2)) ∧ Q W W' := by
  obtain ⟨rb, hrb⟩ : ∃ rb, bareB n t.data.toList b 0 l1 l2 = rb := ⟨_, rfl⟩
  have HB := hid (fun W' => bare_b 4 n t b 0 a1 l1 c1 a2 l2 c2 rb hrb W')
  obtain ⟨t1, t2⟩ := two_new W (.int .i64 4) (.int .i64 n) (.string t) (.bool b) (.int .i64 e) (.slice a1 l1 c1) (.slice a2 l2 c2)
  have T1 := hid t1
  have T2 := hid t2
  have HQ : Hid (Q W (((W.alloc (.cells #[.int .i64 4, .int .i64 n, .string t, .bool b, .int .i64 e, .slice a1 l1 c1, .slice a2 l2 c2] 40)).alloc (.cells #[.int .i64 4, .int .i64 n, .string t, .bool b, .int .i64 e, .slice a1 l1 c1, .slice a2 l2 c2] 40)).drew)) := hid (((Q.refl _).alloc _).alloc _).drew
  have HRB := hid hrb
  clear hrb t1 t2
  have HM := hid (fun W' (q : Q W W') => V.name_any e W' (hw.on q).nam)
  clear hw
  obtain ⟨S, hS, lS⟩ : ∃ S : ByteArray, ⟨(enL e).toArray⟩ = S ∧ S.data.toList = enL e := ⟨_, rfl, rfl⟩
  rw [hS] at HM
  by_cases h : enL e ≠ []
  ·
    have f4 : (S.toList == []) = false := by rw [toL, lS, beq_eq_false_iff_ne]; exact h
    clear hS lS
    have HR : Hid (((decide (enL e ≠ [])) && bareB n t.data.toList b 0 l1 l2) = rb) := by
      show _ = _
      rw [show (decide (enL e ≠ [])) = true from decide_eq_true h]
      exact (Bool.true_and _).trans HRB.out
    generalize ((decide (enL e ≠ [])) && bareB n t.data.toList b 0 l1 l2) = rr at HR ⊢
    go_enter Tryz.func108, Tryz.ntmps108
    go_wp2_with fail
    go_region
    obtain ⟨w1, hw1⟩ : ∃ w1, w1 = (((W.alloc (.cells #[.int .i64 4, .int .i64 n, .string t, .bool b, .int .i64 e, .slice a1 l1 c1, .slice a2 l2 c2] 40)).alloc (.cells #[.int .i64 4, .int .i64 n, .string t, .bool b, .int .i64 e, .slice a1 l1 c1, .slice a2 l2 c2] 40)).drew) := ⟨_, rfl⟩
    rw [← hw1] at T1 T2 HQ
    rw [← hw1]
    clear hw1
    obtain ⟨g0, g1, g2, g3, g4, g5, g6, _⟩ := T1.out
    obtain ⟨d0, d1, d2, d3, d4, d5, d6, yf⟩ := T2.out
    have y0 := yf 0
    have y1 := yf 1
    have y2 := yf 2
    have y3 := yf 3
    have y4 := yf 4
    have y5 := yf 5
    have y6 := yf 6
    clear yf
    go_wp2_with (first | (go_at_call 84; refine (HM.out _ HQ.out).mono ?_; rintro e8 w2 ⟨rfl, h2⟩; replace h2 := h2.symm; subst h2) | (go_at_call 123; refine (HB.out _).mono ?_; rintro e9 w9 ⟨rfl, q9⟩; have Q9 := hid q9; clear q9))
    go_ret
    exact ⟨ret_bool HR.out.symm, Q.trans (by repeat (first | with_reducible exact QC.out | with_reducible exact HQ.out | with_reducible refine Q.drewN ?_ _ | with_reducible refine Q.drew ?_ | with_reducible refine Q.alloc ?_ _ | with_reducible refine Q.setCell ?_ (by simp) _)) Q9.out⟩
  ·
    have f4 : (S.toList == []) = true := by rw [toL, lS, Classical.not_not.1 h]; rfl
    clear hS lS
    have HR : Hid (((decide (enL e ≠ [])) && bareB n t.data.toList b 0 l1 l2) = false) := by
      show _ = _
      rw [show (decide (enL e ≠ [])) = false from decide_eq_false h]
      exact Bool.false_and _
    generalize ((decide (enL e ≠ [])) && bareB n t.data.toList b 0 l1 l2) = rr at HR ⊢
    go_enter Tryz.func108, Tryz.ntmps108
    go_wp2_with fail
    go_region
    obtain ⟨w1, hw1⟩ : ∃ w1, w1 = (((W.alloc (.cells #[.int .i64 4, .int .i64 n, .string t, .bool b, .int .i64 e, .slice a1 l1 c1, .slice a2 l2 c2] 40)).alloc (.cells #[.int .i64 4, .int .i64 n, .string t, .bool b, .int .i64 e, .slice a1 l1 c1, .slice a2 l2 c2] 40)).drew) := ⟨_, rfl⟩
    rw [← hw1] at T1 T2 HQ
    rw [← hw1]
    clear hw1
    obtain ⟨g0, g1, g2, g3, g4, g5, g6, _⟩ := T1.out
    obtain ⟨d0, d1, d2, d3, d4, d5, d6, yf⟩ := T2.out
    have y0 := yf 0
    have y1 := yf 1
    have y2 := yf 2
    have y3 := yf 3
    have y4 := yf 4
    have y5 := yf 5
    have y6 := yf 6
    clear yf
    go_wp2_with (first | (go_at_call 84; refine (HM.out _ HQ.out).mono ?_; rintro e8 w2 ⟨rfl, h2⟩; replace h2 := h2.symm; subst h2))
    go_ret
    exact ⟨ret_bool HR.out.symm, (by repeat (first | with_reducible exact QC.out | with_reducible exact HQ.out | with_reducible refine Q.drewN ?_ _ | with_reducible refine Q.drew ?_ | with_reducible refine Q.alloc ?_ _ | with_reducible refine Q.setCell ?_ (by simp) _))⟩
set_option maxHeartbeats 4000000 in
theorem mn_7 (n : Int) (t : ByteArray) (b : Bool) (e : Int) (a1 : Option Addr) (l1 c1 : Nat) (a2 : Option Addr) (l2 c2 : Nat) (W : World) : Calls Tryz.prog 108 #[.agg #[.int .i64 7, .int .i64 n, .string t, .bool b, .int .i64 e, .slice a1 l1 c1, .slice a2 l2 c2]] W fun e' W' => e' = .returned (.bool ((decide (l2 = 1)) && bareB n t.data.toList b e l1 0)) ∧ Q W W' := by
  obtain ⟨rb, hrb⟩ : ∃ rb, bareB n t.data.toList b e l1 0 = rb := ⟨_, rfl⟩
  have HB := hid (fun W' => bare_b 7 n t b e a1 l1 c1 none 0 0 rb hrb W')
  obtain ⟨t1, t2⟩ := two_new W (.int .i64 7) (.int .i64 n) (.string t) (.bool b) (.int .i64 e) (.slice a1 l1 c1) (.slice a2 l2 c2)
  have T1 := hid t1
  have T2 := hid t2
  have HQ : Hid (Q W (((W.alloc (.cells #[.int .i64 7, .int .i64 n, .string t, .bool b, .int .i64 e, .slice a1 l1 c1, .slice a2 l2 c2] 40)).alloc (.cells #[.int .i64 7, .int .i64 n, .string t, .bool b, .int .i64 e, .slice a1 l1 c1, .slice a2 l2 c2] 40)).drew)) := hid (((Q.refl _).alloc _).alloc _).drew
  have HRB := hid hrb
  clear hrb t1 t2
  by_cases h : l2 = 1
  ·
    have f7 : ((l2 : Int) == 1) = true := by rw [h]; rfl
    have HR : Hid (((decide (l2 = 1)) && bareB n t.data.toList b e l1 0) = rb) := by
      show _ = _
      rw [show (decide (l2 = 1)) = true from decide_eq_true h]
      exact (Bool.true_and _).trans HRB.out
    generalize ((decide (l2 = 1)) && bareB n t.data.toList b e l1 0) = rr at HR ⊢
    clear h
    go_enter Tryz.func108, Tryz.ntmps108
    go_wp2_with fail
    go_region
    obtain ⟨w1, hw1⟩ : ∃ w1, w1 = (((W.alloc (.cells #[.int .i64 7, .int .i64 n, .string t, .bool b, .int .i64 e, .slice a1 l1 c1, .slice a2 l2 c2] 40)).alloc (.cells #[.int .i64 7, .int .i64 n, .string t, .bool b, .int .i64 e, .slice a1 l1 c1, .slice a2 l2 c2] 40)).drew) := ⟨_, rfl⟩
    rw [← hw1] at T1 T2 HQ
    rw [← hw1]
    clear hw1
    obtain ⟨g0, g1, g2, g3, g4, g5, g6, _⟩ := T1.out
    obtain ⟨d0, d1, d2, d3, d4, d5, d6, yf⟩ := T2.out
    have y0 := yf 0
    have y1 := yf 1
    have y2 := yf 2
    have y3 := yf 3
    have y4 := yf 4
    have y5 := yf 5
    have y6 := yf 6
    clear yf
    go_wp2_with (first | (go_at_call 123; refine (HB.out _).mono ?_; rintro e9 w9 ⟨rfl, q9⟩; have Q9 := hid q9; clear q9))
    go_ret
    exact ⟨ret_bool HR.out.symm, Q.trans (by repeat (first | with_reducible exact QC.out | with_reducible exact HQ.out | with_reducible refine Q.drewN ?_ _ | with_reducible refine Q.drew ?_ | with_reducible refine Q.alloc ?_ _ | with_reducible refine Q.setCell ?_ (by simp) _)) Q9.out⟩
  ·
    have f7 : ((l2 : Int) == 1) = false := by rw [beq_eq_false_iff_ne]; omega
    have HR : Hid (((decide (l2 = 1)) && bareB n t.data.toList b e l1 0) = false) := by
      show _ = _
      rw [show (decide (l2 = 1)) = false from decide_eq_false h]
      exact Bool.false_and _
    generalize ((decide (l2 = 1)) && bareB n t.data.toList b e l1 0) = rr at HR ⊢
    go_enter Tryz.func108, Tryz.ntmps108
    go_wp2_with fail
    go_region
    obtain ⟨w1, hw1⟩ : ∃ w1, w1 = (((W.alloc (.cells #[.int .i64 7, .int .i64 n, .string t, .bool b, .int .i64 e, .slice a1 l1 c1, .slice a2 l2 c2] 40)).alloc (.cells #[.int .i64 7, .int .i64 n, .string t, .bool b, .int .i64 e, .slice a1 l1 c1, .slice a2 l2 c2] 40)).drew) := ⟨_, rfl⟩
    rw [← hw1] at T1 T2 HQ
    rw [← hw1]
    clear hw1
    obtain ⟨g0, g1, g2, g3, g4, g5, g6, _⟩ := T1.out
    obtain ⟨d0, d1, d2, d3, d4, d5, d6, yf⟩ := T2.out
    have y0 := yf 0
    have y1 := yf 1
    have y2 := yf 2
    have y3 := yf 3
    have y4 := yf 4
    have y5 := yf 5
    have y6 := yf 6
    clear yf
    go_wp2_with fail
    go_ret
    exact ⟨ret_bool HR.out.symm, (by repeat (first | with_reducible exact QC.out | with_reducible exact HQ.out | with_reducible refine Q.drewN ?_ _ | with_reducible refine Q.drew ?_ | with_reducible refine Q.alloc ?_ _ | with_reducible refine Q.setCell ?_ (by simp) _))⟩
set_option maxHeartbeats 4000000 in
theorem mn_8 (n : Int) (t : ByteArray) (b : Bool) (e : Int) (a1 : Option Addr) (l1 c1 : Nat) (a2 : Option Addr) (l2 c2 : Nat) (W : World) : Calls Tryz.prog 108 #[.agg #[.int .i64 8, .int .i64 n, .string t, .bool b, .int .i64 e, .slice a1 l1 c1, .slice a2 l2 c2]] W fun e' W' => e' = .returned (.bool ((decide (1 ≤ lvl t.data.toList) && decide (l2 = 2)) && bareB n [] b e l1 0)) ∧ Q W W' := by
  obtain ⟨rb, hrb⟩ : ∃ rb, bareB n [] b e l1 0 = rb := ⟨_, rfl⟩
  have HB := hid (fun W' => bare_b 8 n ⟨#[]⟩ b e a1 l1 c1 none 0 0 rb hrb W')
  obtain ⟨t1, t2⟩ := two_new W (.int .i64 8) (.int .i64 n) (.string t) (.bool b) (.int .i64 e) (.slice a1 l1 c1) (.slice a2 l2 c2)
  have T1 := hid t1
  have T2 := hid t2
  have HQ : Hid (Q W (((W.alloc (.cells #[.int .i64 8, .int .i64 n, .string t, .bool b, .int .i64 e, .slice a1 l1 c1, .slice a2 l2 c2] 40)).alloc (.cells #[.int .i64 8, .int .i64 n, .string t, .bool b, .int .i64 e, .slice a1 l1 c1, .slice a2 l2 c2] 40)).drew)) := hid (((Q.refl _).alloc _).alloc _).drew
  have HRB := hid hrb
  clear hrb t1 t2
  have HM := hid (fun W' => strength_any t W')
  obtain ⟨lv, hlv⟩ : ∃ lv, lvl t.data.toList = lv := ⟨_, rfl⟩
  rw [hlv] at HM ⊢
  by_cases h : 1 ≤ lv
  · have f8 : (1 : Int) ≤ (lv : Int) := by omega
    by_cases h2 : l2 = 2
    ·
      have f7 : ((l2 : Int) == 2) = true := by rw [h2]; rfl
      have HR : Hid (((decide (1 ≤ lv) && decide (l2 = 2)) && bareB n [] b e l1 0) = rb) := by
        show _ = _
        rw [show (decide (1 ≤ lv) && decide (l2 = 2)) = true from by rw [decide_eq_true h, decide_eq_true h2]; rfl]
        exact (Bool.true_and _).trans HRB.out
      generalize ((decide (1 ≤ lv) && decide (l2 = 2)) && bareB n [] b e l1 0) = rr at HR ⊢
      clear h2
      go_enter Tryz.func108, Tryz.ntmps108
      go_wp2_with fail
      go_region
      obtain ⟨w1, hw1⟩ : ∃ w1, w1 = (((W.alloc (.cells #[.int .i64 8, .int .i64 n, .string t, .bool b, .int .i64 e, .slice a1 l1 c1, .slice a2 l2 c2] 40)).alloc (.cells #[.int .i64 8, .int .i64 n, .string t, .bool b, .int .i64 e, .slice a1 l1 c1, .slice a2 l2 c2] 40)).drew) := ⟨_, rfl⟩
      rw [← hw1] at T1 T2 HQ
      rw [← hw1]
      clear hw1
      obtain ⟨g0, g1, g2, g3, g4, g5, g6, _⟩ := T1.out
      obtain ⟨d0, d1, d2, d3, d4, d5, d6, yf⟩ := T2.out
      have y0 := yf 0
      have y1 := yf 1
      have y2 := yf 2
      have y3 := yf 3
      have y4 := yf 4
      have y5 := yf 5
      have y6 := yf 6
      clear yf
      go_wp2_with (first | (go_at_call 121; refine (HM.out _).mono ?_; rintro e8 w2 ⟨rfl, h2⟩; replace h2 := h2.symm; subst h2) | (go_at_call 123; refine (HB.out _).mono ?_; rintro e9 w9 ⟨rfl, q9⟩; have Q9 := hid q9; clear q9))
      go_ret
      exact ⟨ret_bool HR.out.symm, Q.trans (by repeat (first | with_reducible exact QC.out | with_reducible exact HQ.out | with_reducible refine Q.drewN ?_ _ | with_reducible refine Q.drew ?_ | with_reducible refine Q.alloc ?_ _ | with_reducible refine Q.setCell ?_ (by simp) _)) Q9.out⟩
    ·
      have f7 : ((l2 : Int) == 2) = false := by rw [beq_eq_false_iff_ne]; omega
      have HR : Hid (((decide (1 ≤ lv) && decide (l2 = 2)) && bareB n [] b e l1 0) = false) := by
        show _ = _
        rw [show (decide (1 ≤ lv) && decide (l2 = 2)) = false from by rw [decide_eq_false h2, Bool.and_false]]
        exact Bool.false_and _
      generalize ((decide (1 ≤ lv) && decide (l2 = 2)) && bareB n [] b e l1 0) = rr at HR ⊢
      go_enter Tryz.func108, Tryz.ntmps108
      go_wp2_with fail
      go_region
      obtain ⟨w1, hw1⟩ : ∃ w1, w1 = (((W.alloc (.cells #[.int .i64 8, .int .i64 n, .string t, .bool b, .int .i64 e, .slice a1 l1 c1, .slice a2 l2 c2] 40)).alloc (.cells #[.int .i64 8, .int .i64 n, .string t, .bool b, .int .i64 e, .slice a1 l1 c1, .slice a2 l2 c2] 40)).drew) := ⟨_, rfl⟩
      rw [← hw1] at T1 T2 HQ
      rw [← hw1]
      clear hw1
      obtain ⟨g0, g1, g2, g3, g4, g5, g6, _⟩ := T1.out
      obtain ⟨d0, d1, d2, d3, d4, d5, d6, yf⟩ := T2.out
      have y0 := yf 0
      have y1 := yf 1
      have y2 := yf 2
      have y3 := yf 3
      have y4 := yf 4
      have y5 := yf 5
      have y6 := yf 6
      clear yf
      go_wp2_with (first | (go_at_call 121; refine (HM.out _).mono ?_; rintro e8 w2 ⟨rfl, h2⟩; replace h2 := h2.symm; subst h2))
      go_ret
      exact ⟨ret_bool HR.out.symm, (by repeat (first | with_reducible exact QC.out | with_reducible exact HQ.out | with_reducible refine Q.drewN ?_ _ | with_reducible refine Q.drew ?_ | with_reducible refine Q.alloc ?_ _ | with_reducible refine Q.setCell ?_ (by simp) _))⟩
  · have f8 : ¬ (1 : Int) ≤ (lv : Int) := by omega
    have HR : Hid (((decide (1 ≤ lv) && decide (l2 = 2)) && bareB n [] b e l1 0) = false) := by
      show _ = _
      rw [show (decide (1 ≤ lv) && decide (l2 = 2)) = false from by rw [decide_eq_false h, Bool.false_and]]
      exact Bool.false_and _
    generalize ((decide (1 ≤ lv) && decide (l2 = 2)) && bareB n [] b e l1 0) = rr at HR ⊢
    go_enter Tryz.func108, Tryz.ntmps108
    go_wp2_with fail
    go_region
    obtain ⟨w1, hw1⟩ : ∃ w1, w1 = (((W.alloc (.cells #[.int .i64 8, .int .i64 n, .string t, .bool b, .int .i64 e, .slice a1 l1 c1, .slice a2 l2 c2] 40)).alloc (.cells #[.int .i64 8, .int .i64 n, .string t, .bool b, .int .i64 e, .slice a1 l1 c1, .slice a2 l2 c2] 40)).drew) := ⟨_, rfl⟩
    rw [← hw1] at T1 T2 HQ
    rw [← hw1]
    clear hw1
    obtain ⟨g0, g1, g2, g3, g4, g5, g6, _⟩ := T1.out
    obtain ⟨d0, d1, d2, d3, d4, d5, d6, yf⟩ := T2.out
    have y0 := yf 0
    have y1 := yf 1
    have y2 := yf 2
    have y3 := yf 3
    have y4 := yf 4
    have y5 := yf 5
    have y6 := yf 6
    clear yf
    go_wp2_with (first | (go_at_call 121; refine (HM.out _).mono ?_; rintro e8 w2 ⟨rfl, h2⟩; replace h2 := h2.symm; subst h2))
    go_ret
    exact ⟨ret_bool HR.out.symm, (by repeat (first | with_reducible exact QC.out | with_reducible exact HQ.out | with_reducible refine Q.drewN ?_ _ | with_reducible refine Q.drew ?_ | with_reducible refine Q.alloc ?_ _ | with_reducible refine Q.setCell ?_ (by simp) _))⟩
set_option maxHeartbeats 4000000 in
theorem mn_9 (n : Int) (t : ByteArray) (b : Bool) (e : Int) (a1 : Option Addr) (l1 c1 : Nat) (a2 : Option Addr) (l2 c2 : Nat) (W : World) (hs : t.size ≤ 4000000000) : Calls Tryz.prog 108 #[.agg #[.int .i64 9, .int .i64 n, .string t, .bool b, .int .i64 e, .slice a1 l1 c1, .slice a2 l2 c2]] W fun e' W' => e' = .returned (.bool ((namF t.data.toList && decide (l2 ≤ 30)) && bareB n [] b e l1 0)) ∧ Q W W' := by
  obtain ⟨rb, hrb⟩ : ∃ rb, bareB n [] b e l1 0 = rb := ⟨_, rfl⟩
  have HB := hid (fun W' => bare_b 9 n ⟨#[]⟩ b e a1 l1 c1 none 0 0 rb hrb W')
  obtain ⟨t1, t2⟩ := two_new W (.int .i64 9) (.int .i64 n) (.string t) (.bool b) (.int .i64 e) (.slice a1 l1 c1) (.slice a2 l2 c2)
  have T1 := hid t1
  have T2 := hid t2
  have HQ : Hid (Q W (((W.alloc (.cells #[.int .i64 9, .int .i64 n, .string t, .bool b, .int .i64 e, .slice a1 l1 c1, .slice a2 l2 c2] 40)).alloc (.cells #[.int .i64 9, .int .i64 n, .string t, .bool b, .int .i64 e, .slice a1 l1 c1, .slice a2 l2 c2] 40)).drew)) := hid (((Q.refl _).alloc _).alloc _).drew
  have HRB := hid hrb
  clear hrb t1 t2
  have HM := hid (fun W' => mayname_any t W' hs)
  cases h : namF t.data.toList
  ·
    rw [h] at HM
    have HR : Hid (((false && decide (l2 ≤ 30)) && bareB n [] b e l1 0) = false) := by
      show _ = _
      rw [show (false && decide (l2 ≤ 30)) = false from Bool.false_and _]
      exact Bool.false_and _
    generalize ((false && decide (l2 ≤ 30)) && bareB n [] b e l1 0) = rr at HR ⊢
    go_enter Tryz.func108, Tryz.ntmps108
    go_wp2_with fail
    go_region
    obtain ⟨w1, hw1⟩ : ∃ w1, w1 = (((W.alloc (.cells #[.int .i64 9, .int .i64 n, .string t, .bool b, .int .i64 e, .slice a1 l1 c1, .slice a2 l2 c2] 40)).alloc (.cells #[.int .i64 9, .int .i64 n, .string t, .bool b, .int .i64 e, .slice a1 l1 c1, .slice a2 l2 c2] 40)).drew) := ⟨_, rfl⟩
    rw [← hw1] at T1 T2 HQ
    rw [← hw1]
    clear hw1
    obtain ⟨g0, g1, g2, g3, g4, g5, g6, _⟩ := T1.out
    obtain ⟨d0, d1, d2, d3, d4, d5, d6, yf⟩ := T2.out
    have y0 := yf 0
    have y1 := yf 1
    have y2 := yf 2
    have y3 := yf 3
    have y4 := yf 4
    have y5 := yf 5
    have y6 := yf 6
    clear yf
    go_wp2_with (first | (go_at_call 122; refine (HM.out _).mono ?_; rintro e8 w2 ⟨rfl, h2⟩; replace h2 := h2.symm; subst h2))
    go_ret
    exact ⟨ret_bool HR.out.symm, (by repeat (first | with_reducible exact QC.out | with_reducible exact HQ.out | with_reducible refine Q.drewN ?_ _ | with_reducible refine Q.drew ?_ | with_reducible refine Q.alloc ?_ _ | with_reducible refine Q.setCell ?_ (by simp) _))⟩
  · rw [h] at HM
    by_cases h2 : l2 ≤ 30
    ·
      have f7 : (l2 : Int) ≤ 30 := by omega
      have HR : Hid (((true && decide (l2 ≤ 30)) && bareB n [] b e l1 0) = rb) := by
        show _ = _
        rw [show (true && decide (l2 ≤ 30)) = true from by rw [decide_eq_true h2]; rfl]
        exact (Bool.true_and _).trans HRB.out
      generalize ((true && decide (l2 ≤ 30)) && bareB n [] b e l1 0) = rr at HR ⊢
      go_enter Tryz.func108, Tryz.ntmps108
      go_wp2_with fail
      go_region
      obtain ⟨w1, hw1⟩ : ∃ w1, w1 = (((W.alloc (.cells #[.int .i64 9, .int .i64 n, .string t, .bool b, .int .i64 e, .slice a1 l1 c1, .slice a2 l2 c2] 40)).alloc (.cells #[.int .i64 9, .int .i64 n, .string t, .bool b, .int .i64 e, .slice a1 l1 c1, .slice a2 l2 c2] 40)).drew) := ⟨_, rfl⟩
      rw [← hw1] at T1 T2 HQ
      rw [← hw1]
      clear hw1
      obtain ⟨g0, g1, g2, g3, g4, g5, g6, _⟩ := T1.out
      obtain ⟨d0, d1, d2, d3, d4, d5, d6, yf⟩ := T2.out
      have y0 := yf 0
      have y1 := yf 1
      have y2 := yf 2
      have y3 := yf 3
      have y4 := yf 4
      have y5 := yf 5
      have y6 := yf 6
      clear yf
      go_wp2_with (first | (go_at_call 122; refine (HM.out _).mono ?_; rintro e8 w2 ⟨rfl, h2⟩; replace h2 := h2.symm; subst h2) | (go_at_call 123; refine (HB.out _).mono ?_; rintro e9 w9 ⟨rfl, q9⟩; have Q9 := hid q9; clear q9))
      go_ret
      exact ⟨ret_bool HR.out.symm, Q.trans (by repeat (first | with_reducible exact QC.out | with_reducible exact HQ.out | with_reducible refine Q.drewN ?_ _ | with_reducible refine Q.drew ?_ | with_reducible refine Q.alloc ?_ _ | with_reducible refine Q.setCell ?_ (by simp) _)) Q9.out⟩
    ·
      have f7 : ¬ (l2 : Int) ≤ 30 := by omega
      have HR : Hid (((true && decide (l2 ≤ 30)) && bareB n [] b e l1 0) = false) := by
        show _ = _
        rw [show (true && decide (l2 ≤ 30)) = false from by rw [decide_eq_false h2]; rfl]
        exact Bool.false_and _
      generalize ((true && decide (l2 ≤ 30)) && bareB n [] b e l1 0) = rr at HR ⊢
      go_enter Tryz.func108, Tryz.ntmps108
      go_wp2_with fail
      go_region
      obtain ⟨w1, hw1⟩ : ∃ w1, w1 = (((W.alloc (.cells #[.int .i64 9, .int .i64 n, .string t, .bool b, .int .i64 e, .slice a1 l1 c1, .slice a2 l2 c2] 40)).alloc (.cells #[.int .i64 9, .int .i64 n, .string t, .bool b, .int .i64 e, .slice a1 l1 c1, .slice a2 l2 c2] 40)).drew) := ⟨_, rfl⟩
      rw [← hw1] at T1 T2 HQ
      rw [← hw1]
      clear hw1
      obtain ⟨g0, g1, g2, g3, g4, g5, g6, _⟩ := T1.out
      obtain ⟨d0, d1, d2, d3, d4, d5, d6, yf⟩ := T2.out
      have y0 := yf 0
      have y1 := yf 1
      have y2 := yf 2
      have y3 := yf 3
      have y4 := yf 4
      have y5 := yf 5
      have y6 := yf 6
      clear yf
      go_wp2_with (first | (go_at_call 122; refine (HM.out _).mono ?_; rintro e8 w2 ⟨rfl, h2⟩; replace h2 := h2.symm; subst h2))
      go_ret
      exact ⟨ret_bool HR.out.symm, (by repeat (first | with_reducible exact QC.out | with_reducible exact HQ.out | with_reducible refine Q.drewN ?_ _ | with_reducible refine Q.drew ?_ | with_reducible refine Q.alloc ?_ _ | with_reducible refine Q.setCell ?_ (by simp) _))⟩
set_option maxHeartbeats 4000000 in
theorem mn_k (k : Int) (n : Int) (t : ByteArray) (b : Bool) (e : Int) (a1 : Option Addr) (l1 c1 : Nat) (a2 : Option Addr) (l2 c2 : Nat) (W : World) (hk : k < 1 ∨ 9 < k) : Calls Tryz.prog 108 #[.agg #[.int .i64 k, .int .i64 n, .string t, .bool b, .int .i64 e, .slice a1 l1 c1, .slice a2 l2 c2]] W fun e' W' => e' = .returned (.bool false) ∧ Q W W' := by
  have k1 : (k == 1) = false := by rw [beq_eq_false_iff_ne]; omega
  have k2 : (k == 2) = false := by rw [beq_eq_false_iff_ne]; omega
  have k3 : (k == 3) = false := by rw [beq_eq_false_iff_ne]; omega
  have k4 : (k == 4) = false := by rw [beq_eq_false_iff_ne]; omega
  have k5 : (k == 5) = false := by rw [beq_eq_false_iff_ne]; omega
  have k6 : (k == 6) = false := by rw [beq_eq_false_iff_ne]; omega
  have k7 : (k == 7) = false := by rw [beq_eq_false_iff_ne]; omega
  have k8 : (k == 8) = false := by rw [beq_eq_false_iff_ne]; omega
  have k9 : (k == 9) = false := by rw [beq_eq_false_iff_ne]; omega
  clear hk
  go_enter Tryz.func108, Tryz.ntmps108
  go_wp2_with fail
  go_region
  go_wp2_with fail
  go_ret
  exact ⟨rfl, (((Q.refl _).alloc _).alloc _).drew⟩
theorem idB_long (l : List UInt8) (h : 1000 < l.length) : idB l = false := by
  unfold idB
  apply decide_eq_false
  intro h0
  unfold ownK at h0
  split at h0
  · rename_i hp
    have ht : (Lib.trimPrefix l [99]).length + 1 = l.length := by
      unfold Lib.trimPrefix
      rw [if_pos hp, List.length_drop]
      simp
      omega
    generalize Lib.trimPrefix l [99] = m at *
    rcases cut_any 110 m with ⟨a, b, rfl, hn⟩ | hn
    · rw [cut_at 110 a b hn] at h0
      unfold ownP at h0
      simp only [List.length_append, List.length_cons] at ht
      split at h0
      · rename_i hc
        simp only [Bool.and_eq_true, true_and] at hc
        have h1 : ¬ 15 < a.length := fun g => by rw [numF_long a 15 g (by omega)] at hc; exact absurd hc.1 (by simp)
        have h2 : ¬ 15 < b.length := fun g => by rw [numF_long b 999999 g (by omega)] at hc; exact absurd hc.2 (by simp)
        omega
      · omega
    · rw [cut_free 110 m hn] at h0
      unfold ownP at h0
      simp at h0
  · omega
set_option maxHeartbeats 4000000 in
theorem pmayref_big (sh : ByteArray) (row col : Int) (ra ca : Bool) (w : World) (hw : Std w) (ht : ∀ W, Q w W → Lib.TabIs Tryz.prog W "internal/strconv.uint64pow10" .u64 Lib.pow10Tab) (hs : sh.size ≤ 2000000) :
    Calls Tryz.prog 119 #[rv sh row col ra ca] w fun e w' => e = .returned (.bool (mayR sh.data.toList row col)) ∧ Q w w' := by
  by_cases hz : sh.size ≤ 1000
  · exact pmayref_any sh row col ra ca w hw ht hz
  have hl : 1000 < sh.data.toList.length := by rw [len_data]; omega
  have hi := idB_long _ hl
  have he : sh.data.toList.isEmpty = false := by
    cases hh : sh.data.toList
    · rw [hh] at hl; simp at hl
    · rfl
  have hb : (sh.toList == []) = false := by
    rw [toL, beq_eq_false_iff_ne]
    intro hh
    rw [hh] at hl
    simp at hl
  have hm : mayR sh.data.toList row col = false := by
    unfold mayR
    rw [hi, he]
    rfl
  rw [hm]
  have HP := hid (fun W (q : Q w W) => print_no sh row col ra ca _ _ _ W (hid (fun V => mayline_any row V)) (hid (fun V => mayline_any col V)) (hid (fun V (q' : Q W V) => by have := id_any sh V ((hw.on q).on q') (by omega); rw [hi] at this; exact this)) (.inr (.inr ⟨hb, rfl⟩)))
  clear hw ht hi he hm hl hb hs hz
  go_enter Tryz.func119, Tryz.ntmps119
  go_wp2_with (go_at_call 130; refine (HP.out _ ((Q.refl _).alloc _)).mono ?_; rintro e w1 ⟨rfl, q1⟩; have Q1 : Hid (Q w w1) := hid (((Q.refl _).alloc _).trans q1); clear q1)
  go_ret
  exact ⟨rfl, Q1.out⟩
set_option maxHeartbeats 4000000 in
theorem pCount_any (x : Ex) (v : Value) (W : World) (hr : Rd W x v) : Calls Tryz.prog 106 #[v] W fun e W' => e = .returned (.int .i64 (min (nodes x) 201 : Nat)) ∧ Q W W' := by
  have HC := hid (fun W1 (q : Q W W1) => pcount_any _ x v W1 201 201 (Nat.le_refl _) rfl (by omega) (by omega) (Rd.on q _ _ hr))
  obtain ⟨k, m, t, bb, er, a1, l1, c1, a2, l2, c2, rfl⟩ := hr.shape
  generalize min (nodes x) 201 = d at HC ⊢
  clear hr
  go_enter Tryz.func106, Tryz.ntmps106
  go_wp2_with (go_at_call 118; refine (HC.out _ ((Q.refl _).alloc _)).mono ?_; rintro e w1 ⟨rfl, q1⟩; have Q1 : Hid (Q W w1) := hid (((Q.refl _).alloc _).trans q1); clear q1)
  go_ret
  exact ⟨rfl, Q1.out⟩
def fitB (x : Ex) : Bool := decide (nodes x ≤ 200) && shl 50 x
set_option maxHeartbeats 4000000 in
theorem fits_any (x : Ex) (v : Value) (W : World) (hr : Rd W x v) : Calls Tryz.prog 81 #[v] W fun e W' => e = .returned (.bool (fitB x)) ∧ Q W W' := by
  have HC := hid (fun W1 (q : Q W W1) => pCount_any x v W1 (Rd.on q _ _ hr))
  have HS := hid (fun W1 (q : Q W W1) => shallow_any 50 x v W1 50 rfl (by omega) (Rd.on q _ _ hr))
  obtain ⟨k, m, t, bb, er, a1, l1, c1, a2, l2, c2, rfl⟩ := hr.shape
  clear hr
  by_cases hn : nodes x ≤ 200
  · have HF : Hid (fitB x = shl 50 x) := by show _ = _; unfold fitB; rw [decide_eq_true hn, Bool.true_and]
    have c200 : ((min (nodes x) 201 : Nat) : Int) ≤ 200 := by omega
    generalize ((min (nodes x) 201 : Nat) : Int) = d at HC c200
    generalize fitB x = r at HF ⊢
    generalize shl 50 x = sh at HS HF
    go_enter Tryz.func81, Tryz.ntmps81
    go_wp2_with (first | (go_at_call 106; refine (HC.out _ ((Q.refl _).alloc _)).mono ?_; rintro e w1 ⟨rfl, q1⟩; have Q1 : Hid (Q W w1) := hid (((Q.refl _).alloc _).trans q1); have X1 := hid ((tb_new W (.int .i64 k) (.int .i64 m) (.string t) (.bool bb) (.int .i64 er) (.slice a1 l1 c1) (.slice a2 l2 c2) 40).on (p := W.heap.size + 1) (Qx.of q1) (by omega)); clear q1; have n0 := X1.out.g0; have n1 := X1.out.g1; have n2 := X1.out.g2; have n3 := X1.out.g3; have n4 := X1.out.g4; have n5 := X1.out.g5; have n6 := X1.out.g6) | (go_at_call 107; refine (HS.out _ Q1.out).mono ?_; rintro e w2 ⟨rfl, q2⟩; have Q2 := hid q2; clear q2))
    go_ret
    exact ⟨ret_bool HF.out.symm, Q1.out.trans Q2.out⟩
  · have HF : Hid (fitB x = false) := by show _ = _; unfold fitB; rw [decide_eq_false hn, Bool.false_and]
    have c200 : ¬ ((min (nodes x) 201 : Nat) : Int) ≤ 200 := by omega
    generalize ((min (nodes x) 201 : Nat) : Int) = d at HC c200
    generalize fitB x = r at HF ⊢
    go_enter Tryz.func81, Tryz.ntmps81
    go_wp2_with (go_at_call 106; refine (HC.out _ ((Q.refl _).alloc _)).mono ?_; rintro e w1 ⟨rfl, q1⟩; have Q1 : Hid (Q W w1) := hid (((Q.refl _).alloc _).trans q1); clear q1)
    go_ret
    exact ⟨ret_bool HF.out.symm, Q1.out⟩
structure V7 where
  c0 : Value
  c1 : Value
  c2 : Value
  c3 : Value
  c4 : Value
  c5 : Value
  c6 : Value
def enc7 (x : V7) : List Value := [x.c0, x.c1, x.c2, x.c3, x.c4, x.c5, x.c6]
def agg7 (x : V7) : Value := .agg #[x.c0, x.c1, x.c2, x.c3, x.c4, x.c5, x.c6]
theorem enc7_len (x : V7) : (enc7 x).length = 7 := rfl
theorem info28 : (Tryz.prog.info? 40).map (fun i => (i.zero, i.size, i.bytes)) = some (some (.agg #[.int .i64 0, .int .i64 0, .string ⟨#[]⟩, .bool false, .int .i64 0, .slice none 0 0, .slice none 0 0]), 7, 96) := by kernel_rfl
theorem Tb.put6 {W : World} {q : Nat} {c0 c1 c2 c3 c4 c5 c6 : Value} (h : Tb W q c0 c1 c2 c3 c4 c5 c6) (d : Value) : Tb (W.setCell ⟨q, 6, none⟩ d) q c0 c1 c2 c3 c4 c5 d := by
  obtain ⟨h0, h1, h2, h3, h4, h5, h6, hf⟩ := h
  refine ⟨?_, ?_, ?_, ?_, ?_, ?_, World.cell?_setCell_same _ _ _ h6, fun j => by rw [World.frozen?_setCell]; exact hf j⟩
  all_goals (rw [World.cell?_setCell_other _ _ _ _ (by simp)]; assumption)
theorem grown_qx {w w' : World} {v : Value} {n : Nat} (g : w.grownBy w' v.ownBlock) (hn : n ≤ w.heap.size) (ho : ∀ j, v.ownBlock = some j → n ≤ j) : ∃ r, Qx r w w' ∧ n ≤ r ∧ (v.ownBlock = some r ∨ r = w.heap.size) := by
  cases hv : v.ownBlock with
  | none =>
    rw [hv] at g
    exact ⟨w.heap.size, ⟨g.os, g.tape, g.output, g.size, fun i hi _ => g.block i hi (fun e => by cases e)⟩, hn, .inr rfl⟩
  | some j =>
    rw [hv] at g
    exact ⟨j, g, ho j hv, .inl rfl⟩
theorem rdl_row {g : Nat → Prop} {W : World} {B q : Nat} : ∀ (ks : List Ex) (Ls : List V7) (o : Nat), ks.length = Ls.length → (∀ i (h : i < Ls.length), Ats enc7 W q (o + i * 7) Ls[i]) → (∀ i (h : i < ks.length) (h' : i < Ls.length), Rdg g W ks[i] (agg7 Ls[i])) → Rdg.RdLg g W ks q o := by
  intro ks
  induction ks with
  | nil => intro Ls o _ _ _; unfold Rdg.RdLg; trivial
  | cons x xs ih =>
    intro Ls o hl ha hr
    cases Ls with
    | nil => simp at hl
    | cons y ys =>
      unfold Rdg.RdLg
      have h0 := ha 0 (by simp)
      simp only [List.getElem_cons_zero, Nat.zero_mul, Nat.add_zero] at h0
      refine ⟨⟨y.c0, y.c1, y.c2, y.c3, y.c4, y.c5, y.c6, h0 0 _ rfl, h0 1 _ rfl, h0 2 _ rfl, h0 3 _ rfl, h0 4 _ rfl, h0 5 _ rfl, h0 6 _ rfl, hr 0 (by simp) (by simp)⟩, ?_⟩
      refine ih ys (o + 7) (by simpa using hl) (fun i h => ?_) (fun i h h' => ?_)
      · have := ha (i + 1) (by simpa using h)
        simp only [List.getElem_cons_succ] at this
        rw [show o + 7 + i * 7 = o + (i + 1) * 7 by omega]
        exact this
      · exact hr (i + 1) (by simpa using h) (by simpa using h')
theorem rdg_call {g : Nat → Prop} {W : World} {B : Nat} {t : List UInt8} {T : ByteArray} (hT : T.data.toList = t) {ks : List Ex} {Ls : List V7} {kv : Value} (ow : Own enc7 40 7 B W kv Ls) (hl : ks.length = Ls.length) (hb : ∀ j, kv.ownBlock = some j → g j) (hr : ∀ i (h : i < ks.length) (h' : i < Ls.length), Rdg g W ks[i] (agg7 Ls[i])) :
    Rdg g W (callE t ks) (.agg #[.int .i64 9, .int .i64 0, .string T, .bool false, .int .i64 0, .slice none 0 0, kv]) := by
  have e : T = ⟨t.toArray⟩ := bytes_eq hT
  subst e
  unfold callE Rdg
  refine ⟨_, _, rfl, ⟨none, 0, rfl, Nat.le_refl _, Nat.zero_le _, fun h => absurd h (by simp)⟩, ?_⟩
  obtain ⟨ao, cap, hv, h1, h2⟩ := (ow.sl enc7_len (by omega)).len
  refine ⟨ao, cap, by rw [hl]; exact hv, by omega, h2, fun hn => ?_⟩
  have hpos : 0 < Ls.length := by rw [← hl]; exact List.length_pos_iff.2 hn
  obtain ⟨g', cap', hv', _, _, _, _⟩ := ow.shape hpos
  refine ⟨g', 0, ?_, hb g' (by rw [hv']; rfl), ?_, ?_⟩
  · rw [hv] at hv'
    simp only [Value.slice.injEq] at hv'
    exact hv'.1
  · obtain ⟨_, ho⟩ := ow
    rcases ho with ⟨hv0, _⟩ | ⟨g0, cap0, cur0, hv0, _, hg0, _⟩
    · rw [hv0] at hv'; cases hv'
    · rw [hv0] at hv'
      simp only [Value.slice.injEq, Option.some.injEq, Addr.mk.injEq] at hv'
      exact ⟨_, _, by rw [← hv'.1.1]; exact hg0⟩
  · rw [hv'] at ow
    exact rdl_row (B := B) ks Ls 0 hl (fun i h => by rw [Nat.zero_add]; exact ow.cell enc7_len h) hr
theorem one7 (k m : Int) (t : ByteArray) (bb : Bool) (er : Int) (a1 : Option Addr) (l1 c1 : Nat) (a2 : Option Addr) (l2 c2 : Nat) : ∀ u ∈ ([.int .i64 k, .int .i64 m, .string t, .bool bb, .int .i64 er, .slice a1 l1 c1, .slice a2 l2 c2] : List Value), u.oneCell' = true := by
  intro u hu
  simp at hu
  rcases hu with rfl | rfl | rfl | rfl | rfl | rfl | rfl <;> rfl
theorem Qx.via {p r : Nat} {a b c : World} (h : Qx p a b) (k : Qx r b c) (hr : a.heap.size ≤ r) : Qx p a c :=
  ⟨k.os.trans h.os, k.tape.trans h.tape, k.output.trans h.output, Nat.le_trans h.size k.size, fun i hi hp => (k.block i (Nat.lt_of_lt_of_le hi h.size) (fun e => by have := Option.some.inj e; omega)).trans (h.block i hi hp)⟩
theorem rd_zero (W : World) : Rd W zeroE (.agg #[.int .i64 0, .int .i64 0, .string ⟨#[]⟩, .bool false, .int .i64 0, .slice none 0 0, .slice none 0 0]) := Rdg.rd _ _ (rdg_zero (fun _ => True) W)
theorem bytes_of (s : ByteArray) : (⟨s.data.toList.toArray⟩ : ByteArray) = s := by
  apply ByteArray.ext
  simp
end Go.Proofs.YtcgddnliiondoaaGreatDoor
namespace Go.Proofs.YtcgddnliiondoaaGreatDoor
open Go.RowKit
set_option linter.unusedVariables false
set_option linter.unusedSimpArgs false
theorem cntL_stop {ks : List Ex} {n : Nat} (h : ¬ n ≤ 200) : cnt.cntL ks n = n := by
  cases ks with
  | nil => rw [cnt.cntL]
  | cons x xs => rw [cnt.cntL, if_neg h]
set_option maxHeartbeats 4000000 in
theorem count_any : ∀ (s : Nat) (x : Ex) (v : Value) (W : World) (N D : Int) (n0 : Nat), SizeOf.sizeOf x ≤ s → N = (n0 : Int) → n0 ≤ 200 → Rd W x v → Calls Tryz.prog 89 #[v, .int .i64 N, .int .i64 D] W fun e W' => e = .returned (.int .i64 (cnt x n0 : Int)) ∧ Q W W' := by
  intro s
  induction s with
  | zero =>
    intro x v W N D n0 hs hN hn hr
    cases x with
    | mk k n t b e rs ks => simp at hs
  | succ s ih =>
    intro x v W N D n0 hs hN hn hr
    obtain ⟨k, n, t, b, e, rs, ks, rv, kv, ao, cap, rfl, hp⟩ := hr.prt
    have HD : Hid (cnt x n0 = cnt.cntL ks (n0 + 1)) := hid (by rw [hp.ex, cnt])
    have IH := hid (fun (i : Nat) (h : i < ks.length) v W N D n0 => ih ks[i] v W N D n0 (by have := kid_size (k := k) (n := n) (t := t.data.toList) (b := b) (e := e) (rs := rs) i h; rw [← hp.ex] at this; omega))
    generalize cnt x n0 = d at HD ⊢
    have HX := hid (Bx.start W (.int .i64 k) (.int .i64 n) (.string t) (.bool b) (.int .i64 e) rv kv 40)
    have HP := hid hp
    obtain rfl := hp.kl
    have hroom : ks.length ≤ 9223372036854775807 := by have h1 := hp.le; have h2 := hp.mx; unfold maxLen at h2; omega
    have hN0 : 0 ≤ N := by omega
    have hN1 : N ≤ 200 := by omega
    have HNN := hid hN
    clear hp hr ih hs hN
    go_enter Tryz.func89, Tryz.ntmps89
    go_wp2
    go_loopw [1, 7] (fun y z W' => ∃ (i a : Nat), i ≤ ks.length ∧ y = .int .i64 (a : Int) ∧ z = .int .i64 (i : Int) ∧ a ≤ 201 ∧ Bx W W' (.int .i64 k) (.int .i64 n) (.string t) (.bool b) (.int .i64 e) rv (.slice ao ks.length cap) ∧ Hid (d = cnt.cntL (ks.drop i) a)) (fun _ z _ => ks.length - (intOf z).toNat)
    case atStart => exact ⟨0, n0 + 1, Nat.zero_le _, by rw [HNN.out]; rfl, rfl, by omega, HX.out, HD⟩
    case round =>
      obtain ⟨i, a, hi, rfl, rfl, ha, hX, hA⟩ := hrel
      have c6 := hX.g6
      have HX2 := hid hX
      by_cases hlt : i < ks.length
      · by_cases h200 : a ≤ 200
        · have hne : ks ≠ [] := by intro h; rw [h] at hlt; simp at hlt
          obtain ⟨b', off, rfl, hl⟩ := (HP.out.on hX.q).kd hne
          obtain ⟨e0, e1, e2, e3, e4, e5, e6, hK⟩ := hl.kid i hlt
          obtain ⟨h0, h1, h2, h3, h4, h5, h6, hrd⟩ := hK
          have HI := hid (fun D => IH.out i hlt _ _ (a : Int) D a rfl h200 hrd)
          have hdl := cnt_le ks[i] a h200
          have HA2 : Hid (d = cnt.cntL (ks.drop (i + 1)) (cnt ks[i] a)) := by
            show _ = _
            rw [hA.out, List.drop_eq_getElem_cons hlt, cnt.cntL, if_pos h200]
          generalize cnt ks[i] a = dd at HI hdl HA2
          clear hX hl hrd hA
          go_wp2_with (go_at_call 89; refine (HI.out _).mono ?_; rintro e9 w9 ⟨rfl, q9⟩; have HX3 := hid (HX2.out.on q9); clear q9)
          go_roundw
          case rel => exact ⟨i + 1, dd, by omega, rfl, by go_num, by omega, HX3.out, HA2⟩
          case measure => simp [intOf]; omega
        · have HA2 : Hid ((d : Int) = (a : Int)) := by show _ = _; rw [hA.out, cntL_stop h200]
          clear hX hA
          go_wp2_with fail
          go_ret
          exact ⟨ret_int HA2.out.symm, HX2.out.q⟩
      · have HA2 : Hid ((d : Int) = (a : Int)) := by
          show _ = _
          rw [hA.out, List.drop_of_length_le (by omega), cnt.cntL]
        clear hX hA
        go_wp2_with fail
        go_ret
        exact ⟨ret_int HA2.out.symm, HX2.out.q⟩
end Go.Proofs.YtcgddnliiondoaaGreatDoor
namespace Go.Proofs.YtcgddnliiondoaaGreatDoor
open Go.RowKit
set_option linter.unusedVariables false
set_option linter.unusedSimpArgs false
def far (p : Nat) (W : World) : Nat := match W.cell? ⟨p, 1, none⟩ with
  | some (.int _ i) => i.toNat
  | _ => 0
end Go.Proofs.YtcgddnliiondoaaGreatDoor
namespace Go.Proofs.YtcgddnliiondoaaGreatDoor
open Go.RowKit
set_option maxHeartbeats 4000000 in
theorem level_any (s : ByteArray) (W : World) : Calls Tryz.prog 90 #[.string s] W fun e W' => e = .returned (.int .i64 (lvl s.data.toList : Int)) ∧ W' = W := by
  have et := hid (toL s)
  by_cases h0 : s.data.toList = [61]
  · have f0 : (s.toList == [61]) = true := by rw [et.out, h0]; rfl
    have HR : Hid (lvl s.data.toList = 1) := by show _ = _; rw [h0]; rfl
    generalize lvl s.data.toList = r at HR ⊢
    clear et h0
    go_enter Tryz.func90, Tryz.ntmps90
    go_wp2
    go_ret
    exact ⟨ret_int (by rw [HR.out]; rfl), rfl⟩
  · have f0 : (s.toList == [61]) = false := by rw [et.out, beq_eq_false_iff_ne]; exact h0
    by_cases h1 : s.data.toList = [60, 62]
    · have f1 : (s.toList == [60, 62]) = true := by rw [et.out, h1]; rfl
      have HR : Hid (lvl s.data.toList = 1) := by show _ = _; rw [h1]; rfl
      generalize lvl s.data.toList = r at HR ⊢
      clear et h0 h1
      go_enter Tryz.func90, Tryz.ntmps90
      go_wp2
      go_ret
      exact ⟨ret_int (by rw [HR.out]; rfl), rfl⟩
    · have f1 : (s.toList == [60, 62]) = false := by rw [et.out, beq_eq_false_iff_ne]; exact h1
      by_cases h2 : s.data.toList = [60]
      · have f2 : (s.toList == [60]) = true := by rw [et.out, h2]; rfl
        have HR : Hid (lvl s.data.toList = 1) := by show _ = _; rw [h2]; rfl
        generalize lvl s.data.toList = r at HR ⊢
        clear et h0 h1 h2
        go_enter Tryz.func90, Tryz.ntmps90
        go_wp2
        go_ret
        exact ⟨ret_int (by rw [HR.out]; rfl), rfl⟩
      · have f2 : (s.toList == [60]) = false := by rw [et.out, beq_eq_false_iff_ne]; exact h2
        by_cases h3 : s.data.toList = [60, 61]
        · have f3 : (s.toList == [60, 61]) = true := by rw [et.out, h3]; rfl
          have HR : Hid (lvl s.data.toList = 1) := by show _ = _; rw [h3]; rfl
          generalize lvl s.data.toList = r at HR ⊢
          clear et h0 h1 h2 h3
          go_enter Tryz.func90, Tryz.ntmps90
          go_wp2
          go_ret
          exact ⟨ret_int (by rw [HR.out]; rfl), rfl⟩
        · have f3 : (s.toList == [60, 61]) = false := by rw [et.out, beq_eq_false_iff_ne]; exact h3
          by_cases h4 : s.data.toList = [62]
          · have f4 : (s.toList == [62]) = true := by rw [et.out, h4]; rfl
            have HR : Hid (lvl s.data.toList = 1) := by show _ = _; rw [h4]; rfl
            generalize lvl s.data.toList = r at HR ⊢
            clear et h0 h1 h2 h3 h4
            go_enter Tryz.func90, Tryz.ntmps90
            go_wp2
            go_ret
            exact ⟨ret_int (by rw [HR.out]; rfl), rfl⟩
          · have f4 : (s.toList == [62]) = false := by rw [et.out, beq_eq_false_iff_ne]; exact h4
            by_cases h5 : s.data.toList = [62, 61]
            · have f5 : (s.toList == [62, 61]) = true := by rw [et.out, h5]; rfl
              have HR : Hid (lvl s.data.toList = 1) := by show _ = _; rw [h5]; rfl
              generalize lvl s.data.toList = r at HR ⊢
              clear et h0 h1 h2 h3 h4 h5
              go_enter Tryz.func90, Tryz.ntmps90
              go_wp2
              go_ret
              exact ⟨ret_int (by rw [HR.out]; rfl), rfl⟩
            · have f5 : (s.toList == [62, 61]) = false := by rw [et.out, beq_eq_false_iff_ne]; exact h5
              by_cases h6 : s.data.toList = [38]
              · have f6 : (s.toList == [38]) = true := by rw [et.out, h6]; rfl
                have HR : Hid (lvl s.data.toList = 2) := by show _ = _; rw [h6]; rfl
                generalize lvl s.data.toList = r at HR ⊢
                clear et h0 h1 h2 h3 h4 h5 h6
                go_enter Tryz.func90, Tryz.ntmps90
                go_wp2
                go_ret
                exact ⟨ret_int (by rw [HR.out]; rfl), rfl⟩
              · have f6 : (s.toList == [38]) = false := by rw [et.out, beq_eq_false_iff_ne]; exact h6
                by_cases h7 : s.data.toList = [43]
                · have f7 : (s.toList == [43]) = true := by rw [et.out, h7]; rfl
                  have HR : Hid (lvl s.data.toList = 3) := by show _ = _; rw [h7]; rfl
                  generalize lvl s.data.toList = r at HR ⊢
                  clear et h0 h1 h2 h3 h4 h5 h6 h7
                  go_enter Tryz.func90, Tryz.ntmps90
                  go_wp2
                  go_ret
                  exact ⟨ret_int (by rw [HR.out]; rfl), rfl⟩
                · have f7 : (s.toList == [43]) = false := by rw [et.out, beq_eq_false_iff_ne]; exact h7
                  by_cases h8 : s.data.toList = [45]
                  · have f8 : (s.toList == [45]) = true := by rw [et.out, h8]; rfl
                    have HR : Hid (lvl s.data.toList = 3) := by show _ = _; rw [h8]; rfl
                    generalize lvl s.data.toList = r at HR ⊢
                    clear et h0 h1 h2 h3 h4 h5 h6 h7 h8
                    go_enter Tryz.func90, Tryz.ntmps90
                    go_wp2
                    go_ret
                    exact ⟨ret_int (by rw [HR.out]; rfl), rfl⟩
                  · have f8 : (s.toList == [45]) = false := by rw [et.out, beq_eq_false_iff_ne]; exact h8
                    by_cases h9 : s.data.toList = [42]
                    · have f9 : (s.toList == [42]) = true := by rw [et.out, h9]; rfl
                      have HR : Hid (lvl s.data.toList = 4) := by show _ = _; rw [h9]; rfl
                      generalize lvl s.data.toList = r at HR ⊢
                      clear et h0 h1 h2 h3 h4 h5 h6 h7 h8 h9
                      go_enter Tryz.func90, Tryz.ntmps90
                      go_wp2
                      go_ret
                      exact ⟨ret_int (by rw [HR.out]; rfl), rfl⟩
                    · have f9 : (s.toList == [42]) = false := by rw [et.out, beq_eq_false_iff_ne]; exact h9
                      by_cases h10 : s.data.toList = [47]
                      · have f10 : (s.toList == [47]) = true := by rw [et.out, h10]; rfl
                        have HR : Hid (lvl s.data.toList = 4) := by show _ = _; rw [h10]; rfl
                        generalize lvl s.data.toList = r at HR ⊢
                        clear et h0 h1 h2 h3 h4 h5 h6 h7 h8 h9 h10
                        go_enter Tryz.func90, Tryz.ntmps90
                        go_wp2
                        go_ret
                        exact ⟨ret_int (by rw [HR.out]; rfl), rfl⟩
                      · have f10 : (s.toList == [47]) = false := by rw [et.out, beq_eq_false_iff_ne]; exact h10
                        have HR : Hid (lvl s.data.toList = 0) := by show _ = _; unfold lvl; rw [if_neg h0, if_neg h1, if_neg h2, if_neg h3, if_neg h4, if_neg h5, if_neg h6, if_neg h7, if_neg h8, if_neg h9, if_neg h10]
                        generalize lvl s.data.toList = r at HR ⊢
                        clear et h0 h1 h2 h3 h4 h5 h6 h7 h8 h9 h10
                        go_enter Tryz.func90, Tryz.ntmps90
                        go_wp2
                        go_ret
                        exact ⟨ret_int (by rw [HR.out]; rfl), rfl⟩
end Go.Proofs.YtcgddnliiondoaaGreatDoor
