/- counterpaneref5.EqExpr: the same trees? Trees that lie outside a block; a world in which one block alone has turned; a reader of words. P.is, take, of the reference, walked. counterpaneref5.num: what it returns. counterpaneref5.Owner, Id: what each returns. counterpanelaw5.same, Short; counterpaneref5.MayRef; counterpaneref1.Dec: what each returns. a1.mayLine, sign; strings.Clone: what each returns. counterpaneref5.ColName: the letters of a column. a1.ColName: the letters of a column. DERIVED: THE SHELF's CONTRACTS AT THIS DUMP, IN PLAIN WORDS (tools/lay-plain.mjs out of 'TryzShb.lean', which tools/lay-shelf.mjs wrote): THE SAME DECLARATIONS UNDER THE SAME NAMES: 'import', 'namespace', 'open', 'def', 'theorem' AND NOTHING ELSE: no command of the shelf's: FOR A HAND-IN. Each laying: the table of numbers ('.._ren') and one theorem, a field a fact of the dump's own or the kernel's comparison; each contract: ONE APPLICATION. References as texts: what is printed. a1.Print, walked. a1.Print: what it returns. parse.bare, mayRef, walked. -/
import Derived.Test.YtgheopdadfnilaaDoorMa02
import Derived.Test.YtgheopdadfnilaaDoorMa00
import Derived.Lib.ItoaMem
import Derived.Shelf.Strconv.Itoa4
import Derived.Test.YtgheopdadfnilaaDoorProg
import Derived.Deep.RegionHeld3
import Derived.Deep.CutBlock
import Derived.Deep.CutRange
namespace Go.Proofs.YtgheopdadfnilaaDoor
open Go.RowKit
set_option linter.unusedVariables false
set_option linter.unusedSimpArgs false


theorem eqexpr_any : ∀ (s : Nat) (x y : Ex) (v v' : Value) (W : World), SizeOf.sizeOf x ≤ s → Rd W x v → Rd W y v' → Calls Tryd.prog 6 #[v, v'] W fun e W' => Ans (x = y) e ∧ Q W W' := by
  intro s
  induction s with
  | zero =>
    intro x y v v' W hs
    cases x with
    | mk k n t b e rs ks => simp at hs
  | succ s ih =>
    intro x y v v' W hs hx hy
    obtain ⟨k, n, t, b, e, rs, ks, rv, kv, ao, cap, rfl, hp⟩ := hx.prt
    obtain ⟨k', n', t', b', e', rs', ks', rv', kv', ao', cap', rfl, hp'⟩ := hy.prt
    obtain ⟨a1, c1, rfl, m1, m2⟩ := hp.rl.len
    obtain ⟨a3, c3, rfl, m3, m4⟩ := hp'.rl.len
    obtain rfl := hp.kl
    obtain rfl := hp'.kl
    have IH : ∀ i (hi : i < ks.length) z v v' W, Rd W ks[i] v → Rd W z v' → Calls Tryd.prog 6 #[v, v'] W fun x W' => Ans (ks[i] = z) x ∧ Q W W' := fun i hi z v v' W h h' => ih ks[i] z v v' W (by
      have := kid_size (k := k) (n := n) (t := t.data.toList) (b := b) (e := e) (rs := rs) i hi
      rw [← hp.ex] at this
      omega) h h'
    by_cases hh : k = k' ∧ n = n' ∧ t.data.toList = t'.data.toList ∧ b = b' ∧ e = e' ∧ rs.length = rs'.length ∧ ks.length = ks'.length
    · obtain ⟨rfl, rfl, ht, rfl, rfl, hl1, hl2⟩ := hh
      obtain rfl := str_eq ht
      have hroom1 : rs.length ≤ 9223372036854775807 := by unfold maxLen at m2; omega
      have hroom2 : ks.length ≤ 9223372036854775807 := by have h1 := hp.le; have h2 := hp.mx; unfold maxLen at h2; omega
      have hxy : x = y ↔ (rs = rs' ∧ ks = ks') := by rw [hp.ex, hp'.ex]; simp
      have key := eq_body k n t b e a1 rs.length c1 ao ks.length cap a3 c3 ao' cap' W rs rs' ks ks' (hid rfl) (hid hl1.symm) (hid rfl) (hid hl2.symm) hroom1 hroom2
        (hid fun i hi => by
          obtain ⟨b1, o1, c, hv, _, _, hc⟩ := hp.rl.rc (by omega)
          simp only [Value.slice.injEq] at hv
          exact ⟨b1, o1, hv.1, hc i hi⟩)
        (hid fun i hi => by
          obtain ⟨b1, o1, c, hv, _, _, hc⟩ := hp'.rl.rc (by omega)
          simp only [Value.slice.injEq] at hv
          exact ⟨b1, o1, hv.1, hc i hi⟩)
        (hid fun i hi W' q => by
          obtain ⟨b2, o2, ha, hl⟩ := (hp.on q).kd (by intro h; rw [h] at hi; simp at hi)
          obtain ⟨p0, p1, p2, p3, p4, p5, p6, hk⟩ := hl.kid i hi
          exact ⟨b2, o2, p0, p1, p2, p3, p4, p5, p6, ha, hk⟩)
        (hid fun i hi W' q => by
          obtain ⟨b2, o2, ha, hl⟩ := (hp'.on q).kd (by intro h; rw [h] at hi; simp at hi)
          obtain ⟨p0, p1, p2, p3, p4, p5, p6, hk⟩ := hl.kid i hi
          exact ⟨b2, o2, p0, p1, p2, p3, p4, p5, p6, ha, hk⟩)
        (hid fun i hi hi' v v' W' h h' => IH i hi _ v v' W' h h')
      rw [← hl1, ← hl2]
      refine key.mono fun x9 w9 h => ⟨?_, h.2⟩
      rw [hxy]
      exact h.1
    · have hne : x ≠ y := by
        rw [hp.ex, hp'.ex]
        intro h
        simp only [Ex.mk.injEq] at h
        obtain ⟨g1, g2, g3, g4, g5, g6, g7⟩ := h
        exact hh ⟨g1, g2, g3, g4, g5, by rw [g6], by rw [g7]⟩
      refine (eq_heads k n t b e a1 rs.length c1 ao ks.length cap k' n' t' b' e' a3 rs'.length c3 ao' ks'.length cap' W hh).mono ?_
      rintro x9 w9 ⟨rfl, q⟩
      exact ⟨Ans.no hne, q⟩
end Go.Proofs.YtgheopdadfnilaaDoor
namespace Go.Proofs.YtgheopdadfnilaaDoor
open Go.RowKit
set_option linter.unusedVariables false
set_option linter.unusedSimpArgs false


/-- all but the block p stands as it stood -/
abbrev Qx (p : Nat) (w w' : World) : Prop := World.grownBy w w' (some p)
theorem Qx.refl (p : Nat) (w : World) : Qx p w w := ⟨rfl, rfl, rfl, Nat.le_refl _, fun _ _ _ => rfl⟩
theorem Qx.trans {p : Nat} {a b c : World} (h : Qx p a b) (k : Qx p b c) : Qx p a c :=
  ⟨k.os.trans h.os, k.tape.trans h.tape, k.output.trans h.output, Nat.le_trans h.size k.size, fun i hi hp => (k.block i (Nat.lt_of_lt_of_le hi h.size) hp).trans (h.block i hi hp)⟩
theorem Qx.of {p : Nat} {a b : World} (h : Q a b) : Qx p a b := ⟨h.os, h.tape, h.output, h.size, fun i hi _ => Q.block h hi⟩
theorem Qx.alloc {p : Nat} {a w : World} (h : Qx p a w) (o : Obj) : Qx p a (w.alloc o) := h.trans (Qx.of ((Q.refl _).alloc o))
theorem Qx.drewN {p : Nat} {a w : World} (h : Qx p a w) (n : Nat) : Qx p a (w.drewN n) := h.trans (Qx.of ((Q.refl _).drewN n))
theorem Qx.drew {p : Nat} {a w : World} (h : Qx p a w) : Qx p a w.drew := h.trans (Qx.of (Q.refl _).drew)
theorem Qx.own {p : Nat} {a w : World} (h : Qx p a w) (k : Nat) (v : Value) : Qx p a (w.setCell ⟨p, k, none⟩ v) :=
  h.trans ⟨rfl, rfl, rfl, by simp [World.setCell], fun i hi hp => Below.heap_setCell _ _ _ _ (fun e => hp (by simp [e]))⟩
theorem Qx.new {p : Nat} {a w : World} (h : Qx p a w) {b : Nat} (hb : a.heap.size ≤ b) (k : Nat) (v : Value) : Qx p a (w.setCell ⟨b, k, none⟩ v) :=
  ⟨h.os, h.tape, h.output, by simpa [World.setCell] using h.size, fun i hi hp => (Below.heap_setCell _ _ _ _ (fun e => by simp at e; omega)).trans (h.block i hi hp)⟩
theorem Qx.cell {p : Nat} {a w : World} (h : Qx p a w) {b o : Nat} (hb : b < a.heap.size) (hp : b ≠ p) : w.cell? ⟨b, o, none⟩ = a.cell? ⟨b, o, none⟩ :=
  World.cell?_of_block (h.block b hb (fun e => hp (Option.some.inj e)))
theorem Qx.below {p : Nat} {a w : World} (h : Qx p a w) (hp : p ≤ a.heap.size) : Below p a w := ⟨h.os, h.tape, h.output, h.size, fun i hi => h.block i (by omega) (fun e => by have := Option.some.inj e; omega)⟩
/-- a slice that reads as these, in blocks that are allowed -/
def Slg (g : Nat → Prop) (W : World) (v : Value) (L : List Rf) : Prop :=
  ∃ (ao : Option Addr) (cap : Nat), v = .slice ao L.length cap ∧ L.length ≤ cap ∧ cap ≤ maxLen ∧ (0 < L.length → ∃ b off, ao = some ⟨b, off, none⟩ ∧ g b ∧ ∀ i (h : i < L.length), Ats rf W b (off + i * 5) L[i])
theorem Slg.sl {g : Nat → Prop} {W : World} {v : Value} {L : List Rf} (h : Slg g W v L) : Sl rf 5 W v L := by
  obtain ⟨ao, cap, hv, h1, h2, h3⟩ := h
  exact ⟨ao, cap, hv, h1, h2, fun hl => by obtain ⟨b, off, ha, _, hc⟩ := h3 hl; exact ⟨b, off, ha, hc⟩⟩
theorem Slg.on {g : Nat → Prop} {W W' : World} {v : Value} {L : List Rf} {p : Nat} (h : Slg g W v L) (q : Qx p W W') (hp : ∀ b, g b → b ≠ p) : Slg g W' v L := by
  obtain ⟨ao, cap, hv, h1, h2, h3⟩ := h
  refine ⟨ao, cap, hv, h1, h2, fun hl => ?_⟩
  obtain ⟨b, off, ha, hb, hc⟩ := h3 hl
  exact ⟨b, off, ha, hb, fun i hi j u hu => (q.cell (World.block_lt_of_cell? W ⟨b, off + i * 5 + j, none⟩ (hc i hi j u hu)) (hp _ hb)).trans (hc i hi j u hu)⟩
theorem Pl.onx {p : Nat} {W W' : World} {b : Nat} (h : Pl W b) (q : Qx p W W') (hp : b ≠ p) : Pl W' b := by
  have hb := h.lt
  obtain ⟨c, t, h⟩ := h
  exact ⟨c, t, (q.block b hb (fun e => hp (Option.some.inj e))).trans h⟩
/-- a value that reads as a tree, whose cells lie in blocks that are allowed -/
def Rdg (g : Nat → Prop) (W : World) : Ex → Value → Prop
  | .mk k n t b e rs ks, v => ∃ rv kv, v = .agg #[.int .i64 k, .int .i64 n, .string ⟨t.toArray⟩, .bool b, .int .i64 e, rv, kv] ∧ Slg g W rv rs ∧
      ∃ (ao : Option Addr) (cap : Nat), kv = .slice ao ks.length cap ∧ ks.length ≤ cap ∧ cap ≤ maxLen ∧ (ks ≠ [] → ∃ b' off, ao = some ⟨b', off, none⟩ ∧ g b' ∧ Pl W b' ∧ RdLg g W ks b' off)
  where
  RdLg (g : Nat → Prop) (W : World) : List Ex → Nat → Nat → Prop
  | [], _, _ => True
  | x :: xs, b, off => (∃ c0 c1 c2 c3 c4 c5 c6, W.cell? ⟨b, off, none⟩ = some c0 ∧ W.cell? ⟨b, off + 1, none⟩ = some c1 ∧ W.cell? ⟨b, off + 2, none⟩ = some c2 ∧ W.cell? ⟨b, off + 3, none⟩ = some c3 ∧ W.cell? ⟨b, off + 4, none⟩ = some c4 ∧ W.cell? ⟨b, off + 5, none⟩ = some c5 ∧ W.cell? ⟨b, off + 6, none⟩ = some c6 ∧ Rdg g W x (.agg #[c0, c1, c2, c3, c4, c5, c6])) ∧ RdLg g W xs b (off + 7)
theorem Rdg.on {g : Nat → Prop} {W W' : World} {p : Nat} (q : Qx p W W') (hp : ∀ b, g b → b ≠ p) : ∀ (x : Ex) (v : Value), Rdg g W x v → Rdg g W' x v
  | .mk k n t b e rs ks, v, h => by
    unfold Rdg at h ⊢
    obtain ⟨rv, kv, hv, hr, ao, cap, hk, h1, h2, h3⟩ := h
    refine ⟨rv, kv, hv, hr.on q hp, ao, cap, hk, h1, h2, fun hn => ?_⟩
    obtain ⟨b', off, ha, hb, hpl, hl⟩ := h3 hn
    exact ⟨b', off, ha, hb, hpl.onx q (hp _ hb), go q hp hb ks off hl⟩
  where
  go {g : Nat → Prop} {W W' : World} {p : Nat} (q : Qx p W W') (hp : ∀ b, g b → b ≠ p) {b : Nat} (hb : g b) : ∀ (l : List Ex) (off : Nat), Rdg.RdLg g W l b off → Rdg.RdLg g W' l b off
  | [], _, _ => by unfold Rdg.RdLg; trivial
  | x :: xs, off, h => by
    unfold Rdg.RdLg at h ⊢
    obtain ⟨⟨c0, c1, c2, c3, c4, c5, c6, g0, g1, g2, g3, g4, g5, g6, hx⟩, hr⟩ := h
    have ce : ∀ {o : Nat} {c : Value}, W.cell? ⟨b, o, none⟩ = some c → W'.cell? ⟨b, o, none⟩ = some c := fun h => (q.cell (World.block_lt_of_cell? W ⟨b, _, none⟩ h) (hp _ hb)).trans h
    exact ⟨⟨c0, c1, c2, c3, c4, c5, c6, ce g0, ce g1, ce g2, ce g3, ce g4, ce g5, ce g6, Rdg.on q hp x _ hx⟩, go q hp hb xs (off + 7) hr⟩
theorem Rdg.RdLg.on {g : Nat → Prop} {W W' : World} {p : Nat} (q : Qx p W W') (hp : ∀ b, g b → b ≠ p) {b : Nat} (hb : g b) : ∀ (l : List Ex) (off : Nat), Rdg.RdLg g W l b off → Rdg.RdLg g W' l b off := Rdg.on.go q hp hb
theorem Rdg.rd {g : Nat → Prop} {W : World} : ∀ (x : Ex) (v : Value), Rdg g W x v → Rd W x v
  | .mk k n t b e rs ks, v, h => by
    unfold Rdg at h
    unfold Rd
    obtain ⟨rv, kv, hv, hr, ao, cap, hk, h1, h2, h3⟩ := h
    refine ⟨rv, kv, hv, hr.sl, ao, cap, hk, h1, h2, fun hn => ?_⟩
    obtain ⟨b', off, ha, hb, hpl, hl⟩ := h3 hn
    exact ⟨b', off, ha, hpl, go ks b' off hl⟩
  where
  go {g : Nat → Prop} {W : World} : ∀ (l : List Ex) (b off : Nat), Rdg.RdLg g W l b off → Rd.RdL W l b off
  | [], _, _, _ => by unfold Rd.RdL; trivial
  | x :: xs, b, off, h => by
    unfold Rdg.RdLg at h
    unfold Rd.RdL
    obtain ⟨⟨c0, c1, c2, c3, c4, c5, c6, g0, g1, g2, g3, g4, g5, g6, hx⟩, hr⟩ := h
    exact ⟨⟨c0, c1, c2, c3, c4, c5, c6, g0, g1, g2, g3, g4, g5, g6, Rdg.rd x _ hx⟩, go xs b (off + 7) hr⟩
theorem Rdg.RdLg.rd {g : Nat → Prop} {W : World} : ∀ (l : List Ex) (b off : Nat), Rdg.RdLg g W l b off → Rd.RdL W l b off := Rdg.rd.go

theorem Slg.mono {g g' : Nat → Prop} {W : World} {v : Value} {L : List Rf} (h : Slg g W v L) (hl : ∀ b, g b → g' b) : Slg g' W v L := by
  obtain ⟨ao, cap, hv, h1, h2, h3⟩ := h
  exact ⟨ao, cap, hv, h1, h2, fun hn => by obtain ⟨b, off, ha, hb, hc⟩ := h3 hn; exact ⟨b, off, ha, hl _ hb, hc⟩⟩
theorem Rdg.mono {g g' : Nat → Prop} {W : World} (hl : ∀ b, g b → g' b) : ∀ (x : Ex) (v : Value), Rdg g W x v → Rdg g' W x v
  | .mk k n t b e rs ks, v, h => by
    unfold Rdg at h ⊢
    obtain ⟨rv, kv, hv, hr, ao, cap, hk, h1, h2, h3⟩ := h
    refine ⟨rv, kv, hv, hr.mono hl, ao, cap, hk, h1, h2, fun hn => ?_⟩
    obtain ⟨b', off, ha, hb, hpl, hm⟩ := h3 hn
    exact ⟨b', off, ha, hl _ hb, hpl, go hl ks b' off hm⟩
  where
  go {g g' : Nat → Prop} {W : World} (hl : ∀ b, g b → g' b) : ∀ (l : List Ex) (b off : Nat), Rdg.RdLg g W l b off → Rdg.RdLg g' W l b off
  | [], _, _, _ => by unfold Rdg.RdLg; trivial
  | x :: xs, b, off, h => by
    unfold Rdg.RdLg at h ⊢
    obtain ⟨⟨c0, c1, c2, c3, c4, c5, c6, g0, g1, g2, g3, g4, g5, g6, hx⟩, hr⟩ := h
    exact ⟨⟨c0, c1, c2, c3, c4, c5, c6, g0, g1, g2, g3, g4, g5, g6, Rdg.mono hl x _ hx⟩, go hl xs b (off + 7) hr⟩
theorem Rdg.RdLg.mono {g g' : Nat → Prop} {W : World} (hl : ∀ b, g b → g' b) : ∀ (l : List Ex) (b off : Nat), Rdg.RdLg g W l b off → Rdg.RdLg g' W l b off := Rdg.mono.go hl
def zeroV : Value := .agg #[.int .i64 0, .int .i64 0, .string ⟨#[]⟩, .bool false, .int .i64 0, .slice none 0 0, .slice none 0 0]
theorem rdg_zero (g : Nat → Prop) (W : World) : Rdg g W zeroE zeroV := by
  unfold zeroE Rdg
  exact ⟨_, _, rfl, ⟨none, 0, rfl, Nat.le_refl _, Nat.zero_le _, fun h => absurd h (by simp)⟩, none, 0, rfl, Nat.le_refl _, Nat.zero_le _, fun h => absurd rfl h⟩
theorem Slg.in {g : Nat → Prop} {W : World} {v : Value} {L : List Rf} (h : Slg g W v L) : Slg (fun b => g b ∧ b < W.heap.size) W v L := by
  obtain ⟨ao, cap, hv, h1, h2, h3⟩ := h
  refine ⟨ao, cap, hv, h1, h2, fun hl => ?_⟩
  obtain ⟨b, off, ha, hb, hc⟩ := h3 hl
  exact ⟨b, off, ha, ⟨hb, World.block_lt_of_cell? W ⟨b, off + 0 * 5 + 0, none⟩ (hc 0 hl 0 _ rfl)⟩, hc⟩
/-- the cells lie in the world -/
theorem Rdg.in {g : Nat → Prop} {W : World} : ∀ (x : Ex) (v : Value), Rdg g W x v → Rdg (fun b => g b ∧ b < W.heap.size) W x v
  | .mk k n t b e rs ks, v, h => by
    unfold Rdg at h ⊢
    obtain ⟨rv, kv, hv, hr, ao, cap, hk, h1, h2, h3⟩ := h
    refine ⟨rv, kv, hv, hr.in, ao, cap, hk, h1, h2, fun hn => ?_⟩
    obtain ⟨b', off, ha, hb, hpl, hm⟩ := h3 hn
    refine ⟨b', off, ha, ⟨hb, ?_⟩, hpl, go ks b' off hm⟩
    cases ks with
    | nil => exact absurd rfl hn
    | cons y ys =>
      unfold Rdg.RdLg at hm
      obtain ⟨⟨c0, c1, c2, c3, c4, c5, c6, g0, _⟩, _⟩ := hm
      exact World.block_lt_of_cell? W ⟨b', off, none⟩ g0
  where
  go {g : Nat → Prop} {W : World} : ∀ (l : List Ex) (b off : Nat), Rdg.RdLg g W l b off → Rdg.RdLg (fun b => g b ∧ b < W.heap.size) W l b off
  | [], _, _, _ => by unfold Rdg.RdLg; trivial
  | x :: xs, b, off, h => by
    unfold Rdg.RdLg at h ⊢
    obtain ⟨⟨c0, c1, c2, c3, c4, c5, c6, g0, g1, g2, g3, g4, g5, g6, hx⟩, hr⟩ := h
    exact ⟨⟨c0, c1, c2, c3, c4, c5, c6, g0, g1, g2, g3, g4, g5, g6, Rdg.in x _ hx⟩, go xs b (off + 7) hr⟩
theorem Rdg.RdLg.in {g : Nat → Prop} {W : World} : ∀ (l : List Ex) (b off : Nat), Rdg.RdLg g W l b off → Rdg.RdLg (fun b => g b ∧ b < W.heap.size) W l b off := Rdg.in.go
/-- a slice of words as the walks want it -/
structure Sv (W : World) (L : List Wd) (v : Value) (b off cap : Nat) : Prop where
  ev : v = .slice (some ⟨b, off, none⟩) L.length cap
  le : L.length ≤ cap
  mx : cap ≤ maxLen
  k : ∀ i (h : i < L.length), W.cell? ⟨b, off + i * 3, none⟩ = some (.int .i64 (L[i].k : Int))
  t : ∀ i (h : i < L.length), W.cell? ⟨b, off + i * 3 + 1, none⟩ = some (.string ⟨L[i].t.toArray⟩)
  p : ∀ i (h : i < L.length), W.cell? ⟨b, off + i * 3 + 2, none⟩ = some (.int .i64 (L[i].p : Int))
/-- where a reader of words stands -/
structure PS (W : World) (p : Nat) (L : List Wd) (b off cap : Nat) (i : Nat) (bd : Bool) (n : Nat) : Prop where
  c0 : W.cell? ⟨p, 0, none⟩ = some (.slice (some ⟨b, off, none⟩) L.length cap)
  c1 : W.cell? ⟨p, 1, none⟩ = some (.int .i64 (i : Int))
  c2 : W.cell? ⟨p, 2, none⟩ = some (.bool bd)
  c3 : W.cell? ⟨p, 3, none⟩ = some (.int .i64 (n : Int))
  f1 : W.frozen? ⟨p, 1, none⟩ = false
  f2 : W.frozen? ⟨p, 2, none⟩ = false
  f3 : W.frozen? ⟨p, 3, none⟩ = false
  sw : Sv W L (.slice (some ⟨b, off, none⟩) L.length cap) b off cap
  ne : b ≠ p
theorem Sv.on {W W' : World} {p : Nat} {L : List Wd} {v : Value} {b off cap : Nat} (h : Sv W L v b off cap) (q : Qx p W W') (hb : b ≠ p) : Sv W' L v b off cap :=
  ⟨h.ev, h.le, h.mx, fun i hi => (q.cell (World.block_lt_of_cell? W ⟨b, off + i * 3, none⟩ (h.k i hi)) hb).trans (h.k i hi),
    fun i hi => (q.cell (World.block_lt_of_cell? W ⟨b, off + i * 3 + 1, none⟩ (h.t i hi)) hb).trans (h.t i hi),
    fun i hi => (q.cell (World.block_lt_of_cell? W ⟨b, off + i * 3 + 2, none⟩ (h.p i hi)) hb).trans (h.p i hi)⟩
theorem PS.lt {W : World} {p : Nat} {L : List Wd} {b off cap i : Nat} {bd : Bool} {n : Nat} (h : PS W p L b off cap i bd n) : p < W.heap.size := World.block_lt_of_cell? W ⟨p, 0, none⟩ h.c0
theorem PS.on {W W' : World} {p : Nat} {L : List Wd} {b off cap i : Nat} {bd : Bool} {n : Nat} (h : PS W p L b off cap i bd n) (q : Q W W') : PS W' p L b off cap i bd n :=
  ⟨(q.cell h.lt).trans h.c0, (q.cell h.lt).trans h.c1, (q.cell h.lt).trans h.c2, (q.cell h.lt).trans h.c3,
    (Below.frozen q (p := ⟨p, 1, none⟩) h.lt).trans h.f1, (Below.frozen q (p := ⟨p, 2, none⟩) h.lt).trans h.f2, (Below.frozen q (p := ⟨p, 3, none⟩) h.lt).trans h.f3, h.sw.on (Qx.of q) h.ne, h.ne⟩
theorem PS.onx {W W' : World} {p r : Nat} {L : List Wd} {b off cap i : Nat} {bd : Bool} {n : Nat} (h : PS W p L b off cap i bd n) (q : Qx r W W') (hp : p ≠ r) (hb : b ≠ r) : PS W' p L b off cap i bd n :=
  ⟨(q.cell h.lt hp).trans h.c0, (q.cell h.lt hp).trans h.c1, (q.cell h.lt hp).trans h.c2, (q.cell h.lt hp).trans h.c3,
    (World.frozen?_of_block (a := ⟨p, 1, none⟩) (q.block p h.lt (fun e => hp (Option.some.inj e)))).trans h.f1, (World.frozen?_of_block (a := ⟨p, 2, none⟩) (q.block p h.lt (fun e => hp (Option.some.inj e)))).trans h.f2, (World.frozen?_of_block (a := ⟨p, 3, none⟩) (q.block p h.lt (fun e => hp (Option.some.inj e)))).trans h.f3,
    ⟨h.sw.ev, h.sw.le, h.sw.mx, fun i hi => (q.cell (World.block_lt_of_cell? W ⟨b, off + i * 3, none⟩ (h.sw.k i hi)) hb).trans (h.sw.k i hi), fun i hi => (q.cell (World.block_lt_of_cell? W ⟨b, off + i * 3 + 1, none⟩ (h.sw.t i hi)) hb).trans (h.sw.t i hi), fun i hi => (q.cell (World.block_lt_of_cell? W ⟨b, off + i * 3 + 2, none⟩ (h.sw.p i hi)) hb).trans (h.sw.p i hi)⟩, h.ne⟩
theorem PS.set1 {W : World} {p : Nat} {L : List Wd} {b off cap i : Nat} {bd : Bool} {n : Nat} (h : PS W p L b off cap i bd n) (i' : Nat) (I : Int) (hI : I = (i' : Int)) : PS (W.setCell ⟨p, 1, none⟩ (.int .i64 I)) p L b off cap i' bd n := by
  subst hI
  refine ⟨?_, World.cell?_setCell_same _ _ _ h.c1, ?_, ?_, ?_, ?_, ?_, h.sw.on ((Qx.refl p _).own _ _) h.ne, h.ne⟩
  · rw [World.cell?_setCell_other _ _ _ _ (by simp)]; exact h.c0
  · rw [World.cell?_setCell_other _ _ _ _ (by simp)]; exact h.c2
  · rw [World.cell?_setCell_other _ _ _ _ (by simp)]; exact h.c3
  · rw [World.frozen?_setCell]; exact h.f1
  · rw [World.frozen?_setCell]; exact h.f2
  · rw [World.frozen?_setCell]; exact h.f3
theorem PS.set2 {W : World} {p : Nat} {L : List Wd} {b off cap i : Nat} {bd : Bool} {n : Nat} (h : PS W p L b off cap i bd n) (bd' : Bool) : PS (W.setCell ⟨p, 2, none⟩ (.bool bd')) p L b off cap i bd' n := by
  refine ⟨?_, ?_, World.cell?_setCell_same _ _ _ h.c2, ?_, ?_, ?_, ?_, h.sw.on ((Qx.refl p _).own _ _) h.ne, h.ne⟩
  · rw [World.cell?_setCell_other _ _ _ _ (by simp)]; exact h.c0
  · rw [World.cell?_setCell_other _ _ _ _ (by simp)]; exact h.c1
  · rw [World.cell?_setCell_other _ _ _ _ (by simp)]; exact h.c3
  · rw [World.frozen?_setCell]; exact h.f1
  · rw [World.frozen?_setCell]; exact h.f2
  · rw [World.frozen?_setCell]; exact h.f3
theorem PS.set3 {W : World} {p : Nat} {L : List Wd} {b off cap i : Nat} {bd : Bool} {n : Nat} (h : PS W p L b off cap i bd n) (n' : Nat) (N : Int) (hN : N = (n' : Int)) : PS (W.setCell ⟨p, 3, none⟩ (.int .i64 N)) p L b off cap i bd n' := by
  subst hN
  refine ⟨?_, ?_, ?_, World.cell?_setCell_same _ _ _ h.c3, ?_, ?_, ?_, h.sw.on ((Qx.refl p _).own _ _) h.ne, h.ne⟩
  · rw [World.cell?_setCell_other _ _ _ _ (by simp)]; exact h.c0
  · rw [World.cell?_setCell_other _ _ _ _ (by simp)]; exact h.c1
  · rw [World.cell?_setCell_other _ _ _ _ (by simp)]; exact h.c2
  · rw [World.frozen?_setCell]; exact h.f1
  · rw [World.frozen?_setCell]; exact h.f2
  · rw [World.frozen?_setCell]; exact h.f3
end Go.Proofs.YtgheopdadfnilaaDoor
namespace Go.Proofs.YtgheopdadfnilaaDoor
open Go.RowKit
set_option linter.unusedVariables false
set_option linter.unusedSimpArgs false


theorem toL (s : ByteArray) : s.toList = s.data.toList := Lib.toList_data s

end Go.Proofs.YtgheopdadfnilaaDoor
namespace Go.Proofs.YtgheopdadfnilaaDoor
open Go.RowKit
set_option linter.unusedVariables false
set_option linter.unusedSimpArgs false

theorem val_lt (l : List UInt8) (h : allD l = true) : val l + 1 ≤ 10 ^ l.length := by
  revert h
  refine rev_ind (P := fun l => allD l = true → val l + 1 ≤ 10 ^ l.length) (fun _ => by simp [val]) ?_ l
  · intro l c ih h
    rw [allD_app, Bool.and_eq_true] at h
    have h1 := ih h.1
    have h2 := allD_mem h.2 (c := c) (by simp)
    rw [val_snoc, List.length_append, List.length_singleton, Nat.pow_succ]
    omega
theorem val_fifteen (l : List UInt8) (h : allD l = true) (h9 : l.length ≤ 15) : val l ≤ 999999999999999 := by
  have h1 := val_lt l h
  have h2 : 10 ^ l.length ≤ 10 ^ 15 := Nat.pow_le_pow_right (by omega) h9
  omega

end Go.Proofs.YtgheopdadfnilaaDoor
namespace Go.Proofs.YtgheopdadfnilaaDoor
open Go.RowKit
set_option linter.unusedVariables false
set_option linter.unusedSimpArgs false

theorem own_none0 {s : ByteArray} (h : s.size = 0 ∨ ∃ h : 0 < s.size, s[0] ≠ 99) : ownK s.data.toList = -1 := by
  unfold ownK
  rw [if_neg]
  unfold Lib.hasPrefix
  rcases h with h | ⟨h, h0⟩
  · rw [show s.data.toList = [] from List.eq_nil_of_length_eq_zero (by rw [len_data]; exact h)]
    simp
  · have e := drop_cons s 0 h
    rw [List.drop_zero] at e
    rw [e]
    simp [Ne.symm h0]
/-- an id's text: c and the rest -/
theorem own_c {s : ByteArray} (h : 0 < s.size) (h0 : s[0] = 99) : ownK s.data.toList = ownP (Lib.cut (s.data.toList.drop 1) [110]) := by
  have e := drop_cons s 0 h
  rw [List.drop_zero, h0] at e
  have hp : Lib.hasPrefix s.data.toList [99] = true := by rw [e]; unfold Lib.hasPrefix; simp
  unfold ownK
  rw [if_pos hp]
  unfold Lib.trimPrefix
  rw [if_pos hp]
  rfl
theorem ownP_R (a b : List UInt8) : ownP (a, b, true) = if numR b 999999 < 0 then -1 else numR a 15 := by
  unfold ownP numR
  cases numF a 15 <;> cases numF b 999999 <;> simp <;> omega

end Go.Proofs.YtgheopdadfnilaaDoor
namespace Go.Proofs.YtgheopdadfnilaaDoor
open Go.RowKit
set_option linter.unusedVariables false
set_option linter.unusedSimpArgs false

/-- a reference, as the program holds it -/
abbrev rv (sh : ByteArray) (row col : Int) (ra ca : Bool) : Value := .agg #[.string sh, .int .i64 row, .int .i64 col, .bool ra, .bool ca]
/-- may a reference be? -/
def mayR (sh : List UInt8) (row col : Int) : Bool := (sh.isEmpty || idB sh) && (decide (0 ≤ row ∧ row < 2199023255552) && decide (0 ≤ col ∧ col < 2199023255552))
end Go.Proofs.YtgheopdadfnilaaDoor
namespace Go.Proofs.YtgheopdadfnilaaDoor
open Go.RowKit
set_option linter.unusedVariables false
set_option linter.unusedSimpArgs false

theorem mayline_any (n : Int) (w : World) :
    Calls Tryd.prog 66 #[.int .i64 n] w fun e w' => e = .returned (.bool (decide (0 ≤ n ∧ n < 2199023255552))) ∧ w' = w := by
  by_cases h0 : 0 ≤ n
  · by_cases h1 : n < 2199023255552
    · have hd := hid (decide_eq_true (show 0 ≤ n ∧ n < 2199023255552 from ⟨h0, h1⟩))
      go_enter Tryd.func66, Tryd.ntmps66
      go_wp2
      go_ret
      exact ⟨ret_bool hd.out.symm, rfl⟩
    · have hd := hid (decide_eq_false (show ¬ (0 ≤ n ∧ n < 2199023255552) from fun h => h1 h.2))
      go_enter Tryd.func66, Tryd.ntmps66
      go_wp2
      go_ret
      exact ⟨ret_bool (by simp; omega), rfl⟩
  · have hd := hid (decide_eq_false (show ¬ (0 ≤ n ∧ n < 2199023255552) from fun h => h0 h.1))
    go_enter Tryd.func66, Tryd.ntmps66
    go_wp2
    go_ret
    exact ⟨ret_bool (by simp; omega), rfl⟩

/-- the sign of a line that stays -/
def sgS (b : Bool) : List UInt8 := if b then [36] else []
theorem asign_any (b : Bool) (w : World) :
    Calls Tryd.prog 68 #[.bool b] w fun e w' => e = .returned (.string ⟨(sgS b).toArray⟩) ∧ w' = w := by
  cases b
  · go_enter Tryd.func68, Tryd.ntmps68
    go_wp2
    go_ret
    exact ⟨rfl, rfl⟩
  · go_enter Tryd.func68, Tryd.ntmps68
    go_wp2
    go_ret
    exact ⟨rfl, rfl⟩

/-- the name of a column; none: empty -/
def cnL (n : Int) : List UInt8 := if 0 ≤ n ∧ n < 2199023255552 then nmL (n + 1).toNat else []
end Go.Proofs.YtgheopdadfnilaaDoor
namespace Go.Proofs.YtgheopdadfnilaaDoor
open Go.RowKit
set_option linter.unusedVariables false
set_option linter.unusedSimpArgs false

theorem nm_nat (m : Nat) : ((UInt8.ofNat (65 + m % 26)).toNat : Int) = 65 + (m : Int) % 26 := by
  rw [nm_byte]
  omega
/-- what the loop has so far -/
def NI (N m : Nat) (l : List UInt8) : Prop := nmL m ++ l = nmL N
theorem NI.next {N m : Nat} {l : List UInt8} (h : NI N (m + 1) l) : NI N (m / 26) (UInt8.ofNat (65 + m % 26) :: l) := by
  unfold NI at *
  rw [nm_succ] at h
  rw [← h]
  simp
theorem NI.len {N m : Nat} {l : List UInt8} (h : NI N m l) (hN : N ≤ 2199023255552) : (nmL m).length + l.length ≤ 9 := by
  have h1 := nm_nine N hN
  rw [← h, List.length_append] at h1
  exact h1
end Go.Proofs.YtgheopdadfnilaaDoor
namespace Go.Proofs.YtgheopdadfnilaaDoor
open Go.RowKit
set_option linter.unusedVariables false
set_option linter.unusedSimpArgs false

/-- nine bytes of one block, the last of which are l -/
structure RM (W : World) (B : Nat) (l : List UInt8) : Prop where
  cells : ∀ o : Nat, o < 9 → ∃ v, W.cell? ⟨B, o, none⟩ = some (.int .u8 v)
  tail : ∀ j (h : j < l.length), W.cell? ⟨B, 9 - l.length + j, none⟩ = some (.int .u8 (l[j].toNat : Int))
  free : ∀ o : Nat, o < 9 → W.frozen? ⟨B, o, none⟩ = false
  big : B < W.heap.size
theorem RM.set {W : World} {B k : Nat} {l : List UInt8} (h : RM W B l) (hk : k + l.length = 8) (c : UInt8) : RM (W.setCell ⟨B, k, none⟩ (.int .u8 (c.toNat : Int))) B (c :: l) := by
  refine ⟨fun o ho => ?_, fun j hj => ?_, fun o ho => ?_, ?_⟩
  · by_cases e : o = k
    · subst e
      obtain ⟨v, hv⟩ := h.cells o ho
      exact ⟨_, World.cell?_setCell_same _ _ _ hv⟩
    · rw [World.cell?_setCell_other _ _ _ _ (by simp [Ne.symm e])]
      exact h.cells o ho
  · have e9 : 9 - (c :: l).length = k := by rw [List.length_cons]; omega
    rw [e9]
    match j, hj with
    | 0, _ =>
      obtain ⟨v, hv⟩ := h.cells k (by omega)
      exact World.cell?_setCell_same _ _ _ hv
    | j + 1, hj =>
      rw [World.cell?_setCell_other _ _ _ _ (by simp)]
      have h1 := h.tail j (by simpa using hj)
      rw [show 9 - l.length + j = k + (j + 1) by omega] at h1
      exact h1
  · rw [World.frozen?_setCell]; exact h.free o ho
  · rw [World.size_setCell]; exact h.big
theorem RM.start (w : World) : RM (w.alloc (.cells #[.int .u8 0, .int .u8 0, .int .u8 0, .int .u8 0, .int .u8 0, .int .u8 0, .int .u8 0, .int .u8 0, .int .u8 0] 123)) w.heap.size [] := by
  refine ⟨fun o ho => ⟨0, ?_⟩, fun j hj => absurd hj (by simp), fun o ho => World.frozen?_alloc_new _ _ _ _, by rw [World.size_alloc]; omega⟩
  rw [World.cell?_alloc_new]
  rcases (by omega : o = 0 ∨ o = 1 ∨ o = 2 ∨ o = 3 ∨ o = 4 ∨ o = 5 ∨ o = 6 ∨ o = 7 ∨ o = 8) with rfl | rfl | rfl | rfl | rfl | rfl | rfl | rfl | rfl <;> rfl

set_option maxHeartbeats 1000000 in
theorem name_yes (n : Int) (N : Nat) (w : World) (hN : Hid (n + 1 = (N : Int))) (n0 : 0 ≤ n) (n1 : n < 2199023255552) :
    Calls Tryd.prog 69 #[.int .i64 n] w fun e w' => e = .returned (.string ⟨(nmL N).toArray⟩) ∧ Q w w' := by
  have HM := hid (fun W => mayline_any n W)
  rw [show decide (0 ≤ n ∧ n < 2199023255552) = true from decide_eq_true ⟨n0, n1⟩] at HM
  have hal : Tryd.prog.arrayLen 123 = 9 := by kernel_rfl
  have HS := hid (RM.start w)
  go_enter Tryd.func69, Tryd.ntmps69
  go_wp2_with (go_at_call 66; refine (HM.out _).mono ?_; rintro e w1 ⟨rfl, rfl⟩)
  go_loopw [0, 4] (fun a b W => ∃ (x : Int) (m k : Nat) (l : List UInt8), a = .int .i64 x ∧ b = .int .i64 (k : Int) ∧ k + l.length = 9 ∧ Hid (x = (m : Int)) ∧ 0 ≤ x ∧ x ≤ 2199023255552 ∧ NI N m l ∧ RM W w1.heap.size l ∧ Q w1 W) (fun a b _ => (intOf a).toNat)
  case atStart => exact ⟨n + 1, N, 9, [], rfl, rfl, rfl, hN, by omega, by omega, List.append_nil _, HS.out, (Q.refl _).alloc _⟩
  case round =>
    obtain ⟨x, m, k, l, rfl, rfl, hk, hx, x0, x1, di, hr, hq⟩ := hrel
    have hl20 := di.len (by have := hN.out; omega)
    have HD := hid di
    have HR := hid hr
    have HQ := hid hq
    clear di hr hq
    by_cases hp : 0 < x
    · obtain ⟨p, rfl⟩ : ∃ p, m = p + 1 := ⟨m - 1, by have := hx.out; omega⟩
      have hne : 0 < (nmL (p + 1)).length := List.length_pos_iff.2 (nm_ne _ (by omega))
      obtain ⟨k, rfl⟩ : ∃ k', k = k' + 1 := ⟨k - 1, by omega⟩
      have HN := hid (HD.out.next)
      have hc : ((UInt8.ofNat (65 + p % 26)).toNat : Int) = 65 + (x - 1) % 26 := by rw [nm_nat p, hx.out]; omega
      obtain ⟨c, ec⟩ : ∃ c, c = UInt8.ofNat (65 + p % 26) := ⟨_, rfl⟩
      rw [← ec] at HN hc
      have hx' : Hid ((x - 1) / 26 = ((p / 26 : Nat) : Int)) := by show _ = _; rw [hx.out]; omega
      obtain ⟨v, hv⟩ := HR.out.cells k (by omega)
      have hf := HR.out.free k (by omega)
      have hbg := HR.out.big
      have HW := hid (HR.out.set (k := k) (by omega) c)
      rw [hc] at HW
      clear ec hc HD
      go_wp2
      go_roundw
      case rel => exact ⟨(x - 1) / 26, p / 26, k, c :: l, rfl, rfl, by rw [List.length_cons]; omega, hx', by omega, by omega, HN.out, HW.out, HQ.out.setCell (Nat.le_refl _) _⟩
      case measure =>
        simp only [intOf]
        omega
    · have hm0 : m = 0 := by have := hx.out; omega
      subst hm0
      have HF : Hid (l = nmL N) := by have := HD.out; unfold NI at this; rw [nmL] at this; exact this
      have hlp : 0 < l.length := by rw [HF.out]; exact List.length_pos_iff.2 (nm_ne _ (by have := hN.out; omega))
      have hsl : ∀ W, (Instr.sliceAt 123 (.pointer (some ⟨w1.heap.size, 0, none⟩)) (some (.int .i64 (k : Int))) none none).run Tryd.prog W = .ok (.slice (some ⟨w1.heap.size, k, none⟩) l.length l.length) W := fun W => by
        rw [run_sliceAt_array_l W 123 ⟨w1.heap.size, 0, none⟩ (by kernel_rfl) .i64 (k : Int) (by omega) (by rw [hal]; omega)]
        go_simp
        omega
      have hcv : (convert 25 9 (.slice (some ⟨w1.heap.size, k, none⟩) l.length l.length)).run Tryd.prog wr = .ok (.string ⟨l.toArray⟩) wr :=
        run_convert_bytes_back (P := Tryd.prog) wr 25 9 5 ⟨w1.heap.size, k, none⟩ l.length l Tryd.underlying25 Tryd.underlying5 Tryd.underlying9 (fun j hj => by
          have h1 := HR.out.tail j hj
          rw [show 9 - l.length + j = k + j by omega] at h1
          rw [Lib.add_plain]
          exact h1)
      clear HD
      go_wp2
      go_ret
      exact ⟨ret_str (by rw [HF.out]), HQ.out⟩
theorem name_any (n : Int) (w : World) :
    Calls Tryd.prog 69 #[.int .i64 n] w fun e w' => e = .returned (.string ⟨(cnL n).toArray⟩) ∧ Q w w' := by
  by_cases h : 0 ≤ n ∧ n < 2199023255552
  · unfold cnL
    rw [if_pos h]
    exact name_yes n _ w (by show _ = _; omega) h.1 h.2
  · have HC : Hid (cnL n = []) := by show _ = _; unfold cnL; rw [if_neg h]
    have HM := hid (fun W => mayline_any n W)
    rw [show decide (0 ≤ n ∧ n < 2199023255552) = false from decide_eq_false h] at HM
    clear h
    go_enter Tryd.func69, Tryd.ntmps69
    go_wp2_with (go_at_call 66; refine (HM.out _).mono ?_; rintro e w1 ⟨rfl, rfl⟩)
    go_ret
    exact ⟨ret_str (by rw [HC.out]), Q.refl _⟩
end Go.Proofs.YtgheopdadfnilaaDoor
namespace Go.Proofs
open Go.Shelf
def Tryd.laysM173_ren : Go.Shelf.Ren := ⟨fun | 173 => 70 | 246 => 80 | 283 => 82 | 284 => 83 | 285 => 84 | 286 => 85 | 129 => 91 | 317 => 90 | 318 => 92 | 319 => 93 | 320 => 94 | 337 => 97 | 338 => 98 | n => n, fun | 2 => 2 | 3 => 3 | 9 => 9 | 4 => 4 | 171 => 125 | 0 => 0 | 53 => 102 | 37 => 25 | 5 => 5 | 173 => 128 | 212 => 133 | 51 => 134 | 20 => 20 | 213 => 135 | 46 => 122 | 232 => 141 | 233 => 142 | n => n, fun | 17 => 5 | 18 => 6 | 19 => 7 | n => n⟩
theorem Tryd.laysM173 : Go.Proofs.LaysM.n173 Tryd.prog Tryd.laysM173_ren := {
  mixed := by kernel_rfl
  f129 := Tryd.func91.trans (congrArg some (by kernel_rfl))
  f173 := Tryd.func70.trans (congrArg some (by kernel_rfl))
  f246 := Tryd.func80.trans (congrArg some (by kernel_rfl))
  f283 := Tryd.func82.trans (congrArg some (by kernel_rfl))
  f284 := Tryd.func83.trans (congrArg some (by kernel_rfl))
  f285 := Tryd.func84.trans (congrArg some (by kernel_rfl))
  f286 := Tryd.func85.trans (congrArg some (by kernel_rfl))
  f317 := Tryd.func90.trans (congrArg some (by kernel_rfl))
  f318 := Tryd.func92.trans (congrArg some (by kernel_rfl))
  f319 := Tryd.func93.trans (congrArg some (by kernel_rfl))
  f320 := Tryd.func94.trans (congrArg some (by kernel_rfl))
  f337 := Tryd.func97.trans (congrArg some (by kernel_rfl))
  f338 := Tryd.func98.trans (congrArg some (by kernel_rfl))
  t0 := Tryd.underlying0
  a0 := Tryd.isAgg0
  z0 := Tryd.sizeOf0
  v0 := Tryd.zeroValue0
  t2 := Tryd.underlying2
  a2 := Tryd.isAgg2
  z2 := Tryd.sizeOf2
  v2 := Tryd.zeroValue2
  t3 := Tryd.underlying3
  a3 := Tryd.isAgg3
  z3 := Tryd.sizeOf3
  v3 := Tryd.zeroValue3
  t4 := Tryd.underlying4
  a4 := Tryd.isAgg4
  z4 := Tryd.sizeOf4
  v4 := Tryd.zeroValue4
  t5 := Tryd.underlying5
  a5 := Tryd.isAgg5
  z5 := Tryd.sizeOf5
  v5 := Tryd.zeroValue5
  t9 := Tryd.underlying9
  a9 := Tryd.isAgg9
  z9 := Tryd.sizeOf9
  v9 := Tryd.zeroValue9
  t20 := Tryd.underlying20
  a20 := Tryd.isAgg20
  z20 := Tryd.sizeOf20
  v20 := Tryd.zeroValue20
  t37 := Tryd.underlying25
  a37 := Tryd.isAgg25
  z37 := Tryd.sizeOf25
  v37 := Tryd.zeroValue25
  t46 := Tryd.underlying122
  a46 := Tryd.isAgg122
  z46 := Tryd.sizeOf122
  v46 := Tryd.zeroValue122
  t51 := Tryd.underlying134
  a51 := Tryd.isAgg134
  z51 := Tryd.sizeOf134
  v51 := Tryd.zeroValue134
  t53 := Tryd.underlying102
  a53 := Tryd.isAgg102
  z53 := Tryd.sizeOf102
  v53 := Tryd.zeroValue102
  t171 := Tryd.underlying125
  a171 := Tryd.isAgg125
  z171 := Tryd.sizeOf125
  v171 := Tryd.zeroValue125
  t173 := Tryd.underlying128
  a173 := Tryd.isAgg128
  z173 := Tryd.sizeOf128
  v173 := Tryd.zeroValue128
  t212 := Tryd.underlying133
  a212 := Tryd.isAgg133
  z212 := Tryd.sizeOf133
  v212 := Tryd.zeroValue133
  t213 := Tryd.underlying135
  a213 := Tryd.isAgg135
  z213 := Tryd.sizeOf135
  t232 := Tryd.underlying141
  a232 := Tryd.isAgg141
  z232 := Tryd.sizeOf141
  v232 := Tryd.zeroValue141
  t233 := Tryd.underlying142
  a233 := Tryd.isAgg142
  z233 := Tryd.sizeOf142
  v233 := Tryd.zeroValue142
  g17 := by kernel_rfl
  g18 := by kernel_rfl
  g19 := by kernel_rfl
  i0 := by kernel_rfl
  i2 := by kernel_rfl
  i3 := by kernel_rfl
  i4 := by kernel_rfl
  i5 := by kernel_rfl
  i9 := by kernel_rfl
  i20 := by kernel_rfl
  i37 := by kernel_rfl
  i46 := by kernel_rfl
  i51 := by kernel_rfl
  i53 := by kernel_rfl
  i171 := by kernel_rfl
  i173 := by kernel_rfl
  i212 := by kernel_rfl
  i232 := by kernel_rfl
  i233 := by kernel_rfl
  m17 := by kernel_rfl
  m18 := by kernel_rfl
  m19 := by kernel_rfl }
open Go.RowKit Go.Sort Go.Lib in
/-- strconv.FormatInt: "FormatInt returns the string representation of i in the given base": AT BASE 10: i's decimal numeral, for every int64. (LAID: no walk: one application.) -/
theorem Tryd.strconv_FormatInt_10 (n : Int) (h0 : -9223372036854775808 ≤ n) (h1 : n ≤ 9223372036854775807) (w : World) (htab : Lib.TabIs Tryd.prog w "internal/strconv.uint64pow10" .u64 Lib.pow10Tab) :
    Calls Tryd.prog 70 #[.int .i64 n, .int .i64 10] w fun e w' => e = .returned (.string ⟨(Lib.itoa n).toArray⟩) ∧ ∃ k os, w' = grow (w.drewN k) os := Any.strconv_FormatInt_10 Tryd.laysM173 n h0 h1 w htab
end Go.Proofs
namespace Go.Proofs.YtgheopdadfnilaaDoor
open Go.RowKit Go.Sort
set_option linter.unusedVariables false
set_option linter.unusedSimpArgs false

theorem dec_small {m : Nat} (h : m < 10) : Lib.decDigits m = [UInt8.ofNat (48 + m % 10)] := by
  rw [Lib.decDigits_one h, Nat.mod_eq_of_lt h]
theorem dec_big {m : Nat} (h : ¬ m < 10) : Lib.decDigits m = Lib.decDigits (m / 10) ++ [UInt8.ofNat (48 + m % 10)] := by
  rw [Lib.decDigits, dif_neg h]
theorem nDigits_le (N : Nat) (h : N < 18446744073709551616) : Lib.nDigits N ≤ 20 := by
  rcases Nat.eq_zero_or_pos N with h0 | h0
  · subst h0
    have h1 := congrArg List.length (dec_small (m := 0) (by omega))
    rw [Lib.decDigits_length] at h1
    have h2 : ([UInt8.ofNat (48 + 0 % 10)] : List UInt8).length = 1 := rfl
    omega
  · have := Lib.numDigits_eq N h0 h
    split at this <;> omega
theorem Q.grow (w : World) (k : Nat) (os : Array Obj) : Q w (grow (w.drewN k) os) := by
  refine Q.trans ((Q.refl w).drewN k) ?_
  refine ⟨rfl, rfl, rfl, by simp [Go.Sort.grow], fun i hi => ?_⟩
  show ((w.drewN k).heap ++ os)[i]? = (w.drewN k).heap[i]?
  rw [Array.getElem?_append_left hi]
/-- the sheet's part of a text -/
def shX (sh : List UInt8) : List UInt8 := if sh.isEmpty then [] else sh ++ [33]
def prL (sh : List UInt8) (row col : Int) (ra ca : Bool) : List UInt8 := (((shX sh ++ sgS ca) ++ cnL col) ++ sgS ra) ++ Lib.decDigits (row + 1).toNat
/-- what is printed; nothing of a reference that may not be -/
def prR (sh : List UInt8) (row col : Int) (ra ca : Bool) : List UInt8 := if mayR sh row col then prL sh row col ra ca else []
theorem sg_len (b : Bool) : (sgS b).length ≤ 1 := by cases b <;> decide
theorem cn_len (n : Int) : (cnL n).length ≤ 9 := by
  unfold cnL
  split
  · exact nm_nine _ (by omega)
  · simp
theorem shX_len (l : List UInt8) : (shX l).length ≤ l.length + 1 := by
  unfold shX
  split
  · simp
  · simp
theorem dec_len (u : Nat) (h : u ≤ 2199023255552) : (Lib.decDigits u).length ≤ 20 := by
  rw [Lib.decDigits_length]
  exact nDigits_le u (by omega)
/-- the program's sums of texts -/
structure Cat (SH SA NM SB DC X1 X2 X3 X4 : ByteArray) : Prop where
  e1 : SH ++ SA = X1
  e2 : X1 ++ NM = X2
  e3 : X2 ++ SB = X3
  e4 : X3 ++ DC = X4
  z0 : SH.size ≤ 100000
  z1 : X1.size ≤ 100000
  z2 : X2.size ≤ 100000
  z3 : X3.size ≤ 100000
  z4 : X4.size ≤ 100000
  y1 : SA.size ≤ 100000
  y2 : NM.size ≤ 100000
  y3 : SB.size ≤ 100000
  y4 : DC.size ≤ 100000
theorem cat_of (sh : List UInt8) (row col : Int) (ra ca : Bool) (hs : sh.length ≤ 1000) (r0 : 0 ≤ row) (r1 : row < 2199023255552) :
    ∃ X1 X2 X3, Cat ⟨(shX sh).toArray⟩ ⟨(sgS ca).toArray⟩ ⟨(cnL col).toArray⟩ ⟨(sgS ra).toArray⟩ ⟨(Lib.decDigits (row + 1).toNat).toArray⟩ X1 X2 X3 ⟨(prL sh row col ra ca).toArray⟩ := by
  have h1 := shX_len sh
  have h2 := sg_len ca
  have h3 := sg_len ra
  have h4 := cn_len col
  have h5 := dec_len (row + 1).toNat (by omega)
  refine ⟨⟨(shX sh ++ sgS ca).toArray⟩, ⟨((shX sh ++ sgS ca) ++ cnL col).toArray⟩, ⟨(((shX sh ++ sgS ca) ++ cnL col) ++ sgS ra).toArray⟩, bytes_cat _ _, bytes_cat _ _, bytes_cat _ _, bytes_cat _ _, ?_, ?_, ?_, ?_, ?_, ?_, ?_, ?_, ?_⟩
  all_goals
    rw [size_mk]
    try unfold prL
    try simp only [List.length_append]
    omega
theorem fmt_any (n : Int) (w : World) (hw : Lib.TabIs Tryd.prog w "internal/strconv.uint64pow10" .u64 Lib.pow10Tab) (n0 : 0 ≤ n) (n1 : n ≤ 2199023255552) :
    Calls Tryd.prog 70 #[.int .i64 n, .int .i64 10] w fun e w' => e = .returned (.string ⟨(Lib.decDigits n.toNat).toArray⟩) ∧ Q w w' := by
  refine (Tryd.strconv_FormatInt_10 n (by omega) (by omega) w hw).mono ?_
  rintro e w' ⟨rfl, k, os, rfl⟩
  refine ⟨ret_str ?_, Q.grow w k os⟩
  obtain ⟨m, rfl⟩ := Int.eq_ofNat_of_zero_le n0
  rfl
/-- a reference in a block of its own -/
structure PB (w W : World) (sh : ByteArray) (row col : Int) (ra ca : Bool) : Prop where
  q : Q w W
  c0 : W.cell? ⟨w.heap.size, 0, none⟩ = some (.string sh)
  c1 : W.cell? ⟨w.heap.size, 1, none⟩ = some (.int .i64 row)
  c2 : W.cell? ⟨w.heap.size, 2, none⟩ = some (.int .i64 col)
  c3 : W.cell? ⟨w.heap.size, 3, none⟩ = some (.bool ra)
  c4 : W.cell? ⟨w.heap.size, 4, none⟩ = some (.bool ca)
theorem PB.start (w : World) (sh : ByteArray) (row col : Int) (ra ca : Bool) : PB w (w.alloc (.cells #[.string sh, .int .i64 row, .int .i64 col, .bool ra, .bool ca] 49)) sh row col ra ca := by
  refine ⟨(Q.refl _).alloc _, ?_, ?_, ?_, ?_, ?_⟩ <;> (rw [World.cell?_alloc_new]; rfl)
theorem PB.on {w W W' : World} {sh : ByteArray} {row col : Int} {ra ca : Bool} (h : PB w W sh row col ra ca) (q : Q W W') : PB w W' sh row col ra ca := by
  have hb : w.heap.size < W.heap.size := World.block_lt_of_cell? W ⟨w.heap.size, 0, none⟩ h.c0
  exact ⟨h.q.trans q, by rw [q.cell hb]; exact h.c0, by rw [q.cell hb]; exact h.c1, by rw [q.cell hb]; exact h.c2, by rw [q.cell hb]; exact h.c3, by rw [q.cell hb]; exact h.c4⟩
end Go.Proofs.YtgheopdadfnilaaDoor
namespace Go.Proofs.YtgheopdadfnilaaDoor
open Go.RowKit
set_option linter.unusedVariables false
set_option linter.unusedSimpArgs false

set_option maxHeartbeats 2000000 in
theorem print_plain (sh SH SA NM SB DC X1 X2 X3 X4 : ByteArray) (row col : Int) (ra ca : Bool) (w : World) (hz : sh.size ≤ 1000)
    (HM1 : Hid (∀ W, Calls Tryd.prog 66 #[.int .i64 row] W fun e w' => e = .returned (.bool true) ∧ w' = W))
    (HM2 : Hid (∀ W, Calls Tryd.prog 66 #[.int .i64 col] W fun e w' => e = .returned (.bool true) ∧ w' = W))
    (hE : (sh.toList == []) = true)
    (HS1 : Hid (∀ W, Calls Tryd.prog 68 #[.bool ca] W fun e w' => e = .returned (.string SA) ∧ w' = W))
    (HS2 : Hid (∀ W, Calls Tryd.prog 68 #[.bool ra] W fun e w' => e = .returned (.string SB) ∧ w' = W))
    (HN : Hid (∀ W, Calls Tryd.prog 69 #[.int .i64 col] W fun e w' => e = .returned (.string NM) ∧ Q W w'))
    (HF : Hid (∀ W, Q w W → Calls Tryd.prog 70 #[.int .i64 (row + 1), .int .i64 10] W fun e w' => e = .returned (.string DC) ∧ Q W w'))
    (r0 : 0 ≤ row) (r1 : row < 2199023255552) (hc : Cat ⟨#[]⟩ SA NM SB DC X1 X2 X3 X4) :
    Calls Tryd.prog 51 #[rv sh row col ra ca] w fun e w' => e = .returned (.string X4) ∧ Q w w' := by
  obtain ⟨e1, e2, e3, e4, z0, z1, z2, z3, z4, y1, y2, y3, y4⟩ := hc
  have k1 : ¬ 9223372036854775807 < SA.size := by omega
  have k2 : ¬ 9223372036854775807 < X1.size + NM.size := by omega
  have k3 : ¬ 9223372036854775807 < X2.size + SB.size := by omega
  have k4 : ¬ 9223372036854775807 < X3.size + DC.size := by omega
  have hwr : IntKind.i64.wrap (row + 1) = row + 1 := by rw [IntKind.wrap_i64]; omega
  have J := hid (PB.start w sh row col ra ca)
  go_enter Tryd.func51, Tryd.ntmps51
  go_upto_region 8 with (first | (go_at_call_of 66 row; refine (HM1.out _).mono ?_; rintro e w1 ⟨rfl, rfl⟩) | (go_at_call_of 66 col; refine (HM2.out _).mono ?_; rintro e w1 ⟨rfl, rfl⟩))
  have hk0 : Hid ((w.alloc (.cells #[.string sh, .int .i64 row, .int .i64 col, .bool ra, .bool ca] 49)).drew.cell? ⟨w.heap.size, 1, none⟩ = some (.int .i64 row) ∧ (w.alloc (.cells #[.string sh, .int .i64 row, .int .i64 col, .bool ra, .bool ca] 49)).drew.cell? ⟨w.heap.size, 2, none⟩ = some (.int .i64 col) ∧ (w.alloc (.cells #[.string sh, .int .i64 row, .int .i64 col, .bool ra, .bool ca] 49)).drew.cell? ⟨w.heap.size, 3, none⟩ = some (.bool ra) ∧ (w.alloc (.cells #[.string sh, .int .i64 row, .int .i64 col, .bool ra, .bool ca] 49)).drew.cell? ⟨w.heap.size, 4, none⟩ = some (.bool ca)) := ⟨J.out.c1, J.out.c2, J.out.c3, J.out.c4⟩
  go_region_held3 (fun W => W.cell? ⟨w.heap.size, 1, none⟩ = some (.int .i64 row) ∧ W.cell? ⟨w.heap.size, 2, none⟩ = some (.int .i64 col) ∧ W.cell? ⟨w.heap.size, 3, none⟩ = some (.bool ra) ∧ W.cell? ⟨w.heap.size, 4, none⟩ = some (.bool ca)) (with_reducible (first | exact hk0.out | exact hk1.out | exact hk2.out))
    (first
      | (go_at_call_of 68 ca; refine (HS1.out _).mono ?_; rintro r w9 ⟨rfl, rfl⟩)
      | (go_at_call_of 68 ra; refine (HS2.out _).mono ?_; rintro r w9 ⟨rfl, rfl⟩)
      | (go_at_call 69; refine (HN.out _).mono ?_; rintro r w5 ⟨rfl, q5⟩; replace J := hid (J.out.on (Q.trans (Q.drew (Q.refl _)) q5)); have hk1 : Hid (w5.cell? ⟨w.heap.size, 1, none⟩ = some (.int .i64 row) ∧ w5.cell? ⟨w.heap.size, 2, none⟩ = some (.int .i64 col) ∧ w5.cell? ⟨w.heap.size, 3, none⟩ = some (.bool ra) ∧ w5.cell? ⟨w.heap.size, 4, none⟩ = some (.bool ca)) := ⟨J.out.c1, J.out.c2, J.out.c3, J.out.c4⟩)
      | (go_at_call 70; refine (HF.out _ J.out.q).mono ?_; rintro r w6 ⟨rfl, q6⟩; replace J := hid (J.out.on q6); have hk2 : Hid (w6.cell? ⟨w.heap.size, 1, none⟩ = some (.int .i64 row) ∧ w6.cell? ⟨w.heap.size, 2, none⟩ = some (.int .i64 col) ∧ w6.cell? ⟨w.heap.size, 3, none⟩ = some (.bool ra) ∧ w6.cell? ⟨w.heap.size, 4, none⟩ = some (.bool ca)) := ⟨J.out.c1, J.out.c2, J.out.c3, J.out.c4⟩))
  go_wp2
  go_ret
  exact ⟨rfl, J.out.q⟩

set_option maxHeartbeats 2000000 in
theorem print_sheet (sh SH SA NM SB DC X1 X2 X3 X4 : ByteArray) (row col : Int) (ra ca : Bool) (w : World) (hz : sh.size ≤ 1000)
    (HM1 : Hid (∀ W, Calls Tryd.prog 66 #[.int .i64 row] W fun e w' => e = .returned (.bool true) ∧ w' = W))
    (HM2 : Hid (∀ W, Calls Tryd.prog 66 #[.int .i64 col] W fun e w' => e = .returned (.bool true) ∧ w' = W))
    (hE : (sh.toList == []) = false)
    (HI : Hid (∀ W, Q w W → Calls Tryd.prog 67 #[.string sh] W fun e w' => e = .returned (.bool true) ∧ Q W w')) (eS : sh ++ ⟨#[33]⟩ = SH)
    (HS1 : Hid (∀ W, Calls Tryd.prog 68 #[.bool ca] W fun e w' => e = .returned (.string SA) ∧ w' = W))
    (HS2 : Hid (∀ W, Calls Tryd.prog 68 #[.bool ra] W fun e w' => e = .returned (.string SB) ∧ w' = W))
    (HN : Hid (∀ W, Calls Tryd.prog 69 #[.int .i64 col] W fun e w' => e = .returned (.string NM) ∧ Q W w'))
    (HF : Hid (∀ W, Q w W → Calls Tryd.prog 70 #[.int .i64 (row + 1), .int .i64 10] W fun e w' => e = .returned (.string DC) ∧ Q W w'))
    (r0 : 0 ≤ row) (r1 : row < 2199023255552) (hc : Cat SH SA NM SB DC X1 X2 X3 X4) :
    Calls Tryd.prog 51 #[rv sh row col ra ca] w fun e w' => e = .returned (.string X4) ∧ Q w w' := by
  obtain ⟨e1, e2, e3, e4, z0, z1, z2, z3, z4, y1, y2, y3, y4⟩ := hc
  have k1 : ¬ 9223372036854775807 < SH.size + SA.size := by omega
  have k2 : ¬ 9223372036854775807 < X1.size + NM.size := by omega
  have k3 : ¬ 9223372036854775807 < X2.size + SB.size := by omega
  have k4 : ¬ 9223372036854775807 < X3.size + DC.size := by omega
  have hwr : IntKind.i64.wrap (row + 1) = row + 1 := by rw [IntKind.wrap_i64]; omega
  have J := hid (PB.start w sh row col ra ca)
  go_enter Tryd.func51, Tryd.ntmps51
  go_upto_region 8 with (first | (go_at_call_of 66 row; refine (HM1.out _).mono ?_; rintro e w1 ⟨rfl, rfl⟩) | (go_at_call_of 66 col; refine (HM2.out _).mono ?_; rintro e w1 ⟨rfl, rfl⟩) | (go_at_call 67; refine (HI.out _ (by repeat (first | exact Q.refl _ | refine Q.drewN ?_ _ | refine Q.alloc ?_ _))).mono ?_; rintro e w3 ⟨rfl, q3⟩; replace J := hid (J.out.on q3); have d0 := J.out.c0; have d1 := J.out.c1; have d2 := J.out.c2; have d3 := J.out.c3; have d4 := J.out.c4))
  have hk0 : Hid (w3.drew.cell? ⟨w.heap.size, 1, none⟩ = some (.int .i64 row) ∧ w3.drew.cell? ⟨w.heap.size, 2, none⟩ = some (.int .i64 col) ∧ w3.drew.cell? ⟨w.heap.size, 3, none⟩ = some (.bool ra) ∧ w3.drew.cell? ⟨w.heap.size, 4, none⟩ = some (.bool ca)) := ⟨J.out.c1, J.out.c2, J.out.c3, J.out.c4⟩
  go_region_held3 (fun W => W.cell? ⟨w.heap.size, 1, none⟩ = some (.int .i64 row) ∧ W.cell? ⟨w.heap.size, 2, none⟩ = some (.int .i64 col) ∧ W.cell? ⟨w.heap.size, 3, none⟩ = some (.bool ra) ∧ W.cell? ⟨w.heap.size, 4, none⟩ = some (.bool ca)) (with_reducible (first | exact hk0.out | exact hk1.out | exact hk2.out))
    (first
      | (go_at_call_of 68 ca; refine (HS1.out _).mono ?_; rintro r w9 ⟨rfl, rfl⟩)
      | (go_at_call_of 68 ra; refine (HS2.out _).mono ?_; rintro r w9 ⟨rfl, rfl⟩)
      | (go_at_call 69; refine (HN.out _).mono ?_; rintro r w5 ⟨rfl, q5⟩; replace J := hid (J.out.on (Q.trans (Q.drew (Q.refl _)) q5)); have hk1 : Hid (w5.cell? ⟨w.heap.size, 1, none⟩ = some (.int .i64 row) ∧ w5.cell? ⟨w.heap.size, 2, none⟩ = some (.int .i64 col) ∧ w5.cell? ⟨w.heap.size, 3, none⟩ = some (.bool ra) ∧ w5.cell? ⟨w.heap.size, 4, none⟩ = some (.bool ca)) := ⟨J.out.c1, J.out.c2, J.out.c3, J.out.c4⟩)
      | (go_at_call 70; refine (HF.out _ J.out.q).mono ?_; rintro r w6 ⟨rfl, q6⟩; replace J := hid (J.out.on q6); have hk2 : Hid (w6.cell? ⟨w.heap.size, 1, none⟩ = some (.int .i64 row) ∧ w6.cell? ⟨w.heap.size, 2, none⟩ = some (.int .i64 col) ∧ w6.cell? ⟨w.heap.size, 3, none⟩ = some (.bool ra) ∧ w6.cell? ⟨w.heap.size, 4, none⟩ = some (.bool ca)) := ⟨J.out.c1, J.out.c2, J.out.c3, J.out.c4⟩))
  go_wp2
  go_ret
  exact ⟨rfl, J.out.q⟩
end Go.Proofs.YtgheopdadfnilaaDoor
namespace Go.Proofs.YtgheopdadfnilaaDoor
open Go.RowKit
set_option linter.unusedVariables false
set_option linter.unusedSimpArgs false

set_option maxHeartbeats 1000000 in
theorem print_no (sh : ByteArray) (row col : Int) (ra ca f1 f2 fi : Bool) (w : World)
    (HM1 : Hid (∀ W, Calls Tryd.prog 66 #[.int .i64 row] W fun e w' => e = .returned (.bool f1) ∧ w' = W))
    (HM2 : Hid (∀ W, Calls Tryd.prog 66 #[.int .i64 col] W fun e w' => e = .returned (.bool f2) ∧ w' = W))
    (HI : Hid (∀ W, Q w W → Calls Tryd.prog 67 #[.string sh] W fun e w' => e = .returned (.bool fi) ∧ Q W w'))
    (h : f1 = false ∨ f2 = false ∨ ((sh.toList == []) = false ∧ fi = false)) :
    Calls Tryd.prog 51 #[rv sh row col ra ca] w fun e w' => e = .returned (.string ⟨#[]⟩) ∧ Q w w' := by
  cases f1
  · clear h
    go_enter Tryd.func51, Tryd.ntmps51
    go_wp2_with (first | (go_at_call_of 66 row; refine (HM1.out _).mono ?_; rintro e w1 ⟨rfl, rfl⟩) | (go_at_call_of 66 col; refine (HM2.out _).mono ?_; rintro e w1 ⟨rfl, rfl⟩))
    go_ret
    exact ⟨rfl, (Q.refl _).alloc _⟩
  cases f2
  · clear h
    go_enter Tryd.func51, Tryd.ntmps51
    go_wp2_with (first | (go_at_call_of 66 row; refine (HM1.out _).mono ?_; rintro e w1 ⟨rfl, rfl⟩) | (go_at_call_of 66 col; refine (HM2.out _).mono ?_; rintro e w1 ⟨rfl, rfl⟩))
    go_ret
    exact ⟨rfl, (Q.refl _).alloc _⟩
  obtain ⟨hE, rfl⟩ : (sh.toList == []) = false ∧ fi = false := by
    rcases h with h | h | h
    · cases h
    · cases h
    · exact h
  go_enter Tryd.func51, Tryd.ntmps51
  go_wp2_with (first | (go_at_call_of 66 row; refine (HM1.out _).mono ?_; rintro e w1 ⟨rfl, rfl⟩) | (go_at_call_of 66 col; refine (HM2.out _).mono ?_; rintro e w1 ⟨rfl, rfl⟩) | (go_at_call 67; refine (HI.out _ (by repeat (first | exact Q.refl _ | refine Q.drewN ?_ _ | refine Q.alloc ?_ _))).mono ?_; rintro e w3 ⟨rfl, q3⟩))
  go_ret
  exact ⟨rfl, ((Q.refl _).alloc _).trans q3⟩

theorem print_any (sh : ByteArray) (row col : Int) (ra ca : Bool) (w : World) (hw : Std w) (ht : ∀ W, Q w W → Lib.TabIs Tryd.prog W "internal/strconv.uint64pow10" .u64 Lib.pow10Tab) (hs : sh.size ≤ 1000) :
    Calls Tryd.prog 51 #[rv sh row col ra ca] w fun e w' => e = .returned (.string ⟨(prR sh.data.toList row col ra ca).toArray⟩) ∧ Q w w' := by
  have HM1 := fun W => mayline_any row W
  have HM2 := fun W => mayline_any col W
  have HI := fun W (q : Q w W) => id_any sh W (hw.on q) (by omega)
  have et := Lib.toList_data sh
  unfold prR mayR
  cases h1 : decide (0 ≤ row ∧ row < 2199023255552)
  · rw [h1] at HM1
    refine (print_no sh row col ra ca _ _ _ w HM1 HM2 HI (.inl rfl)).mono fun e w' g => ⟨?_, g.2⟩
    rw [g.1, Bool.false_and, Bool.and_false]
    rfl
  cases h2 : decide (0 ≤ col ∧ col < 2199023255552)
  · rw [h2] at HM2
    refine (print_no sh row col ra ca _ _ _ w HM1 HM2 HI (.inr (.inl rfl))).mono fun e w' g => ⟨?_, g.2⟩
    rw [g.1, Bool.and_false, Bool.and_false]
    rfl
  rw [h1] at HM1
  rw [h2] at HM2
  have b1 := of_decide_eq_true h1
  have b2 := of_decide_eq_true h2
  obtain ⟨X1, X2, X3, hc⟩ := cat_of sh.data.toList row col ra ca (by rw [len_data]; exact hs) b1.1 b1.2
  have HF := fun W (q : Q w W) => fmt_any (row + 1) W (ht W q) (by omega) (by omega)
  by_cases he : sh.toList = []
  · have he2 : sh.data.toList = [] := by rw [← et, he]
    rw [he2] at hc ⊢
    refine (print_plain sh ⟨#[]⟩ _ _ _ _ X1 X2 X3 _ row col ra ca w hs HM1 HM2 (by rw [he]; rfl) (fun W => asign_any ca W) (fun W => asign_any ra W) (fun W => name_any col W) HF b1.1 b1.2 hc).mono fun e w' g => ⟨?_, g.2⟩
    rw [g.1]
    rfl
  · have hei : sh.data.toList.isEmpty = false := by
      rw [← et]
      cases hh : sh.toList
      · exact absurd hh he
      · rfl
    cases hi : idB sh.data.toList
    · rw [hi] at HI
      refine (print_no sh row col ra ca _ _ _ w HM1 HM2 HI (.inr (.inr ⟨by simpa using he, rfl⟩))).mono fun e w' g => ⟨?_, g.2⟩
      rw [g.1, hei]
      rfl
    · rw [hi] at HI
      have eS : sh ++ ⟨#[33]⟩ = ⟨(shX sh.data.toList).toArray⟩ := by
        unfold shX
        rw [hei]
        have e := bytes_cat sh.data.toList [33]
        exact e
      refine (print_sheet sh _ _ _ _ _ X1 X2 X3 _ row col ra ca w hs HM1 HM2 (by simpa using he) HI eS (fun W => asign_any ca W) (fun W => asign_any ra W) (fun W => name_any col W) HF b1.1 b1.2 hc).mono fun e w' g => ⟨?_, g.2⟩
      rw [g.1, Bool.or_true]
      rfl
end Go.Proofs.YtgheopdadfnilaaDoor
namespace Go.Proofs.YtgheopdadfnilaaDoor
open Go.RowKit
set_option linter.unusedVariables false
set_option linter.unusedSimpArgs false


set_option maxRecDepth 100000 in
set_option maxHeartbeats 8000000 in
theorem bare_any (k n : Int) (t : ByteArray) (b : Bool) (e : Int) (a1 : Option Addr) (l1 c1 : Nat) (a2 : Option Addr) (l2 c2 : Nat) (W : World) : Calls Tryd.prog 38 #[.agg #[.int .i64 k, .int .i64 n, .string t, .bool b, .int .i64 e, .slice a1 l1 c1, .slice a2 l2 c2]] W fun e' W' => e' = .returned (.bool (decide (n = 0 ∧ t.data.toList = [] ∧ b = false ∧ e = 0 ∧ l1 = 0 ∧ l2 = 0))) ∧ Q W W' := by
  have et := hid (toL t)
  by_cases q0 : n = 0
  · skip
    have f0 : (n == 0) = true := by rw [q0]; rfl
    by_cases q1 : t.data.toList = []
    · skip
      have f1 : (t.toList == []) = true := by rw [et.out]; rw [q1]; rfl
      by_cases q2 : b = false
      · skip
        have f2 : b = false := q2
        by_cases q3 : e = 0
        · skip
          have f3 : (e == 0) = true := by rw [q3]; rfl
          by_cases q4 : l1 = 0
          · skip
            have f4 : ((l1 : Int) == 0) = true := by rw [q4]; rfl
            by_cases q5 : l2 = 0
            · skip
              have f5 : ((l2 : Int) == 0) = true := by rw [q5]; rfl
              have HR : Hid (decide (n = 0 ∧ t.data.toList = [] ∧ b = false ∧ e = 0 ∧ l1 = 0 ∧ l2 = 0) = true) := by show _ = _; exact decide_eq_true ⟨q0, q1, q2, q3, q4, q5⟩
              generalize decide (n = 0 ∧ t.data.toList = [] ∧ b = false ∧ e = 0 ∧ l1 = 0 ∧ l2 = 0) = r at HR ⊢
              clear et q0 q1 q2 q3 q4 q5
              go_enter Tryd.func38, Tryd.ntmps38
              go_wp2_with fail
              go_ret
              exact ⟨ret_bool HR.out.symm, (Q.refl _).alloc _⟩
            · skip
              have f5 : ((l2 : Int) == 0) = false := by rw [beq_eq_false_iff_ne]; omega
              have HR : Hid (decide (n = 0 ∧ t.data.toList = [] ∧ b = false ∧ e = 0 ∧ l1 = 0 ∧ l2 = 0) = false) := by show _ = _; exact decide_eq_false (fun hh => q5 hh.2.2.2.2.2)
              generalize decide (n = 0 ∧ t.data.toList = [] ∧ b = false ∧ e = 0 ∧ l1 = 0 ∧ l2 = 0) = r at HR ⊢
              clear et q0 q1 q2 q3 q4 q5
              go_enter Tryd.func38, Tryd.ntmps38
              go_wp2_with fail
              go_ret
              exact ⟨ret_bool HR.out.symm, (Q.refl _).alloc _⟩
          · skip
            have f4 : ((l1 : Int) == 0) = false := by rw [beq_eq_false_iff_ne]; omega
            have HR : Hid (decide (n = 0 ∧ t.data.toList = [] ∧ b = false ∧ e = 0 ∧ l1 = 0 ∧ l2 = 0) = false) := by show _ = _; exact decide_eq_false (fun hh => q4 hh.2.2.2.2.1)
            generalize decide (n = 0 ∧ t.data.toList = [] ∧ b = false ∧ e = 0 ∧ l1 = 0 ∧ l2 = 0) = r at HR ⊢
            clear et q0 q1 q2 q3 q4
            go_enter Tryd.func38, Tryd.ntmps38
            go_wp2_with fail
            go_ret
            exact ⟨ret_bool HR.out.symm, (Q.refl _).alloc _⟩
        · skip
          have f3 : (e == 0) = false := by rw [beq_eq_false_iff_ne]; omega
          have HR : Hid (decide (n = 0 ∧ t.data.toList = [] ∧ b = false ∧ e = 0 ∧ l1 = 0 ∧ l2 = 0) = false) := by show _ = _; exact decide_eq_false (fun hh => q3 hh.2.2.2.1)
          generalize decide (n = 0 ∧ t.data.toList = [] ∧ b = false ∧ e = 0 ∧ l1 = 0 ∧ l2 = 0) = r at HR ⊢
          clear et q0 q1 q2 q3
          go_enter Tryd.func38, Tryd.ntmps38
          go_wp2_with fail
          go_ret
          exact ⟨ret_bool HR.out.symm, (Q.refl _).alloc _⟩
      · skip
        have f2 : b = true := by simpa using q2
        have HR : Hid (decide (n = 0 ∧ t.data.toList = [] ∧ b = false ∧ e = 0 ∧ l1 = 0 ∧ l2 = 0) = false) := by show _ = _; exact decide_eq_false (fun hh => q2 hh.2.2.1)
        generalize decide (n = 0 ∧ t.data.toList = [] ∧ b = false ∧ e = 0 ∧ l1 = 0 ∧ l2 = 0) = r at HR ⊢
        clear et q0 q1 q2
        go_enter Tryd.func38, Tryd.ntmps38
        go_wp2_with fail
        go_ret
        exact ⟨ret_bool HR.out.symm, (Q.refl _).alloc _⟩
    · skip
      have f1 : (t.toList == []) = false := by rw [et.out]; rw [beq_eq_false_iff_ne]; exact q1
      have HR : Hid (decide (n = 0 ∧ t.data.toList = [] ∧ b = false ∧ e = 0 ∧ l1 = 0 ∧ l2 = 0) = false) := by show _ = _; exact decide_eq_false (fun hh => q1 hh.2.1)
      generalize decide (n = 0 ∧ t.data.toList = [] ∧ b = false ∧ e = 0 ∧ l1 = 0 ∧ l2 = 0) = r at HR ⊢
      clear et q0 q1
      go_enter Tryd.func38, Tryd.ntmps38
      go_wp2_with fail
      go_ret
      exact ⟨ret_bool HR.out.symm, (Q.refl _).alloc _⟩
  · skip
    have f0 : (n == 0) = false := by rw [beq_eq_false_iff_ne]; omega
    have HR : Hid (decide (n = 0 ∧ t.data.toList = [] ∧ b = false ∧ e = 0 ∧ l1 = 0 ∧ l2 = 0) = false) := by show _ = _; exact decide_eq_false (fun hh => q0 hh.1)
    generalize decide (n = 0 ∧ t.data.toList = [] ∧ b = false ∧ e = 0 ∧ l1 = 0 ∧ l2 = 0) = r at HR ⊢
    clear et q0
    go_enter Tryd.func38, Tryd.ntmps38
    go_wp2_with fail
    go_ret
    exact ⟨ret_bool HR.out.symm, (Q.refl _).alloc _⟩

theorem prR_nil (sh : List UInt8) (row col : Int) (ra ca : Bool) : decide (prR sh row col ra ca = []) = !mayR sh row col := by
  unfold prR
  cases hm : mayR sh row col
  · rw [if_neg (by simp)]; rfl
  · rw [if_pos rfl, decide_eq_false]
    · rfl
    · intro h
      unfold prL at h
      have h2 := (List.append_eq_nil_iff.1 h).2
      have h3 := congrArg List.length h2
      rw [Lib.decDigits_length] at h3
      have h4 : 0 < Lib.nDigits (row + 1).toNat := by unfold Lib.nDigits; split <;> omega
      simp at h3
      omega

set_option maxRecDepth 100000 in
set_option maxHeartbeats 4000000 in
theorem pmayref_any (sh : ByteArray) (row col : Int) (ra ca : Bool) (w : World) (hw : Std w) (ht : ∀ W, Q w W → Lib.TabIs Tryd.prog W "internal/strconv.uint64pow10" .u64 Lib.pow10Tab) (hs : sh.size ≤ 1000) :
    Calls Tryd.prog 35 #[rv sh row col ra ca] w fun e w' => e = .returned (.bool (mayR sh.data.toList row col)) ∧ Q w w' := by
  have HP := hid (fun W (q : Q w W) => print_any sh row col ra ca W (hw.on q) (fun W' q' => ht W' (q.trans q')) hs)
  have hn := prR_nil sh.data.toList row col ra ca
  obtain ⟨S, hS, lS⟩ : ∃ S : ByteArray, ⟨(prR sh.data.toList row col ra ca).toArray⟩ = S ∧ S.data.toList = prR sh.data.toList row col ra ca := ⟨_, rfl, rfl⟩
  rw [hS] at HP
  rw [← lS] at hn
  clear hw ht
  cases hm : mayR sh.data.toList row col
  · rw [hm] at hn
    have e7 : (S.toList == []) = true := by rw [toL, of_decide_eq_true hn]; rfl
    clear hn hS lS
    go_enter Tryd.func35, Tryd.ntmps35
    go_wp2_with (go_at_call 51; refine (HP.out _ ((Q.refl _).alloc _)).mono ?_; rintro e w1 ⟨rfl, q1⟩; have Q1 : Hid (Q w w1) := hid (((Q.refl _).alloc _).trans q1); clear q1)
    go_ret
    exact ⟨rfl, Q1.out⟩
  · rw [hm] at hn
    have e7 : (S.toList == []) = false := by rw [toL, beq_eq_false_iff_ne]; exact of_decide_eq_false hn
    clear hn hS lS
    go_enter Tryd.func35, Tryd.ntmps35
    go_wp2_with (go_at_call 51; refine (HP.out _ ((Q.refl _).alloc _)).mono ?_; rintro e w1 ⟨rfl, q1⟩; have Q1 : Hid (Q w w1) := hid (((Q.refl _).alloc _).trans q1); clear q1)
    go_ret
    exact ⟨rfl, Q1.out⟩
end Go.Proofs.YtgheopdadfnilaaDoor
