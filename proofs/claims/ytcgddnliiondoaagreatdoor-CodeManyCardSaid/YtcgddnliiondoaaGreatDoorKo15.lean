/- counterpaneref5.EqExpr: the same trees?; Trees that lie outside a block; a world in which one block alone has turned; a reader of words; parse.mayNode and parse.May, for every tree of some size; parse. -/
import Derived.Test.YtcgddnliiondoaaGreatDoorKo13
import Derived.Test.YtcgddnliiondoaaGreatDoorKo00
import Derived.Lib.ItoaMem
import Derived.Shelf.Strconv.Itoa4
import Derived.Test.YtcgddnliiondoaaGreatDoorProg
import Derived.Deep.RegionHeld3
import Derived.Deep.CutBlock
import Derived.Deep.CutRange
import Derived.BigQuiet
import Derived.Lib.TrimByte
import Derived.Test.YtcgddnliiondoaaGreatDoorKo06
import Derived.Handy
import Derived.Laws.Bits64b
import Derived.Deep.RegionHeld
import Derived.Maps.AppendAt
import Derived.Lib.AppendStr
import Derived.Shelf.Small.Utf8
import Derived.Shelf.Small.Strs
import Derived.Shelf.Small.Wraps
import Derived.Shelf.Strconv.Itoa0
import Derived.Shelf.Strconv.Itoa1
import Derived.Shelf.LaysM
import Derived.Shelf.Strconv.Itoa2
import Derived.Shelf.Strconv.Itoa3
import Derived.Shelf.Strings.Search1
import Derived.Shelf.Strings.Search2
import Derived.Shelf.Strings.Search3
import Derived.Shelf.Strings.Cut
import Derived.Shelf.Strings.Count
import Derived.Shelf.Strings.Shaped
import Derived.Shelf.Strings.Prefix
import Derived.Shelf.Strings.Runes
import Derived.Shelf.Unicode.DecodeSlow
import Derived.Lib.Walk
import Derived.BigCall
import Derived.BigGuard
import Derived.Lib.ValidLaws
import Derived.Test.YtcgddnliiondoaaGreatDoorKo14
import Derived.Test.YtcgddnliiondoaaGreatDoorKo03
import Derived.Test.YtcgddnliiondoaaGreatDoorKo07
import Derived.Test.YtcgddnliiondoaaGreatDoorKo04
import Derived.Test.YtcgddnliiondoaaGreatDoorKo08
set_option linter.unusedVariables false
set_option linter.unusedSimpArgs false
set_option maxRecDepth 100000
set_option maxHeartbeats 8000000
namespace Go.Proofs.YtcgddnliiondoaaGreatDoor
open Go.RowKit
theorem eqexpr_any : ∀ (s : Nat) (x y : Ex) (v v' : Value) (W : World), SizeOf.sizeOf x ≤ s → Rd W x v → Rd W y v' → Calls Tryz.prog 33 #[v, v'] W fun e W' => Ans (x = y) e ∧ Q W W' := by
  intro s
  induction s with
  | zero =>
    intro x y v v' W hs
    cases x with
    | mk k n t b e rs ks => simp at hs
  | succ s ih =>
    intro x y v v' W hs hx hy
    obtain ⟨k, n, t, b, e, rs, ks, rv, kv, ao, cap, rfl, hp⟩ := hx.prt
    obtain ⟨k', n', t', b', e', rs', ks', rv', kv', ao', cap', rfl, hp'⟩ := hy.prt
    obtain ⟨a1, c1, rfl, m1, m2⟩ := hp.rl.len
    obtain ⟨a3, c3, rfl, m3, m4⟩ := hp'.rl.len
    obtain rfl := hp.kl
    obtain rfl := hp'.kl
    have IH : ∀ i (hi : i < ks.length) z v v' W, Rd W ks[i] v → Rd W z v' → Calls Tryz.prog 33 #[v, v'] W fun x W' => Ans (ks[i] = z) x ∧ Q W W' := fun i hi z v v' W h h' => ih ks[i] z v v' W (by
      have := kid_size (k := k) (n := n) (t := t.data.toList) (b := b) (e := e) (rs := rs) i hi
      rw [← hp.ex] at this
      omega) h h'
    by_cases hh : k = k' ∧ n = n' ∧ t.data.toList = t'.data.toList ∧ b = b' ∧ e = e' ∧ rs.length = rs'.length ∧ ks.length = ks'.length
    · obtain ⟨rfl, rfl, ht, rfl, rfl, hl1, hl2⟩ := hh
      obtain rfl := str_eq ht
      have hroom1 : rs.length ≤ 9223372036854775807 := by unfold maxLen at m2; omega
      have hroom2 : ks.length ≤ 9223372036854775807 := by have h1 := hp.le; have h2 := hp.mx; unfold maxLen at h2; omega
      have hxy : x = y ↔ (rs = rs' ∧ ks = ks') := by rw [hp.ex, hp'.ex]; simp
      have key := eq_body k n t b e a1 rs.length c1 ao ks.length cap a3 c3 ao' cap' W rs rs' ks ks' (hid rfl) (hid hl1.symm) (hid rfl) (hid hl2.symm) hroom1 hroom2
        (hid fun i hi => by
          obtain ⟨b1, o1, c, hv, _, _, hc⟩ := hp.rl.rc (by omega)
          simp only [Value.slice.injEq] at hv
          exact ⟨b1, o1, hv.1, hc i hi⟩)
        (hid fun i hi => by
          obtain ⟨b1, o1, c, hv, _, _, hc⟩ := hp'.rl.rc (by omega)
          simp only [Value.slice.injEq] at hv
          exact ⟨b1, o1, hv.1, hc i hi⟩)
        (hid fun i hi W' q => by
          obtain ⟨b2, o2, ha, hl⟩ := (hp.on q).kd (by intro h; rw [h] at hi; simp at hi)
          obtain ⟨p0, p1, p2, p3, p4, p5, p6, hk⟩ := hl.kid i hi
          exact ⟨b2, o2, p0, p1, p2, p3, p4, p5, p6, ha, hk⟩)
        (hid fun i hi W' q => by
          obtain ⟨b2, o2, ha, hl⟩ := (hp'.on q).kd (by intro h; rw [h] at hi; simp at hi)
          obtain ⟨p0, p1, p2, p3, p4, p5, p6, hk⟩ := hl.kid i hi
          exact ⟨b2, o2, p0, p1, p2, p3, p4, p5, p6, ha, hk⟩)
        (hid fun i hi hi' v v' W' h h' => IH i hi _ v v' W' h h')
      rw [← hl1, ← hl2]
      refine key.mono fun x9 w9 h => ⟨?_, h.2⟩
      rw [hxy]
      exact h.1
    · have hne : x ≠ y := by
        rw [hp.ex, hp'.ex]
        intro h
        simp only [Ex.mk.injEq] at h
        obtain ⟨g1, g2, g3, g4, g5, g6, g7⟩ := h
        exact hh ⟨g1, g2, g3, g4, g5, by rw [g6], by rw [g7]⟩
      refine (eq_heads k n t b e a1 rs.length c1 ao ks.length cap k' n' t' b' e' a3 rs'.length c3 ao' ks'.length cap' W hh).mono ?_
      rintro x9 w9 ⟨rfl, q⟩
      exact ⟨Ans.no hne, q⟩
abbrev Qx (p : Nat) (w w' : World) : Prop := World.grownBy w w' (some p)
theorem Qx.refl (p : Nat) (w : World) : Qx p w w := ⟨rfl, rfl, rfl, Nat.le_refl _, fun _ _ _ => rfl⟩
theorem Qx.trans {p : Nat} {a b c : World} (h : Qx p a b) (k : Qx p b c) : Qx p a c :=
  ⟨k.os.trans h.os, k.tape.trans h.tape, k.output.trans h.output, Nat.le_trans h.size k.size, fun i hi hp => (k.block i (Nat.lt_of_lt_of_le hi h.size) hp).trans (h.block i hi hp)⟩
theorem Qx.of {p : Nat} {a b : World} (h : Q a b) : Qx p a b := ⟨h.os, h.tape, h.output, h.size, fun i hi _ => Q.block h hi⟩
theorem Qx.alloc {p : Nat} {a w : World} (h : Qx p a w) (o : Obj) : Qx p a (w.alloc o) := h.trans (Qx.of ((Q.refl _).alloc o))
theorem Qx.new {p : Nat} {a w : World} (h : Qx p a w) {b : Nat} (hb : a.heap.size ≤ b) (k : Nat) (v : Value) : Qx p a (w.setCell ⟨b, k, none⟩ v) :=
  ⟨h.os, h.tape, h.output, by simpa [World.setCell] using h.size, fun i hi hp => (Below.heap_setCell _ _ _ _ (fun e => by simp at e; omega)).trans (h.block i hi hp)⟩
def Slg (g : Nat → Prop) (W : World) (v : Value) (L : List Rf) : Prop :=
  ∃ (ao : Option Addr) (cap : Nat), v = .slice ao L.length cap ∧ L.length ≤ cap ∧ cap ≤ maxLen ∧ (0 < L.length → ∃ b off, ao = some ⟨b, off, none⟩ ∧ g b ∧ ∀ i (h : i < L.length), Ats rf W b (off + i * 5) L[i])
theorem Slg.sl {g : Nat → Prop} {W : World} {v : Value} {L : List Rf} (h : Slg g W v L) : Sl rf 5 W v L := by
  obtain ⟨ao, cap, hv, h1, h2, h3⟩ := h
  exact ⟨ao, cap, hv, h1, h2, fun hl => by obtain ⟨b, off, ha, _, hc⟩ := h3 hl; exact ⟨b, off, ha, hc⟩⟩
def Rdg (g : Nat → Prop) (W : World) : Ex → Value → Prop
  | .mk k n t b e rs ks, v => ∃ rv kv, v = .agg #[.int .i64 k, .int .i64 n, .string ⟨t.toArray⟩, .bool b, .int .i64 e, rv, kv] ∧ Slg g W rv rs ∧
      ∃ (ao : Option Addr) (cap : Nat), kv = .slice ao ks.length cap ∧ ks.length ≤ cap ∧ cap ≤ maxLen ∧ (ks ≠ [] → ∃ b' off, ao = some ⟨b', off, none⟩ ∧ g b' ∧ Pl W b' ∧ RdLg g W ks b' off)
  where
  RdLg (g : Nat → Prop) (W : World) : List Ex → Nat → Nat → Prop
  | [], _, _ => True
  | x :: xs, b, off => (∃ c0 c1 c2 c3 c4 c5 c6, W.cell? ⟨b, off, none⟩ = some c0 ∧ W.cell? ⟨b, off + 1, none⟩ = some c1 ∧ W.cell? ⟨b, off + 2, none⟩ = some c2 ∧ W.cell? ⟨b, off + 3, none⟩ = some c3 ∧ W.cell? ⟨b, off + 4, none⟩ = some c4 ∧ W.cell? ⟨b, off + 5, none⟩ = some c5 ∧ W.cell? ⟨b, off + 6, none⟩ = some c6 ∧ Rdg g W x (.agg #[c0, c1, c2, c3, c4, c5, c6])) ∧ RdLg g W xs b (off + 7)
theorem Rdg.rd {g : Nat → Prop} {W : World} : ∀ (x : Ex) (v : Value), Rdg g W x v → Rd W x v
  | .mk k n t b e rs ks, v, h => by
    unfold Rdg at h
    unfold Rd
    obtain ⟨rv, kv, hv, hr, ao, cap, hk, h1, h2, h3⟩ := h
    refine ⟨rv, kv, hv, hr.sl, ao, cap, hk, h1, h2, fun hn => ?_⟩
    obtain ⟨b', off, ha, hb, hpl, hl⟩ := h3 hn
    exact ⟨b', off, ha, hpl, go ks b' off hl⟩
  where
  go {g : Nat → Prop} {W : World} : ∀ (l : List Ex) (b off : Nat), Rdg.RdLg g W l b off → Rd.RdL W l b off
  | [], _, _, _ => by unfold Rd.RdL; trivial
  | x :: xs, b, off, h => by
    unfold Rdg.RdLg at h
    unfold Rd.RdL
    obtain ⟨⟨c0, c1, c2, c3, c4, c5, c6, g0, g1, g2, g3, g4, g5, g6, hx⟩, hr⟩ := h
    exact ⟨⟨c0, c1, c2, c3, c4, c5, c6, g0, g1, g2, g3, g4, g5, g6, Rdg.rd x _ hx⟩, go xs b (off + 7) hr⟩
def zeroV : Value := .agg #[.int .i64 0, .int .i64 0, .string ⟨#[]⟩, .bool false, .int .i64 0, .slice none 0 0, .slice none 0 0]
theorem rdg_zero (g : Nat → Prop) (W : World) : Rdg g W zeroE zeroV := by
  unfold zeroE Rdg
  exact ⟨_, _, rfl, ⟨none, 0, rfl, Nat.le_refl _, Nat.zero_le _, fun h => absurd h (by simp)⟩, none, 0, rfl, Nat.le_refl _, Nat.zero_le _, fun h => absurd rfl h⟩
def Gd (W : World) : Prop := Std W ∧ ∀ W', Q W W' → Lib.TabIs Tryz.prog W' "internal/strconv.uint64pow10" .u64 Lib.pow10Tab
theorem Gd.on {W W' : World} (h : Gd W) (q : Q W W') : Gd W' := ⟨h.1.on q, fun W2 q2 => h.2 W2 (q.trans q2)⟩
theorem rd_zero (W : World) : Rd W zeroE (.agg #[.int .i64 0, .int .i64 0, .string ⟨#[]⟩, .bool false, .int .i64 0, .slice none 0 0, .slice none 0 0]) := Rdg.rd _ _ (rdg_zero (fun _ => True) W)
theorem bytes_of (s : ByteArray) : (⟨s.data.toList.toArray⟩ : ByteArray) = s := by
  apply ByteArray.ext
  simp
set_option maxHeartbeats 4000000 in
theorem veq_any (k n : Int) (t : ByteArray) (b : Bool) (e : Int) (k' n' : Int) (t' : ByteArray) (b' : Bool) (e' : Int) (w : World) : Calls Tryz.prog 50 #[vx k n t b e, vx k' n' t' b' e'] w fun x w' => x = .returned (.bool (decide (k = k' ∧ n = n' ∧ t.data.toList = t'.data.toList ∧ b = b' ∧ e = e'))) ∧ Q w w' := by
  by_cases h0 : k = k'
  · by_cases h1 : n = n'
    · by_cases h2 : t.data.toList = t'.data.toList
      · by_cases h3 : b = b'
        · by_cases h4 : e = e'
          · have ht : t = t' := by rw [← bytes_of t, h2, bytes_of]
            subst h0 h1 ht h3 h4
            rw [decide_eq_true ⟨rfl, rfl, rfl, rfl, rfl⟩]
            exact veq_same k n t b e w
          · rw [decide_eq_false (fun x => h4 x.2.2.2.2)]
            have e0 : (k == k') = true := by simpa using h0
            have e1 : (n == n') = true := by simpa using h1
            have e2 : (t.toList == t'.toList) = true := by rw [Lib.toList_data, Lib.toList_data]; simpa using h2
            have e3 : (b == b') = true := by simpa using h3
            have e4 : (e == e') = false := by simpa using h4
            clear h0 h1 h2 h3 h4
            unfold vx
            go_enter Tryz.func50, Tryz.ntmps50
            go_wp2_with fail
            go_ret
            exact ⟨rfl, ((Q.refl _).alloc _).alloc _⟩
        · rw [decide_eq_false (fun x => h3 x.2.2.2.1)]
          have e0 : (k == k') = true := by simpa using h0
          have e1 : (n == n') = true := by simpa using h1
          have e2 : (t.toList == t'.toList) = true := by rw [Lib.toList_data, Lib.toList_data]; simpa using h2
          have e3 : (b == b') = false := by simpa using h3
          clear h0 h1 h2 h3
          unfold vx
          go_enter Tryz.func50, Tryz.ntmps50
          go_wp2_with fail
          go_ret
          exact ⟨rfl, ((Q.refl _).alloc _).alloc _⟩
      · rw [decide_eq_false (fun x => h2 x.2.2.1)]
        have e0 : (k == k') = true := by simpa using h0
        have e1 : (n == n') = true := by simpa using h1
        have e2 : (t.toList == t'.toList) = false := by rw [Lib.toList_data, Lib.toList_data]; simpa using h2
        clear h0 h1 h2
        unfold vx
        go_enter Tryz.func50, Tryz.ntmps50
        go_wp2_with fail
        go_ret
        exact ⟨rfl, ((Q.refl _).alloc _).alloc _⟩
    · rw [decide_eq_false (fun x => h1 x.2.1)]
      have e0 : (k == k') = true := by simpa using h0
      have e1 : (n == n') = false := by simpa using h1
      clear h0 h1
      unfold vx
      go_enter Tryz.func50, Tryz.ntmps50
      go_wp2_with fail
      go_ret
      exact ⟨rfl, ((Q.refl _).alloc _).alloc _⟩
  · rw [decide_eq_false (fun x => h0 x.1)]
    exact veq_kind k n t b e k' n' t' b' e' w h0
set_option maxHeartbeats 4000000 in
theorem req_any (k n : Int) (t : ByteArray) (b : Bool) (e : Int) (k' n' : Int) (t' : ByteArray) (b' : Bool) (e' : Int) (w : World) : Calls Tryz.prog 31 #[vx k n t b e, vx k' n' t' b' e'] w fun x w' => x = .returned (.bool (decide (k = k' ∧ n = n' ∧ t.data.toList = t'.data.toList ∧ b = b' ∧ e = e'))) ∧ Q w w' := by
  rw [show decide (k = k' ∧ n = n' ∧ t.data.toList = t'.data.toList ∧ b = b' ∧ e = e') = ((k == k') && ((n == n') && ((t.toList == t'.toList) && ((b == b') && (e == e'))))) by
    rw [Lib.toList_data, Lib.toList_data, Bool.eq_iff_iff]
    simp only [decide_eq_true_eq, Bool.and_eq_true, beq_iff_eq]]
  unfold vx
  cases h0 : (k == k')
  · go_enter Tryz.func31, Tryz.ntmps31
    go_wp2_with fail
    go_ret
    exact ⟨rfl, ((Q.refl _).alloc _).alloc _⟩
  · cases h1 : (n == n')
    · go_enter Tryz.func31, Tryz.ntmps31
      go_wp2_with fail
      go_ret
      exact ⟨rfl, ((Q.refl _).alloc _).alloc _⟩
    · cases h2 : (t.toList == t'.toList)
      · go_enter Tryz.func31, Tryz.ntmps31
        go_wp2_with fail
        go_ret
        exact ⟨rfl, ((Q.refl _).alloc _).alloc _⟩
      · cases h3 : (b == b')
        · go_enter Tryz.func31, Tryz.ntmps31
          go_wp2_with fail
          go_ret
          exact ⟨rfl, ((Q.refl _).alloc _).alloc _⟩
        · cases h4 : (e == e')
          all_goals
            go_enter Tryz.func31, Tryz.ntmps31
            go_wp2_with fail
            go_ret
            exact ⟨rfl, ((Q.refl _).alloc _).alloc _⟩
def isZ : Ex → Bool
  | .mk k n t b e rs ks => decide (k = 0 ∧ n = 0 ∧ t = [] ∧ b = false ∧ e = 0 ∧ rs = [] ∧ ks.length = 0)
theorem isZ_iff (x : Ex) : isZ x = true ↔ x = zeroE := by
  obtain ⟨k, n, t, b, e, rs, ks⟩ := x
  unfold isZ zeroE
  constructor
  · intro h
    simp only [decide_eq_true_eq] at h
    obtain ⟨rfl, rfl, rfl, rfl, rfl, rfl, h7⟩ := h
    rw [List.eq_nil_of_length_eq_zero h7]
  · intro h
    cases h
    decide
theorem ans_isZ {x : Ex} {e : Ending} (h : Ans (x = zeroE) e) : e = .returned (.bool (isZ x)) := by
  obtain ⟨r, he, hr⟩ := h
  rw [he]
  have : r = isZ x := by
    cases hz : isZ x
    · cases r
      · rfl
      · have := (isZ_iff x).2 (hr.1 rfl)
        rw [hz] at this
        cases this
    · exact hr.2 ((isZ_iff x).1 hz)
  rw [this]
set_option maxHeartbeats 4000000 in
theorem smay_val (vk vn : Int) (vt : ByteArray) (vb : Bool) (ve : Int) (k m : Int) (t : ByteArray) (bb : Bool) (er : Int) (a1 : Option Addr) (l1 c1 : Nat) (a2 : Option Addr) (l2 c2 : Nat) (X : Ex) (w : World) (hg : Gd w) (hv : vt.size ≤ 1000000) (hn : nodes X ≤ 1000) (hr : Rd w X (.agg #[.int .i64 k, .int .i64 m, .string t, .bool bb, .int .i64 er, .slice a1 l1 c1, .slice a2 l2 c2])) : Calls Tryz.prog 28 #[.agg #[.bool false, .int .i64 vk, .int .i64 vn, .string vt, .bool vb, .int .i64 ve, .int .i64 k, .int .i64 m, .string t, .bool bb, .int .i64 er, .slice a1 l1 c1, .slice a2 l2 c2]] w fun e W' => e = .returned (.bool (V.mayB vk vn vt.data.toList vb ve && isZ X)) ∧ Q w W' := by
  have HM := hid (fun W' (q : Q w W') => V.may_any vk vn vt vb ve W' (hg.1.on q) (by omega))
  unfold V.vv at HM
  rw [Lib.toList_data] at HM
  have HV := hid (fun W' (q : Q w W') => eq_any X zeroE _ _ W' (Rd.on q _ _ hr) (rd_zero W') hn)
  clear hr hg hv hn
  cases h1 : V.mayB vk vn vt.data.toList vb ve
  · rw [h1] at HM
    go_enter Tryz.func28, Tryz.ntmps28
    go_wp2_with (go_at_call 51; refine (HM.out _ ((Q.refl _).alloc _)).mono ?_; rintro e9 w1 ⟨rfl, q1⟩; have Q1 : Hid (Q w w1) := hid (((Q.refl _).alloc _).trans q1); clear q1)
    go_ret
    exact ⟨by simp, Q1.out⟩
  · rw [h1] at HM
    go_enter Tryz.func28, Tryz.ntmps28
    go_wp2_with (first | (go_at_call 51; refine (HM.out _ ((Q.refl _).alloc _)).mono ?_; rintro e9 w1 ⟨rfl, q1⟩; have Q1 : Hid (Q w w1) := hid (((Q.refl _).alloc _).trans q1); have Z1 := hid ((cb_new w [.bool false, .int .i64 vk, .int .i64 vn, .string vt, .bool vb, .int .i64 ve, .int .i64 k, .int .i64 m, .string t, .bool bb, .int .i64 er, .slice a1 l1 c1, .slice a2 l2 c2] 42).on q1); clear q1; have d0 := Z1.out.c 0 _ rfl; have d1 := Z1.out.c 1 _ rfl; have d2 := Z1.out.c 2 _ rfl; have d3 := Z1.out.c 3 _ rfl; have d4 := Z1.out.c 4 _ rfl; have d5 := Z1.out.c 5 _ rfl; have d6 := Z1.out.c 6 _ rfl; have d7 := Z1.out.c 7 _ rfl; have d8 := Z1.out.c 8 _ rfl; have d9 := Z1.out.c 9 _ rfl; have d10 := Z1.out.c 10 _ rfl; have d11 := Z1.out.c 11 _ rfl; have d12 := Z1.out.c 12 _ rfl) | (go_at_call 52; refine (HV.out _ Q1.out).mono ?_; rintro e9 w2 ⟨ha, q2⟩; have he := ans_isZ ha; subst he; have Q2 := hid (Q1.out.trans q2); clear q2 ha))
    go_ret
    exact ⟨by simp, Q2.out⟩
set_option maxHeartbeats 4000000 in
theorem samecell_any (f : Bool) (vk vn : Int) (vt : ByteArray) (vb : Bool) (ve : Int) (k m : Int) (t : ByteArray) (bb : Bool) (er : Int) (a1 : Option Addr) (l1 c1 : Nat) (a2 : Option Addr) (l2 c2 : Nat) (f' : Bool) (vk' vn' : Int) (vt' : ByteArray) (vb' : Bool) (ve' : Int) (k' m' : Int) (t' : ByteArray) (bb' : Bool) (er' : Int) (a1' : Option Addr) (l1' c1' : Nat) (a2' : Option Addr) (l2' c2' : Nat) (X Y : Ex) (b : Bool) (w : World) (hr : Rd w X (.agg #[.int .i64 k, .int .i64 m, .string t, .bool bb, .int .i64 er, .slice a1 l1 c1, .slice a2 l2 c2])) (hr' : Rd w Y (.agg #[.int .i64 k', .int .i64 m', .string t', .bool bb', .int .i64 er', .slice a1' l1' c1', .slice a2' l2' c2'])) (hn : nodes X ≤ 1000) (hb : b = true ↔ (f = f' ∧ (vk = vk' ∧ vn = vn' ∧ vt.data.toList = vt'.data.toList ∧ vb = vb' ∧ ve = ve') ∧ X = Y)) : Calls Tryz.prog 101 #[.agg #[.bool f, .int .i64 vk, .int .i64 vn, .string vt, .bool vb, .int .i64 ve, .int .i64 k, .int .i64 m, .string t, .bool bb, .int .i64 er, .slice a1 l1 c1, .slice a2 l2 c2], .agg #[.bool f', .int .i64 vk', .int .i64 vn', .string vt', .bool vb', .int .i64 ve', .int .i64 k', .int .i64 m', .string t', .bool bb', .int .i64 er', .slice a1' l1' c1', .slice a2' l2' c2']] w fun e W' => e = .returned (.bool b) ∧ Q w W' := by
  have HV := hid (fun W' => veq_any vk vn vt vb ve vk' vn' vt' vb' ve' W')
  have HE := hid (fun W' (q : Q w W') => eq_any X Y _ _ W' (Rd.on q _ _ hr) (Rd.on q _ _ hr') hn)
  obtain ⟨rr, hrr⟩ : ∃ rr, decide (vk = vk' ∧ vn = vn' ∧ vt.data.toList = vt'.data.toList ∧ vb = vb' ∧ ve = ve') = rr := ⟨_, rfl⟩
  rw [hrr] at HV
  unfold vx at HV
  clear hr hr'
  by_cases hf : f = f'
  · have e0 : (f == f') = true := by simpa using hf
    cases rr with
    | true =>
      have hv := of_decide_eq_true hrr
      have HB : Hid (∀ e, Ans (X = Y) e → e = .returned (.bool b)) := hid (fun e ⟨r, he, hr⟩ => by
        rw [he, show r = b from Bool.eq_iff_iff.2 (hr.trans ⟨fun x => hb.2 ⟨hf, hv, x⟩, fun x => (hb.1 x).2.2⟩)])
      clear hb hf hv hrr
      go_enter Tryz.func101, Tryz.ntmps101
      go_upto_region 1 with fail
      have Z1 := hid ((cb_new w [.bool f, .int .i64 vk, .int .i64 vn, .string vt, .bool vb, .int .i64 ve, .int .i64 k, .int .i64 m, .string t, .bool bb, .int .i64 er, .slice a1 l1 c1, .slice a2 l2 c2] 42).on ((Q.refl _).alloc (.cells #[.bool f', .int .i64 vk', .int .i64 vn', .string vt', .bool vb', .int .i64 ve', .int .i64 k', .int .i64 m', .string t', .bool bb', .int .i64 er', .slice a1' l1' c1', .slice a2' l2' c2'] 42)))
      have Z2 := hid (cb_new (w.alloc (.cells #[.bool f, .int .i64 vk, .int .i64 vn, .string vt, .bool vb, .int .i64 ve, .int .i64 k, .int .i64 m, .string t, .bool bb, .int .i64 er, .slice a1 l1 c1, .slice a2 l2 c2] 42)) [.bool f', .int .i64 vk', .int .i64 vn', .string vt', .bool vb', .int .i64 ve', .int .i64 k', .int .i64 m', .string t', .bool bb', .int .i64 er', .slice a1' l1' c1', .slice a2' l2' c2'] 42)
      have QA : Hid (Q w ((w.alloc (.cells #[.bool f, .int .i64 vk, .int .i64 vn, .string vt, .bool vb, .int .i64 ve, .int .i64 k, .int .i64 m, .string t, .bool bb, .int .i64 er, .slice a1 l1 c1, .slice a2 l2 c2] 42)).alloc (.cells #[.bool f', .int .i64 vk', .int .i64 vn', .string vt', .bool vb', .int .i64 ve', .int .i64 k', .int .i64 m', .string t', .bool bb', .int .i64 er', .slice a1' l1' c1', .slice a2' l2' c2'] 42))) := hid (((Q.refl w).alloc _).alloc _)
      rw [show ([.bool f, .int .i64 vk, .int .i64 vn, .string vt, .bool vb, .int .i64 ve, .int .i64 k, .int .i64 m, .string t, .bool bb, .int .i64 er, .slice a1 l1 c1, .slice a2 l2 c2] : List Value).toArray = #[.bool f, .int .i64 vk, .int .i64 vn, .string vt, .bool vb, .int .i64 ve, .int .i64 k, .int .i64 m, .string t, .bool bb, .int .i64 er, .slice a1 l1 c1, .slice a2 l2 c2] from rfl] at Z1
      rw [show ([.bool f', .int .i64 vk', .int .i64 vn', .string vt', .bool vb', .int .i64 ve', .int .i64 k', .int .i64 m', .string t', .bool bb', .int .i64 er', .slice a1' l1' c1', .slice a2' l2' c2'] : List Value).toArray = #[.bool f', .int .i64 vk', .int .i64 vn', .string vt', .bool vb', .int .i64 ve', .int .i64 k', .int .i64 m', .string t', .bool bb', .int .i64 er', .slice a1' l1' c1', .slice a2' l2' c2'] from rfl, show (w.alloc (.cells #[.bool f, .int .i64 vk, .int .i64 vn, .string vt, .bool vb, .int .i64 ve, .int .i64 k, .int .i64 m, .string t, .bool bb, .int .i64 er, .slice a1 l1 c1, .slice a2 l2 c2] 42)).heap.size = w.heap.size + 1 by simp] at Z2
      generalize ((w.alloc (.cells #[.bool f, .int .i64 vk, .int .i64 vn, .string vt, .bool vb, .int .i64 ve, .int .i64 k, .int .i64 m, .string t, .bool bb, .int .i64 er, .slice a1 l1 c1, .slice a2 l2 c2] 42)).alloc (.cells #[.bool f', .int .i64 vk', .int .i64 vn', .string vt', .bool vb', .int .i64 ve', .int .i64 k', .int .i64 m', .string t', .bool bb', .int .i64 er', .slice a1' l1' c1', .slice a2' l2' c2'] 42)) = w2 at Z1 Z2 QA ⊢
      generalize w.heap.size + 1 = b1 at Z2 ⊢
      generalize w.heap.size = b0 at Z1 ⊢
      have d0 := Z1.out.c 0 _ rfl
      have d1 := Z1.out.c 1 _ rfl
      have d2 := Z1.out.c 2 _ rfl
      have d3 := Z1.out.c 3 _ rfl
      have d4 := Z1.out.c 4 _ rfl
      have d5 := Z1.out.c 5 _ rfl
      have d6 := Z1.out.c 6 _ rfl
      have d7 := Z1.out.c 7 _ rfl
      have d8 := Z1.out.c 8 _ rfl
      have d9 := Z1.out.c 9 _ rfl
      have d10 := Z1.out.c 10 _ rfl
      have d11 := Z1.out.c 11 _ rfl
      have d12 := Z1.out.c 12 _ rfl
      have n0 := Z2.out.c 0 _ rfl
      have n1 := Z2.out.c 1 _ rfl
      have n2 := Z2.out.c 2 _ rfl
      have n3 := Z2.out.c 3 _ rfl
      have n4 := Z2.out.c 4 _ rfl
      have n5 := Z2.out.c 5 _ rfl
      have n6 := Z2.out.c 6 _ rfl
      have n7 := Z2.out.c 7 _ rfl
      have n8 := Z2.out.c 8 _ rfl
      have n9 := Z2.out.c 9 _ rfl
      have n10 := Z2.out.c 10 _ rfl
      have n11 := Z2.out.c 11 _ rfl
      have n12 := Z2.out.c 12 _ rfl
      go_wp2_with (first | (go_at_call 50; refine (HV.out _).mono ?_; rintro e9 w3 ⟨rfl, q3⟩; have Z13 := hid (Z1.out.on q3); have Z23 := hid (Z2.out.on q3); have Q3 : Hid (Q w w3) := hid (QA.out.trans q3); clear q3; have x0 := Z13.out.c 0 _ rfl; have x1 := Z13.out.c 1 _ rfl; have x2 := Z13.out.c 2 _ rfl; have x3 := Z13.out.c 3 _ rfl; have x4 := Z13.out.c 4 _ rfl; have x5 := Z13.out.c 5 _ rfl; have x6 := Z13.out.c 6 _ rfl; have x7 := Z13.out.c 7 _ rfl; have x8 := Z13.out.c 8 _ rfl; have x9 := Z13.out.c 9 _ rfl; have x10 := Z13.out.c 10 _ rfl; have x11 := Z13.out.c 11 _ rfl; have x12 := Z13.out.c 12 _ rfl; have y0 := Z23.out.c 0 _ rfl; have y1 := Z23.out.c 1 _ rfl; have y2 := Z23.out.c 2 _ rfl; have y3 := Z23.out.c 3 _ rfl; have y4 := Z23.out.c 4 _ rfl; have y5 := Z23.out.c 5 _ rfl; have y6 := Z23.out.c 6 _ rfl; have y7 := Z23.out.c 7 _ rfl; have y8 := Z23.out.c 8 _ rfl; have y9 := Z23.out.c 9 _ rfl; have y10 := Z23.out.c 10 _ rfl; have y11 := Z23.out.c 11 _ rfl; have y12 := Z23.out.c 12 _ rfl) | (go_at_call 52; refine (HE.out _ Q3.out).mono ?_; rintro e9 w4 ⟨ha, q4⟩; have he := HB.out _ ha; subst he; have Q4 : Hid (Q w w4) := hid (Q3.out.trans q4); clear q4 ha))
      go_ret
      exact ⟨rfl, Q4.out⟩
    | false =>
      have HB : Hid (b = false) := hid (by
        cases b with
        | false => rfl
        | true => exact absurd (hb.1 rfl).2.1 (of_decide_eq_false hrr))
      clear hb hf hrr
      go_enter Tryz.func101, Tryz.ntmps101
      go_upto_region 1 with fail
      have Z1 := hid ((cb_new w [.bool f, .int .i64 vk, .int .i64 vn, .string vt, .bool vb, .int .i64 ve, .int .i64 k, .int .i64 m, .string t, .bool bb, .int .i64 er, .slice a1 l1 c1, .slice a2 l2 c2] 42).on ((Q.refl _).alloc (.cells #[.bool f', .int .i64 vk', .int .i64 vn', .string vt', .bool vb', .int .i64 ve', .int .i64 k', .int .i64 m', .string t', .bool bb', .int .i64 er', .slice a1' l1' c1', .slice a2' l2' c2'] 42)))
      have Z2 := hid (cb_new (w.alloc (.cells #[.bool f, .int .i64 vk, .int .i64 vn, .string vt, .bool vb, .int .i64 ve, .int .i64 k, .int .i64 m, .string t, .bool bb, .int .i64 er, .slice a1 l1 c1, .slice a2 l2 c2] 42)) [.bool f', .int .i64 vk', .int .i64 vn', .string vt', .bool vb', .int .i64 ve', .int .i64 k', .int .i64 m', .string t', .bool bb', .int .i64 er', .slice a1' l1' c1', .slice a2' l2' c2'] 42)
      have QA : Hid (Q w ((w.alloc (.cells #[.bool f, .int .i64 vk, .int .i64 vn, .string vt, .bool vb, .int .i64 ve, .int .i64 k, .int .i64 m, .string t, .bool bb, .int .i64 er, .slice a1 l1 c1, .slice a2 l2 c2] 42)).alloc (.cells #[.bool f', .int .i64 vk', .int .i64 vn', .string vt', .bool vb', .int .i64 ve', .int .i64 k', .int .i64 m', .string t', .bool bb', .int .i64 er', .slice a1' l1' c1', .slice a2' l2' c2'] 42))) := hid (((Q.refl w).alloc _).alloc _)
      rw [show ([.bool f, .int .i64 vk, .int .i64 vn, .string vt, .bool vb, .int .i64 ve, .int .i64 k, .int .i64 m, .string t, .bool bb, .int .i64 er, .slice a1 l1 c1, .slice a2 l2 c2] : List Value).toArray = #[.bool f, .int .i64 vk, .int .i64 vn, .string vt, .bool vb, .int .i64 ve, .int .i64 k, .int .i64 m, .string t, .bool bb, .int .i64 er, .slice a1 l1 c1, .slice a2 l2 c2] from rfl] at Z1
      rw [show ([.bool f', .int .i64 vk', .int .i64 vn', .string vt', .bool vb', .int .i64 ve', .int .i64 k', .int .i64 m', .string t', .bool bb', .int .i64 er', .slice a1' l1' c1', .slice a2' l2' c2'] : List Value).toArray = #[.bool f', .int .i64 vk', .int .i64 vn', .string vt', .bool vb', .int .i64 ve', .int .i64 k', .int .i64 m', .string t', .bool bb', .int .i64 er', .slice a1' l1' c1', .slice a2' l2' c2'] from rfl, show (w.alloc (.cells #[.bool f, .int .i64 vk, .int .i64 vn, .string vt, .bool vb, .int .i64 ve, .int .i64 k, .int .i64 m, .string t, .bool bb, .int .i64 er, .slice a1 l1 c1, .slice a2 l2 c2] 42)).heap.size = w.heap.size + 1 by simp] at Z2
      generalize ((w.alloc (.cells #[.bool f, .int .i64 vk, .int .i64 vn, .string vt, .bool vb, .int .i64 ve, .int .i64 k, .int .i64 m, .string t, .bool bb, .int .i64 er, .slice a1 l1 c1, .slice a2 l2 c2] 42)).alloc (.cells #[.bool f', .int .i64 vk', .int .i64 vn', .string vt', .bool vb', .int .i64 ve', .int .i64 k', .int .i64 m', .string t', .bool bb', .int .i64 er', .slice a1' l1' c1', .slice a2' l2' c2'] 42)) = w2 at Z1 Z2 QA ⊢
      generalize w.heap.size + 1 = b1 at Z2 ⊢
      generalize w.heap.size = b0 at Z1 ⊢
      have d0 := Z1.out.c 0 _ rfl
      have d1 := Z1.out.c 1 _ rfl
      have d2 := Z1.out.c 2 _ rfl
      have d3 := Z1.out.c 3 _ rfl
      have d4 := Z1.out.c 4 _ rfl
      have d5 := Z1.out.c 5 _ rfl
      have d6 := Z1.out.c 6 _ rfl
      have d7 := Z1.out.c 7 _ rfl
      have d8 := Z1.out.c 8 _ rfl
      have d9 := Z1.out.c 9 _ rfl
      have d10 := Z1.out.c 10 _ rfl
      have d11 := Z1.out.c 11 _ rfl
      have d12 := Z1.out.c 12 _ rfl
      have n0 := Z2.out.c 0 _ rfl
      have n1 := Z2.out.c 1 _ rfl
      have n2 := Z2.out.c 2 _ rfl
      have n3 := Z2.out.c 3 _ rfl
      have n4 := Z2.out.c 4 _ rfl
      have n5 := Z2.out.c 5 _ rfl
      have n6 := Z2.out.c 6 _ rfl
      have n7 := Z2.out.c 7 _ rfl
      have n8 := Z2.out.c 8 _ rfl
      have n9 := Z2.out.c 9 _ rfl
      have n10 := Z2.out.c 10 _ rfl
      have n11 := Z2.out.c 11 _ rfl
      have n12 := Z2.out.c 12 _ rfl
      go_wp2_with (go_at_call 50; refine (HV.out _).mono ?_; rintro e9 w3 ⟨rfl, q3⟩; have Q3 : Hid (Q w w3) := hid (QA.out.trans q3); clear q3)
      go_ret
      exact ⟨ret_bool HB.out.symm, Q3.out⟩
  · have e0 : (f == f') = false := by simpa using hf
    have HB : Hid (b = false) := hid (by
      cases b with
      | false => rfl
      | true => exact absurd (hb.1 rfl).1 hf)
    clear hb hf hrr
    go_enter Tryz.func101, Tryz.ntmps101
    go_upto_region 1 with fail
    have Z1 := hid ((cb_new w [.bool f, .int .i64 vk, .int .i64 vn, .string vt, .bool vb, .int .i64 ve, .int .i64 k, .int .i64 m, .string t, .bool bb, .int .i64 er, .slice a1 l1 c1, .slice a2 l2 c2] 42).on ((Q.refl _).alloc (.cells #[.bool f', .int .i64 vk', .int .i64 vn', .string vt', .bool vb', .int .i64 ve', .int .i64 k', .int .i64 m', .string t', .bool bb', .int .i64 er', .slice a1' l1' c1', .slice a2' l2' c2'] 42)))
    have Z2 := hid (cb_new (w.alloc (.cells #[.bool f, .int .i64 vk, .int .i64 vn, .string vt, .bool vb, .int .i64 ve, .int .i64 k, .int .i64 m, .string t, .bool bb, .int .i64 er, .slice a1 l1 c1, .slice a2 l2 c2] 42)) [.bool f', .int .i64 vk', .int .i64 vn', .string vt', .bool vb', .int .i64 ve', .int .i64 k', .int .i64 m', .string t', .bool bb', .int .i64 er', .slice a1' l1' c1', .slice a2' l2' c2'] 42)
    have QA : Hid (Q w ((w.alloc (.cells #[.bool f, .int .i64 vk, .int .i64 vn, .string vt, .bool vb, .int .i64 ve, .int .i64 k, .int .i64 m, .string t, .bool bb, .int .i64 er, .slice a1 l1 c1, .slice a2 l2 c2] 42)).alloc (.cells #[.bool f', .int .i64 vk', .int .i64 vn', .string vt', .bool vb', .int .i64 ve', .int .i64 k', .int .i64 m', .string t', .bool bb', .int .i64 er', .slice a1' l1' c1', .slice a2' l2' c2'] 42))) := hid (((Q.refl w).alloc _).alloc _)
    rw [show ([.bool f, .int .i64 vk, .int .i64 vn, .string vt, .bool vb, .int .i64 ve, .int .i64 k, .int .i64 m, .string t, .bool bb, .int .i64 er, .slice a1 l1 c1, .slice a2 l2 c2] : List Value).toArray = #[.bool f, .int .i64 vk, .int .i64 vn, .string vt, .bool vb, .int .i64 ve, .int .i64 k, .int .i64 m, .string t, .bool bb, .int .i64 er, .slice a1 l1 c1, .slice a2 l2 c2] from rfl] at Z1
    rw [show ([.bool f', .int .i64 vk', .int .i64 vn', .string vt', .bool vb', .int .i64 ve', .int .i64 k', .int .i64 m', .string t', .bool bb', .int .i64 er', .slice a1' l1' c1', .slice a2' l2' c2'] : List Value).toArray = #[.bool f', .int .i64 vk', .int .i64 vn', .string vt', .bool vb', .int .i64 ve', .int .i64 k', .int .i64 m', .string t', .bool bb', .int .i64 er', .slice a1' l1' c1', .slice a2' l2' c2'] from rfl, show (w.alloc (.cells #[.bool f, .int .i64 vk, .int .i64 vn, .string vt, .bool vb, .int .i64 ve, .int .i64 k, .int .i64 m, .string t, .bool bb, .int .i64 er, .slice a1 l1 c1, .slice a2 l2 c2] 42)).heap.size = w.heap.size + 1 by simp] at Z2
    generalize ((w.alloc (.cells #[.bool f, .int .i64 vk, .int .i64 vn, .string vt, .bool vb, .int .i64 ve, .int .i64 k, .int .i64 m, .string t, .bool bb, .int .i64 er, .slice a1 l1 c1, .slice a2 l2 c2] 42)).alloc (.cells #[.bool f', .int .i64 vk', .int .i64 vn', .string vt', .bool vb', .int .i64 ve', .int .i64 k', .int .i64 m', .string t', .bool bb', .int .i64 er', .slice a1' l1' c1', .slice a2' l2' c2'] 42)) = w2 at Z1 Z2 QA ⊢
    generalize w.heap.size + 1 = b1 at Z2 ⊢
    generalize w.heap.size = b0 at Z1 ⊢
    have d0 := Z1.out.c 0 _ rfl
    have d1 := Z1.out.c 1 _ rfl
    have d2 := Z1.out.c 2 _ rfl
    have d3 := Z1.out.c 3 _ rfl
    have d4 := Z1.out.c 4 _ rfl
    have d5 := Z1.out.c 5 _ rfl
    have d6 := Z1.out.c 6 _ rfl
    have d7 := Z1.out.c 7 _ rfl
    have d8 := Z1.out.c 8 _ rfl
    have d9 := Z1.out.c 9 _ rfl
    have d10 := Z1.out.c 10 _ rfl
    have d11 := Z1.out.c 11 _ rfl
    have d12 := Z1.out.c 12 _ rfl
    have n0 := Z2.out.c 0 _ rfl
    have n1 := Z2.out.c 1 _ rfl
    have n2 := Z2.out.c 2 _ rfl
    have n3 := Z2.out.c 3 _ rfl
    have n4 := Z2.out.c 4 _ rfl
    have n5 := Z2.out.c 5 _ rfl
    have n6 := Z2.out.c 6 _ rfl
    have n7 := Z2.out.c 7 _ rfl
    have n8 := Z2.out.c 8 _ rfl
    have n9 := Z2.out.c 9 _ rfl
    have n10 := Z2.out.c 10 _ rfl
    have n11 := Z2.out.c 11 _ rfl
    have n12 := Z2.out.c 12 _ rfl
    go_wp2_with fail
    go_ret
    exact ⟨ret_bool HB.out.symm, QA.out⟩
set_option maxHeartbeats 4000000 in
theorem eqcell_any (f : Bool) (vk vn : Int) (vt : ByteArray) (vb : Bool) (ve : Int) (k m : Int) (t : ByteArray) (bb : Bool) (er : Int) (a1 : Option Addr) (l1 c1 : Nat) (a2 : Option Addr) (l2 c2 : Nat) (f' : Bool) (vk' vn' : Int) (vt' : ByteArray) (vb' : Bool) (ve' : Int) (k' m' : Int) (t' : ByteArray) (bb' : Bool) (er' : Int) (a1' : Option Addr) (l1' c1' : Nat) (a2' : Option Addr) (l2' c2' : Nat) (X Y : Ex) (b : Bool) (w : World) (hr : Rd w X (.agg #[.int .i64 k, .int .i64 m, .string t, .bool bb, .int .i64 er, .slice a1 l1 c1, .slice a2 l2 c2])) (hr' : Rd w Y (.agg #[.int .i64 k', .int .i64 m', .string t', .bool bb', .int .i64 er', .slice a1' l1' c1', .slice a2' l2' c2'])) (hb : b = true ↔ (f = f' ∧ (vk = vk' ∧ vn = vn' ∧ vt.data.toList = vt'.data.toList ∧ vb = vb' ∧ ve = ve') ∧ X = Y)) : Calls Tryz.prog 18 #[.agg #[.bool f, .int .i64 vk, .int .i64 vn, .string vt, .bool vb, .int .i64 ve, .int .i64 k, .int .i64 m, .string t, .bool bb, .int .i64 er, .slice a1 l1 c1, .slice a2 l2 c2], .agg #[.bool f', .int .i64 vk', .int .i64 vn', .string vt', .bool vb', .int .i64 ve', .int .i64 k', .int .i64 m', .string t', .bool bb', .int .i64 er', .slice a1' l1' c1', .slice a2' l2' c2']] w fun e W' => e = .returned (.bool b) ∧ Q w W' := by
  have HV := hid (fun W' => req_any vk vn vt vb ve vk' vn' vt' vb' ve' W')
  have HE := hid (fun W' (q : Q w W') => eqexpr_any _ X Y _ _ W' (Nat.le_refl _) (Rd.on q _ _ hr) (Rd.on q _ _ hr'))
  obtain ⟨rr, hrr⟩ : ∃ rr, decide (vk = vk' ∧ vn = vn' ∧ vt.data.toList = vt'.data.toList ∧ vb = vb' ∧ ve = ve') = rr := ⟨_, rfl⟩
  rw [hrr] at HV
  unfold vx at HV
  clear hr hr'
  by_cases hf : f = f'
  · have e0 : (f == f') = true := by simpa using hf
    cases rr with
    | true =>
      have hv := of_decide_eq_true hrr
      have HB : Hid (∀ e, Ans (X = Y) e → e = .returned (.bool b)) := hid (fun e ⟨r, he, hr⟩ => by
        rw [he, show r = b from Bool.eq_iff_iff.2 (hr.trans ⟨fun x => hb.2 ⟨hf, hv, x⟩, fun x => (hb.1 x).2.2⟩)])
      clear hb hf hv hrr
      go_enter Tryz.func18, Tryz.ntmps18
      go_upto_region 1 with fail
      have Z1 := hid ((cb_new w [.bool f, .int .i64 vk, .int .i64 vn, .string vt, .bool vb, .int .i64 ve, .int .i64 k, .int .i64 m, .string t, .bool bb, .int .i64 er, .slice a1 l1 c1, .slice a2 l2 c2] 42).on ((Q.refl _).alloc (.cells #[.bool f', .int .i64 vk', .int .i64 vn', .string vt', .bool vb', .int .i64 ve', .int .i64 k', .int .i64 m', .string t', .bool bb', .int .i64 er', .slice a1' l1' c1', .slice a2' l2' c2'] 42)))
      have Z2 := hid (cb_new (w.alloc (.cells #[.bool f, .int .i64 vk, .int .i64 vn, .string vt, .bool vb, .int .i64 ve, .int .i64 k, .int .i64 m, .string t, .bool bb, .int .i64 er, .slice a1 l1 c1, .slice a2 l2 c2] 42)) [.bool f', .int .i64 vk', .int .i64 vn', .string vt', .bool vb', .int .i64 ve', .int .i64 k', .int .i64 m', .string t', .bool bb', .int .i64 er', .slice a1' l1' c1', .slice a2' l2' c2'] 42)
      have QA : Hid (Q w ((w.alloc (.cells #[.bool f, .int .i64 vk, .int .i64 vn, .string vt, .bool vb, .int .i64 ve, .int .i64 k, .int .i64 m, .string t, .bool bb, .int .i64 er, .slice a1 l1 c1, .slice a2 l2 c2] 42)).alloc (.cells #[.bool f', .int .i64 vk', .int .i64 vn', .string vt', .bool vb', .int .i64 ve', .int .i64 k', .int .i64 m', .string t', .bool bb', .int .i64 er', .slice a1' l1' c1', .slice a2' l2' c2'] 42))) := hid (((Q.refl w).alloc _).alloc _)
      rw [show ([.bool f, .int .i64 vk, .int .i64 vn, .string vt, .bool vb, .int .i64 ve, .int .i64 k, .int .i64 m, .string t, .bool bb, .int .i64 er, .slice a1 l1 c1, .slice a2 l2 c2] : List Value).toArray = #[.bool f, .int .i64 vk, .int .i64 vn, .string vt, .bool vb, .int .i64 ve, .int .i64 k, .int .i64 m, .string t, .bool bb, .int .i64 er, .slice a1 l1 c1, .slice a2 l2 c2] from rfl] at Z1
      rw [show ([.bool f', .int .i64 vk', .int .i64 vn', .string vt', .bool vb', .int .i64 ve', .int .i64 k', .int .i64 m', .string t', .bool bb', .int .i64 er', .slice a1' l1' c1', .slice a2' l2' c2'] : List Value).toArray = #[.bool f', .int .i64 vk', .int .i64 vn', .string vt', .bool vb', .int .i64 ve', .int .i64 k', .int .i64 m', .string t', .bool bb', .int .i64 er', .slice a1' l1' c1', .slice a2' l2' c2'] from rfl, show (w.alloc (.cells #[.bool f, .int .i64 vk, .int .i64 vn, .string vt, .bool vb, .int .i64 ve, .int .i64 k, .int .i64 m, .string t, .bool bb, .int .i64 er, .slice a1 l1 c1, .slice a2 l2 c2] 42)).heap.size = w.heap.size + 1 by simp] at Z2
      generalize ((w.alloc (.cells #[.bool f, .int .i64 vk, .int .i64 vn, .string vt, .bool vb, .int .i64 ve, .int .i64 k, .int .i64 m, .string t, .bool bb, .int .i64 er, .slice a1 l1 c1, .slice a2 l2 c2] 42)).alloc (.cells #[.bool f', .int .i64 vk', .int .i64 vn', .string vt', .bool vb', .int .i64 ve', .int .i64 k', .int .i64 m', .string t', .bool bb', .int .i64 er', .slice a1' l1' c1', .slice a2' l2' c2'] 42)) = w2 at Z1 Z2 QA ⊢
      generalize w.heap.size + 1 = b1 at Z2 ⊢
      generalize w.heap.size = b0 at Z1 ⊢
      have d0 := Z1.out.c 0 _ rfl
      have d1 := Z1.out.c 1 _ rfl
      have d2 := Z1.out.c 2 _ rfl
      have d3 := Z1.out.c 3 _ rfl
      have d4 := Z1.out.c 4 _ rfl
      have d5 := Z1.out.c 5 _ rfl
      have d6 := Z1.out.c 6 _ rfl
      have d7 := Z1.out.c 7 _ rfl
      have d8 := Z1.out.c 8 _ rfl
      have d9 := Z1.out.c 9 _ rfl
      have d10 := Z1.out.c 10 _ rfl
      have d11 := Z1.out.c 11 _ rfl
      have d12 := Z1.out.c 12 _ rfl
      have n0 := Z2.out.c 0 _ rfl
      have n1 := Z2.out.c 1 _ rfl
      have n2 := Z2.out.c 2 _ rfl
      have n3 := Z2.out.c 3 _ rfl
      have n4 := Z2.out.c 4 _ rfl
      have n5 := Z2.out.c 5 _ rfl
      have n6 := Z2.out.c 6 _ rfl
      have n7 := Z2.out.c 7 _ rfl
      have n8 := Z2.out.c 8 _ rfl
      have n9 := Z2.out.c 9 _ rfl
      have n10 := Z2.out.c 10 _ rfl
      have n11 := Z2.out.c 11 _ rfl
      have n12 := Z2.out.c 12 _ rfl
      go_wp2_with (first | (go_at_call 31; refine (HV.out _).mono ?_; rintro e9 w3 ⟨rfl, q3⟩; have Z13 := hid (Z1.out.on q3); have Z23 := hid (Z2.out.on q3); have Q3 : Hid (Q w w3) := hid (QA.out.trans q3); clear q3; have x0 := Z13.out.c 0 _ rfl; have x1 := Z13.out.c 1 _ rfl; have x2 := Z13.out.c 2 _ rfl; have x3 := Z13.out.c 3 _ rfl; have x4 := Z13.out.c 4 _ rfl; have x5 := Z13.out.c 5 _ rfl; have x6 := Z13.out.c 6 _ rfl; have x7 := Z13.out.c 7 _ rfl; have x8 := Z13.out.c 8 _ rfl; have x9 := Z13.out.c 9 _ rfl; have x10 := Z13.out.c 10 _ rfl; have x11 := Z13.out.c 11 _ rfl; have x12 := Z13.out.c 12 _ rfl; have y0 := Z23.out.c 0 _ rfl; have y1 := Z23.out.c 1 _ rfl; have y2 := Z23.out.c 2 _ rfl; have y3 := Z23.out.c 3 _ rfl; have y4 := Z23.out.c 4 _ rfl; have y5 := Z23.out.c 5 _ rfl; have y6 := Z23.out.c 6 _ rfl; have y7 := Z23.out.c 7 _ rfl; have y8 := Z23.out.c 8 _ rfl; have y9 := Z23.out.c 9 _ rfl; have y10 := Z23.out.c 10 _ rfl; have y11 := Z23.out.c 11 _ rfl; have y12 := Z23.out.c 12 _ rfl) | (go_at_call 33; refine (HE.out _ Q3.out).mono ?_; rintro e9 w4 ⟨ha, q4⟩; have he := HB.out _ ha; subst he; have Q4 : Hid (Q w w4) := hid (Q3.out.trans q4); clear q4 ha))
      go_ret
      exact ⟨rfl, Q4.out⟩
    | false =>
      have HB : Hid (b = false) := hid (by
        cases b with
        | false => rfl
        | true => exact absurd (hb.1 rfl).2.1 (of_decide_eq_false hrr))
      clear hb hf hrr
      go_enter Tryz.func18, Tryz.ntmps18
      go_upto_region 1 with fail
      have Z1 := hid ((cb_new w [.bool f, .int .i64 vk, .int .i64 vn, .string vt, .bool vb, .int .i64 ve, .int .i64 k, .int .i64 m, .string t, .bool bb, .int .i64 er, .slice a1 l1 c1, .slice a2 l2 c2] 42).on ((Q.refl _).alloc (.cells #[.bool f', .int .i64 vk', .int .i64 vn', .string vt', .bool vb', .int .i64 ve', .int .i64 k', .int .i64 m', .string t', .bool bb', .int .i64 er', .slice a1' l1' c1', .slice a2' l2' c2'] 42)))
      have Z2 := hid (cb_new (w.alloc (.cells #[.bool f, .int .i64 vk, .int .i64 vn, .string vt, .bool vb, .int .i64 ve, .int .i64 k, .int .i64 m, .string t, .bool bb, .int .i64 er, .slice a1 l1 c1, .slice a2 l2 c2] 42)) [.bool f', .int .i64 vk', .int .i64 vn', .string vt', .bool vb', .int .i64 ve', .int .i64 k', .int .i64 m', .string t', .bool bb', .int .i64 er', .slice a1' l1' c1', .slice a2' l2' c2'] 42)
      have QA : Hid (Q w ((w.alloc (.cells #[.bool f, .int .i64 vk, .int .i64 vn, .string vt, .bool vb, .int .i64 ve, .int .i64 k, .int .i64 m, .string t, .bool bb, .int .i64 er, .slice a1 l1 c1, .slice a2 l2 c2] 42)).alloc (.cells #[.bool f', .int .i64 vk', .int .i64 vn', .string vt', .bool vb', .int .i64 ve', .int .i64 k', .int .i64 m', .string t', .bool bb', .int .i64 er', .slice a1' l1' c1', .slice a2' l2' c2'] 42))) := hid (((Q.refl w).alloc _).alloc _)
      rw [show ([.bool f, .int .i64 vk, .int .i64 vn, .string vt, .bool vb, .int .i64 ve, .int .i64 k, .int .i64 m, .string t, .bool bb, .int .i64 er, .slice a1 l1 c1, .slice a2 l2 c2] : List Value).toArray = #[.bool f, .int .i64 vk, .int .i64 vn, .string vt, .bool vb, .int .i64 ve, .int .i64 k, .int .i64 m, .string t, .bool bb, .int .i64 er, .slice a1 l1 c1, .slice a2 l2 c2] from rfl] at Z1
      rw [show ([.bool f', .int .i64 vk', .int .i64 vn', .string vt', .bool vb', .int .i64 ve', .int .i64 k', .int .i64 m', .string t', .bool bb', .int .i64 er', .slice a1' l1' c1', .slice a2' l2' c2'] : List Value).toArray = #[.bool f', .int .i64 vk', .int .i64 vn', .string vt', .bool vb', .int .i64 ve', .int .i64 k', .int .i64 m', .string t', .bool bb', .int .i64 er', .slice a1' l1' c1', .slice a2' l2' c2'] from rfl, show (w.alloc (.cells #[.bool f, .int .i64 vk, .int .i64 vn, .string vt, .bool vb, .int .i64 ve, .int .i64 k, .int .i64 m, .string t, .bool bb, .int .i64 er, .slice a1 l1 c1, .slice a2 l2 c2] 42)).heap.size = w.heap.size + 1 by simp] at Z2
      generalize ((w.alloc (.cells #[.bool f, .int .i64 vk, .int .i64 vn, .string vt, .bool vb, .int .i64 ve, .int .i64 k, .int .i64 m, .string t, .bool bb, .int .i64 er, .slice a1 l1 c1, .slice a2 l2 c2] 42)).alloc (.cells #[.bool f', .int .i64 vk', .int .i64 vn', .string vt', .bool vb', .int .i64 ve', .int .i64 k', .int .i64 m', .string t', .bool bb', .int .i64 er', .slice a1' l1' c1', .slice a2' l2' c2'] 42)) = w2 at Z1 Z2 QA ⊢
      generalize w.heap.size + 1 = b1 at Z2 ⊢
      generalize w.heap.size = b0 at Z1 ⊢
      have d0 := Z1.out.c 0 _ rfl
      have d1 := Z1.out.c 1 _ rfl
      have d2 := Z1.out.c 2 _ rfl
      have d3 := Z1.out.c 3 _ rfl
      have d4 := Z1.out.c 4 _ rfl
      have d5 := Z1.out.c 5 _ rfl
      have d6 := Z1.out.c 6 _ rfl
      have d7 := Z1.out.c 7 _ rfl
      have d8 := Z1.out.c 8 _ rfl
      have d9 := Z1.out.c 9 _ rfl
      have d10 := Z1.out.c 10 _ rfl
      have d11 := Z1.out.c 11 _ rfl
      have d12 := Z1.out.c 12 _ rfl
      have n0 := Z2.out.c 0 _ rfl
      have n1 := Z2.out.c 1 _ rfl
      have n2 := Z2.out.c 2 _ rfl
      have n3 := Z2.out.c 3 _ rfl
      have n4 := Z2.out.c 4 _ rfl
      have n5 := Z2.out.c 5 _ rfl
      have n6 := Z2.out.c 6 _ rfl
      have n7 := Z2.out.c 7 _ rfl
      have n8 := Z2.out.c 8 _ rfl
      have n9 := Z2.out.c 9 _ rfl
      have n10 := Z2.out.c 10 _ rfl
      have n11 := Z2.out.c 11 _ rfl
      have n12 := Z2.out.c 12 _ rfl
      go_wp2_with (go_at_call 31; refine (HV.out _).mono ?_; rintro e9 w3 ⟨rfl, q3⟩; have Q3 : Hid (Q w w3) := hid (QA.out.trans q3); clear q3)
      go_ret
      exact ⟨ret_bool HB.out.symm, Q3.out⟩
  · have e0 : (f == f') = false := by simpa using hf
    have HB : Hid (b = false) := hid (by
      cases b with
      | false => rfl
      | true => exact absurd (hb.1 rfl).1 hf)
    clear hb hf hrr
    go_enter Tryz.func18, Tryz.ntmps18
    go_upto_region 1 with fail
    have Z1 := hid ((cb_new w [.bool f, .int .i64 vk, .int .i64 vn, .string vt, .bool vb, .int .i64 ve, .int .i64 k, .int .i64 m, .string t, .bool bb, .int .i64 er, .slice a1 l1 c1, .slice a2 l2 c2] 42).on ((Q.refl _).alloc (.cells #[.bool f', .int .i64 vk', .int .i64 vn', .string vt', .bool vb', .int .i64 ve', .int .i64 k', .int .i64 m', .string t', .bool bb', .int .i64 er', .slice a1' l1' c1', .slice a2' l2' c2'] 42)))
    have Z2 := hid (cb_new (w.alloc (.cells #[.bool f, .int .i64 vk, .int .i64 vn, .string vt, .bool vb, .int .i64 ve, .int .i64 k, .int .i64 m, .string t, .bool bb, .int .i64 er, .slice a1 l1 c1, .slice a2 l2 c2] 42)) [.bool f', .int .i64 vk', .int .i64 vn', .string vt', .bool vb', .int .i64 ve', .int .i64 k', .int .i64 m', .string t', .bool bb', .int .i64 er', .slice a1' l1' c1', .slice a2' l2' c2'] 42)
    have QA : Hid (Q w ((w.alloc (.cells #[.bool f, .int .i64 vk, .int .i64 vn, .string vt, .bool vb, .int .i64 ve, .int .i64 k, .int .i64 m, .string t, .bool bb, .int .i64 er, .slice a1 l1 c1, .slice a2 l2 c2] 42)).alloc (.cells #[.bool f', .int .i64 vk', .int .i64 vn', .string vt', .bool vb', .int .i64 ve', .int .i64 k', .int .i64 m', .string t', .bool bb', .int .i64 er', .slice a1' l1' c1', .slice a2' l2' c2'] 42))) := hid (((Q.refl w).alloc _).alloc _)
    rw [show ([.bool f, .int .i64 vk, .int .i64 vn, .string vt, .bool vb, .int .i64 ve, .int .i64 k, .int .i64 m, .string t, .bool bb, .int .i64 er, .slice a1 l1 c1, .slice a2 l2 c2] : List Value).toArray = #[.bool f, .int .i64 vk, .int .i64 vn, .string vt, .bool vb, .int .i64 ve, .int .i64 k, .int .i64 m, .string t, .bool bb, .int .i64 er, .slice a1 l1 c1, .slice a2 l2 c2] from rfl] at Z1
    rw [show ([.bool f', .int .i64 vk', .int .i64 vn', .string vt', .bool vb', .int .i64 ve', .int .i64 k', .int .i64 m', .string t', .bool bb', .int .i64 er', .slice a1' l1' c1', .slice a2' l2' c2'] : List Value).toArray = #[.bool f', .int .i64 vk', .int .i64 vn', .string vt', .bool vb', .int .i64 ve', .int .i64 k', .int .i64 m', .string t', .bool bb', .int .i64 er', .slice a1' l1' c1', .slice a2' l2' c2'] from rfl, show (w.alloc (.cells #[.bool f, .int .i64 vk, .int .i64 vn, .string vt, .bool vb, .int .i64 ve, .int .i64 k, .int .i64 m, .string t, .bool bb, .int .i64 er, .slice a1 l1 c1, .slice a2 l2 c2] 42)).heap.size = w.heap.size + 1 by simp] at Z2
    generalize ((w.alloc (.cells #[.bool f, .int .i64 vk, .int .i64 vn, .string vt, .bool vb, .int .i64 ve, .int .i64 k, .int .i64 m, .string t, .bool bb, .int .i64 er, .slice a1 l1 c1, .slice a2 l2 c2] 42)).alloc (.cells #[.bool f', .int .i64 vk', .int .i64 vn', .string vt', .bool vb', .int .i64 ve', .int .i64 k', .int .i64 m', .string t', .bool bb', .int .i64 er', .slice a1' l1' c1', .slice a2' l2' c2'] 42)) = w2 at Z1 Z2 QA ⊢
    generalize w.heap.size + 1 = b1 at Z2 ⊢
    generalize w.heap.size = b0 at Z1 ⊢
    have d0 := Z1.out.c 0 _ rfl
    have d1 := Z1.out.c 1 _ rfl
    have d2 := Z1.out.c 2 _ rfl
    have d3 := Z1.out.c 3 _ rfl
    have d4 := Z1.out.c 4 _ rfl
    have d5 := Z1.out.c 5 _ rfl
    have d6 := Z1.out.c 6 _ rfl
    have d7 := Z1.out.c 7 _ rfl
    have d8 := Z1.out.c 8 _ rfl
    have d9 := Z1.out.c 9 _ rfl
    have d10 := Z1.out.c 10 _ rfl
    have d11 := Z1.out.c 11 _ rfl
    have d12 := Z1.out.c 12 _ rfl
    have n0 := Z2.out.c 0 _ rfl
    have n1 := Z2.out.c 1 _ rfl
    have n2 := Z2.out.c 2 _ rfl
    have n3 := Z2.out.c 3 _ rfl
    have n4 := Z2.out.c 4 _ rfl
    have n5 := Z2.out.c 5 _ rfl
    have n6 := Z2.out.c 6 _ rfl
    have n7 := Z2.out.c 7 _ rfl
    have n8 := Z2.out.c 8 _ rfl
    have n9 := Z2.out.c 9 _ rfl
    have n10 := Z2.out.c 10 _ rfl
    have n11 := Z2.out.c 11 _ rfl
    have n12 := Z2.out.c 12 _ rfl
    go_wp2_with fail
    go_ret
    exact ⟨ret_bool HB.out.symm, QA.out⟩
structure Rv where
  (k : Int)
  (sh : ByteArray)
  (row : Int)
  (col : Int)
  (f : Bool)
  (vk : Int)
  (vn : Int)
  (vt : ByteArray)
  (vb : Bool)
  (ve : Int)
  (tk : Int)
  (tm : Int)
  (tt : ByteArray)
  (tb : Bool)
  (te : Int)
  (a1 : Option Addr)
  (l1 : Nat)
  (c1 : Nat)
  (a2 : Option Addr)
  (l2 : Nat)
  (c2 : Nat)
  (lk : Int)
  (la : Int)
  (lt : Int)
  (ra : Option Addr)
  (rl : Nat)
  (rc : Nat)
  (fm : Int)
  (nm : ByteArray)
def Rv.L (x : Rv) : List Value := [.int .i64 x.k, .string x.sh, .int .i64 x.row, .int .i64 x.col, .bool x.f, .int .i64 x.vk, .int .i64 x.vn, .string x.vt, .bool x.vb, .int .i64 x.ve, .int .i64 x.tk, .int .i64 x.tm, .string x.tt, .bool x.tb, .int .i64 x.te, .slice x.a1 x.l1 x.c1, .slice x.a2 x.l2 x.c2, .int .i64 x.lk, .int .i64 x.la, .int .i64 x.lt, .slice x.ra x.rl x.rc, .int .i64 x.fm, .string x.nm]
def Rv.v (x : Rv) : Value := .agg #[.int .i64 x.k, .string x.sh, .int .i64 x.row, .int .i64 x.col, .bool x.f, .int .i64 x.vk, .int .i64 x.vn, .string x.vt, .bool x.vb, .int .i64 x.ve, .int .i64 x.tk, .int .i64 x.tm, .string x.tt, .bool x.tb, .int .i64 x.te, .slice x.a1 x.l1 x.c1, .slice x.a2 x.l2 x.c2, .int .i64 x.lk, .int .i64 x.la, .int .i64 x.lt, .slice x.ra x.rl x.rc, .int .i64 x.fm, .string x.nm]
structure RO (W : World) (x : Rv) (X : Ex) (L : List R.Rg.Rc) : Prop where
  t : Rd W X (.agg #[.int .i64 x.tk, .int .i64 x.tm, .string x.tt, .bool x.tb, .int .i64 x.te, .slice x.a1 x.l1 x.c1, .slice x.a2 x.l2 x.c2])
  r : R.Sl R.rc 4 W (.slice x.ra x.rl x.rc) L
def vE (x y : Rv) : Prop := x.vk = y.vk ∧ x.vn = y.vn ∧ x.vt.data.toList = y.vt.data.toList ∧ x.vb = y.vb ∧ x.ve = y.ve
def oE (x y : Rv) (X Y : Ex) (L M : List R.Rg.Rc) : Prop := x.k = y.k ∧ x.sh.data.toList = y.sh.data.toList ∧ x.row = y.row ∧ x.col = y.col ∧ (x.lk = y.lk ∧ x.la = y.la ∧ x.lt = y.lt) ∧ x.fm = y.fm ∧ x.nm.data.toList = y.nm.data.toList ∧ L = M ∧ (x.f = y.f ∧ vE x y ∧ X = Y)
theorem oe_split (x y : Rv) (X Y : Ex) (L M : List R.Rg.Rc) (b : Bool) (hb : b = true ↔ oE x y X Y L M) : ∃ (cb : Bool), (cb = true ↔ (x.f = y.f ∧ vE x y ∧ X = Y)) ∧ b = (decide (x.k = y.k) && (decide (x.sh.data.toList = y.sh.data.toList) && (decide (x.row = y.row) && (decide (x.col = y.col) && (decide (x.lk = y.lk ∧ x.la = y.la ∧ x.lt = y.lt) && (decide (x.fm = y.fm) && (decide (x.nm.data.toList = y.nm.data.toList) && (R.eqRc L M && cb)))))))) := by
  obtain ⟨cb, hc⟩ : ∃ cb : Bool, (cb = true ↔ (x.f = y.f ∧ vE x y ∧ X = Y)) := by
    by_cases h : (x.f = y.f ∧ vE x y ∧ X = Y)
    · exact ⟨true, fun _ => h, fun _ => rfl⟩
    · exact ⟨false, fun e => absurd e Bool.false_ne_true, fun e => absurd e h⟩
  refine ⟨cb, hc, ?_⟩
  rw [Bool.eq_iff_iff, hb]
  simp only [Bool.and_eq_true, decide_eq_true_eq, R.eqRc_iff, hc]
  rfl
theorem oe_order {k sh row col ln fm nm rb cb : Bool} : (k && (sh && (row && (col && (ln && (fm && (nm && (rb && cb)))))))) = (k && (sh && (row && (col && (cb && (ln && (rb && (fm && nm)))))))) := by
  cases k <;> cases sh <;> cases row <;> cases col <;> cases ln <;> cases fm <;> cases nm <;> cases rb <;> cases cb <;> rfl
theorem ln_split (a a' b b' c c' : Int) : decide (a = a' ∧ b = b' ∧ c = c') = (decide (a = a') && (decide (b = b') && decide (c = c'))) := by
  by_cases h1 : a = a' <;> by_cases h2 : b = b' <;> by_cases h3 : c = c' <;> simp [h1, h2, h3]
theorem str_t {s t : ByteArray} (h : s.data.toList = t.data.toList) : (s.toList == t.toList) = true := by rw [Lib.toList_data, Lib.toList_data]; simpa using h
theorem str_f {s t : ByteArray} (h : ¬ s.data.toList = t.data.toList) : (s.toList == t.toList) = false := by rw [Lib.toList_data, Lib.toList_data]; simpa using h
theorem rb_of {P : Ending → World → Prop} {b c : Bool} {w : World} {f : FuncId} {args : Array Value} (h : Calls Tryz.prog f args w fun e W' => e = .returned (.bool c) ∧ Q w W') (e : b = c) : Calls Tryz.prog f args w fun e W' => e = .returned (.bool b) ∧ Q w W' := by subst e; exact h
set_option maxHeartbeats 4000000 in
theorem eqop_any (x y : Rv) (X Y : Ex) (L M : List R.Rg.Rc) (b : Bool) (w : World) (hx : RO w x X L) (hy : RO w y Y M) (hL : L.length ≤ 1000000000000) (hM : M.length ≤ 1000000000000) (hb : b = true ↔ oE x y X Y L M) : Calls Tryz.prog 19 #[.agg x.L.toArray, .agg y.L.toArray] w fun e W' => e = .returned (.bool b) ∧ Q w W' := by
  obtain ⟨cb, hcb, hbb⟩ := oe_split x y X Y L M b hb
  clear hb
  have hxt := hx.t
  have hxr := hx.r
  have hyt := hy.t
  have hyr := hy.r
  clear hx hy
  obtain ⟨k, sh, row, col, f, vk, vn, vt, vb, ve, tk, tm, tt, tb, te, a1, l1, c1, a2, l2, c2, lk, la, lt, ra, rl, rc, fm, nm⟩ := x
  obtain ⟨k', sh', row', col', f', vk', vn', vt', vb', ve', tk', tm', tt', tb', te', a1', l1', c1', a2', l2', c2', lk', la', lt', ra', rl', rc', fm', nm'⟩ := y
  unfold Rv.L
  unfold vE at hcb
  dsimp only at *
  have HC := hid (fun W' (q : Q w W') => eqcell_any f vk vn vt vb ve tk tm tt tb te a1 l1 c1 a2 l2 c2 f' vk' vn' vt' vb' ve' tk' tm' tt' tb' te' a1' l1' c1' a2' l2' c2' X Y cb W' (Rd.on q _ _ hxt) (Rd.on q _ _ hyt) hcb)
  have HR := hid (fun W' (q : Q w W') => R.eqList_any _ _ L M W' (hxr.on q) (hyr.on q) hL hM)
  rw [oe_order, ln_split, Bool.and_assoc, Bool.and_assoc] at hbb
  generalize R.eqRc L M = rb at HR hbb
  clear hxt hxr hyt hyr hcb hL hM
  by_cases h_k : k = k'
  · rw [decide_eq_true h_k, Bool.true_and] at hbb
    subst h_k
    by_cases h_sh : sh.data.toList = sh'.data.toList
    · rw [decide_eq_true h_sh, Bool.true_and] at hbb
      by_cases h_row : row = row'
      · rw [decide_eq_true h_row, Bool.true_and] at hbb
        subst h_row
        by_cases h_col : col = col'
        · rw [decide_eq_true h_col, Bool.true_and] at hbb
          subst h_col
          cases cb with
          | true =>
            rw [Bool.true_and] at hbb
            by_cases h_lk : lk = lk'
            · rw [decide_eq_true h_lk, Bool.true_and] at hbb
              subst h_lk
              by_cases h_la : la = la'
              · rw [decide_eq_true h_la, Bool.true_and] at hbb
                subst h_la
                by_cases h_lt : lt = lt'
                · rw [decide_eq_true h_lt, Bool.true_and] at hbb
                  subst h_lt
                  cases rb with
                  | true =>
                    rw [Bool.true_and] at hbb
                    by_cases h_fm : fm = fm'
                    · rw [decide_eq_true h_fm, Bool.true_and] at hbb
                      subst h_fm
                      by_cases h_nm : nm.data.toList = nm'.data.toList
                      · rw [decide_eq_true h_nm] at hbb
                        exact rb_of (P := fun _ _ => True) (eo_11 _ _ _ _ _ _ _ _ _ _ _ _ _ _ _ _ _ _ _ _ _ _ _ _ _ _ _ _ _ _ _ _ _ _ _ _ _ _ _ _ _ _ _ w (str_t h_sh) (str_t h_nm) HC HR) (by rw [hbb])
                      · rw [decide_eq_false h_nm] at hbb
                        exact rb_of (P := fun _ _ => True) (eo_10 _ _ _ _ _ _ _ _ _ _ _ _ _ _ _ _ _ _ _ _ _ _ _ _ _ _ _ _ _ _ _ _ _ _ _ _ _ _ _ _ _ _ _ w (str_t h_sh) (str_f h_nm) HC HR) (by rw [hbb])
                    · rw [decide_eq_false h_fm] at hbb
                      exact rb_of (P := fun _ _ => True) (eo_9 _ _ _ _ _ _ _ _ _ _ _ _ _ _ _ _ _ _ _ _ _ _ _ _ _ _ _ _ _ _ _ _ _ _ _ _ _ _ _ _ _ _ _ _ w (str_t h_sh) (beq_eq_false_iff_ne.2 h_fm) HC HR) (by rw [hbb]; rfl)
                  | false =>
                    exact rb_of (P := fun _ _ => True) (eo_8 _ _ _ _ _ _ _ _ _ _ _ _ _ _ _ _ _ _ _ _ _ _ _ _ _ _ _ _ _ _ _ _ _ _ _ _ _ _ _ _ _ _ _ _ w (str_t h_sh) HC HR) (by rw [hbb]; rfl)
                · rw [decide_eq_false h_lt] at hbb
                  exact rb_of (P := fun _ _ => True) (eo_7 _ _ _ _ _ _ _ _ _ _ _ _ _ _ _ _ _ _ _ _ _ _ _ _ _ _ _ _ _ _ _ _ _ _ _ _ _ _ _ _ _ _ _ _ _ w (str_t h_sh) (beq_eq_false_iff_ne.2 h_lt) HC) (by rw [hbb]; rfl)
              · rw [decide_eq_false h_la] at hbb
                exact rb_of (P := fun _ _ => True) (eo_6 _ _ _ _ _ _ _ _ _ _ _ _ _ _ _ _ _ _ _ _ _ _ _ _ _ _ _ _ _ _ _ _ _ _ _ _ _ _ _ _ _ _ _ _ _ _ w (str_t h_sh) (beq_eq_false_iff_ne.2 h_la) HC) (by rw [hbb]; rfl)
            · rw [decide_eq_false h_lk] at hbb
              exact rb_of (P := fun _ _ => True) (eo_5 _ _ _ _ _ _ _ _ _ _ _ _ _ _ _ _ _ _ _ _ _ _ _ _ _ _ _ _ _ _ _ _ _ _ _ _ _ _ _ _ _ _ _ _ _ _ _ w (str_t h_sh) (beq_eq_false_iff_ne.2 h_lk) HC) (by rw [hbb]; rfl)
          | false =>
            exact rb_of (P := fun _ _ => True) (eo_4 _ _ _ _ _ _ _ _ _ _ _ _ _ _ _ _ _ _ _ _ _ _ _ _ _ _ _ _ _ _ _ _ _ _ _ _ _ _ _ _ _ _ _ _ _ _ _ w (str_t h_sh) HC) (by rw [hbb]; rfl)
        · rw [decide_eq_false h_col] at hbb
          exact rb_of (P := fun _ _ => True) (eo_3 _ _ _ _ _ _ _ _ _ _ _ _ _ _ _ _ _ _ _ _ _ _ _ _ _ _ _ _ _ _ _ _ _ _ _ _ _ _ _ _ _ _ _ _ _ _ _ _ w (str_t h_sh) (beq_eq_false_iff_ne.2 h_col)) (by rw [hbb]; rfl)
      · rw [decide_eq_false h_row] at hbb
        exact rb_of (P := fun _ _ => True) (eo_2 _ _ _ _ _ _ _ _ _ _ _ _ _ _ _ _ _ _ _ _ _ _ _ _ _ _ _ _ _ _ _ _ _ _ _ _ _ _ _ _ _ _ _ _ _ _ _ _ _ w (str_t h_sh) (beq_eq_false_iff_ne.2 h_row)) (by rw [hbb]; rfl)
    · rw [decide_eq_false h_sh] at hbb
      exact rb_of (P := fun _ _ => True) (eo_1 _ _ _ _ _ _ _ _ _ _ _ _ _ _ _ _ _ _ _ _ _ _ _ _ _ _ _ _ _ _ _ _ _ _ _ _ _ _ _ _ _ _ _ _ _ _ _ _ _ w (str_f h_sh)) (by rw [hbb]; rfl)
  · rw [decide_eq_false h_k] at hbb
    exact rb_of (P := fun _ _ => True) (eo_0 _ _ _ _ _ _ _ _ _ _ _ _ _ _ _ _ _ _ _ _ _ _ _ _ _ _ _ _ _ _ _ _ _ _ _ _ _ _ _ _ _ _ _ _ _ _ _ _ _ _ w (beq_eq_false_iff_ne.2 h_k)) (by rw [hbb]; rfl)
end Go.Proofs.YtcgddnliiondoaaGreatDoor
