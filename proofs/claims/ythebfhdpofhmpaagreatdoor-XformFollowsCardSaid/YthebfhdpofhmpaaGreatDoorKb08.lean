/- parse.sameNode, walked; Where parse.Eq stands; parse.Eq, wal. -/
import Derived.Test.YthebfhdpofhmpaaGreatDoorKb07
import Derived.Test.YthebfhdpofhmpaaGreatDoorKb00
import Derived.Maps.AppendAt
import Derived.Carry
import Derived.Lib.ItoaMem
import Derived.Shelf.Strconv.Itoa4
import Derived.Test.YthebfhdpofhmpaaGreatDoorProg
import Derived.Deep.RegionHeld3
import Derived.Test.YthebfhdpofhmpaaGreatDoorKb06
import Derived.BigQuiet
import Derived.Deep.CutBlock
import Derived.Deep.CutRange
import Derived.Lib.AppendStr
import Derived.Shelf.Small.Utf8
import Derived.Shelf.Small.Strs
import Derived.Shelf.Small.Wraps
import Derived.Shelf.Strconv.Itoa0
import Derived.Shelf.Strconv.Itoa1
import Derived.Shelf.LaysM
import Derived.Shelf.Strconv.Itoa2
import Derived.Shelf.Strconv.Itoa3
import Derived.Shelf.Strings.Search1
import Derived.Shelf.Strings.Search2
import Derived.Shelf.Strings.Search3
import Derived.Shelf.Strings.Cut
import Derived.Shelf.Strings.Count
import Derived.Shelf.Strings.Shaped
import Derived.Shelf.Strings.Prefix
import Derived.Shelf.Strings.Runes
import Derived.Shelf.Unicode.DecodeSlow
import Derived.Lib.Walk
import Derived.BigCall
import Derived.BigGuard
import Derived.Test.YthebfhdpofhmpaaGreatDoorKb04
set_option linter.unusedVariables false
set_option linter.unusedSimpArgs false
set_option maxRecDepth 100000
set_option maxHeartbeats 8000000
namespace Go.Proofs.YthebfhdpofhmpaaGreatDoor
open Go.RowKit
def sameB : Ex → Ex → Bool
  | .mk k n t b e rs ks, .mk k2 n2 t2 b2 e2 rs2 ks2 => decide (k = k2 ∧ n = n2 ∧ t = t2 ∧ b = b2 ∧ e = e2 ∧ rs = rs2 ∧ ks.length = ks2.length)
theorem sameB_iff (x y : Ex) : sameB x y = true ↔ hd x = hd y ∧ (kd x).length = (kd y).length := by
  cases x with
  | mk k n t b e rs ks =>
    cases y with
    | mk k' n' t' b' e' rs' ks' =>
      simp only [sameB, hd, kd, decide_eq_true_eq, Prod.mk.injEq]
      constructor
      · rintro ⟨h1, h2, h3, h4, h5, h6, h7⟩
        exact ⟨⟨h1, h2, h3, h4, h5, h6⟩, h7⟩
      · rintro ⟨⟨h1, h2, h3, h4, h5, h6⟩, h7⟩
        exact ⟨h1, h2, h3, h4, h5, h6, h7⟩
set_option maxHeartbeats 16000000 in
theorem same_q (x y : Ex) (b off b' off' : Nat) (c0 c1 c2 c3 c4 c5 c6 d0 d1 d2 d3 d4 d5 d6 : Value) (W : World) (hx : Kid W x b off c0 c1 c2 c3 c4 c5 c6) (hy : Kid W y b' off' d0 d1 d2 d3 d4 d5 d6) :
    Calls Tryz.prog 70 #[.pointer (some ⟨b, off, none⟩), .pointer (some ⟨b', off', none⟩)] W fun e W' => e = .returned (.bool (sameB x y)) ∧ ∃ m, W' = W.drewN m := by
  obtain ⟨g0, g1, g2, g3, g4, g5, g6, rx⟩ := hx
  obtain ⟨h0, h1, h2, h3, h4, h5, h6, ry⟩ := hy
  obtain ⟨k, n, t, bb, e, rs, ks, rv, kv, ao, cap, hv, px⟩ := rx.prt
  obtain ⟨k2, n2, t2, bb2, e2, rs2, ks2, rv2, kv2, ao2, cap2, hv2, py⟩ := ry.prt
  simp only [Value.agg.injEq, Array.mk.injEq, List.cons.injEq, and_true] at hv hv2
  obtain ⟨rfl, rfl, rfl, rfl, rfl, rfl, rfl⟩ := hv
  obtain ⟨rfl, rfl, rfl, rfl, rfl, rfl, rfl⟩ := hv2
  obtain rfl := px.kl
  obtain rfl := py.kl
  rw [px.ex, py.ex]
  unfold sameB
  have HC := hid (fun n => eqrf_any_q c5 d5 rs rs2 (W.drewN n) (px.rl.on ((Q.refl _).drewN n)) (py.rl.on ((Q.refl _).drewN n)))
  simp only [eqRf_dec] at HC
  obtain ⟨a5, p5, e5, _⟩ := px.rl
  obtain ⟨a52, p52, e52, _⟩ := py.rl
  subst e5 e52
  clear px py rx ry
  go_enter Tryz.func70, Tryz.ntmps70
  go_wp2_with fail
  refine wp_region_quiet_lit (by kernel_rfl) (by kernel_rfl) ?_
  dsimp only [List.append]
  by_cases q0 : k = k2
  · have f0 : (k == k2) = true := by rw [q0]; simp
    by_cases q1 : n = n2
    · have f1 : (n == n2) = true := by rw [q1]; simp
      by_cases q2 : t.data.toList = t2.data.toList
      · have f2 : (t.toList == t2.toList) = true := by rw [toL', toL']; rw [q2]; simp
        by_cases q3 : bb = bb2
        · have f3 : (bb == bb2) = true := by rw [q3]; simp
          by_cases q4 : e = e2
          · have f4 : (e == e2) = true := by rw [q4]; simp
            by_cases q5 : rs = rs2
            · have f5 : decide (rs = rs2) = true := decide_eq_true q5; rw [f5] at HC
              by_cases q6 : ks.length = ks2.length
              · have f6 : ((ks.length : Int) == (ks2.length : Int)) = true := by rw [q6]; simp
                have HR := hid (decide_eq_true (p := k = k2 ∧ n = n2 ∧ t.data.toList = t2.data.toList ∧ bb = bb2 ∧ e = e2 ∧ rs = rs2 ∧ ks.length = ks2.length) ⟨q0, q1, q2, q3, q4, q5, q6⟩)
                clear q0 q1 q2 q3 q4 q5 q6
                repeat (go_big_quiet_step (first | (go_at_call 95; refine Calls.quiet_of (HC.out _)) | (refine Calls.quiet_of (HC.out _))))
                refine wpQuiet_nil ?_
                intro _ hw'
                obtain ⟨nq, hw''⟩ := hw'
                subst hw''
                go_wp2_with fail
                go_ret
                exact ⟨ret_bool HR.out.symm, _, rfl⟩
              · have f6 : ((ks.length : Int) == (ks2.length : Int)) = false := by rw [beq_eq_false_iff_ne]; omega
                have HR := hid (decide_eq_false (p := k = k2 ∧ n = n2 ∧ t.data.toList = t2.data.toList ∧ bb = bb2 ∧ e = e2 ∧ rs = rs2 ∧ ks.length = ks2.length) (fun hh => q6 hh.2.2.2.2.2.2))
                clear q0 q1 q2 q3 q4 q5 q6
                repeat (go_big_quiet_step (first | (go_at_call 95; refine Calls.quiet_of (HC.out _)) | (refine Calls.quiet_of (HC.out _))))
                refine wpQuiet_nil ?_
                intro _ hw'
                obtain ⟨nq, hw''⟩ := hw'
                subst hw''
                go_wp2_with fail
                go_ret
                exact ⟨ret_bool HR.out.symm, _, rfl⟩
            · have f5 : decide (rs = rs2) = false := decide_eq_false q5; rw [f5] at HC
              have HR := hid (decide_eq_false (p := k = k2 ∧ n = n2 ∧ t.data.toList = t2.data.toList ∧ bb = bb2 ∧ e = e2 ∧ rs = rs2 ∧ ks.length = ks2.length) (fun hh => q5 hh.2.2.2.2.2.1))
              clear q0 q1 q2 q3 q4 q5
              repeat (go_big_quiet_step (first | (go_at_call 95; refine Calls.quiet_of (HC.out _)) | (refine Calls.quiet_of (HC.out _))))
              refine wpQuiet_nil ?_
              intro _ hw'
              obtain ⟨nq, hw''⟩ := hw'
              subst hw''
              go_wp2_with fail
              go_ret
              exact ⟨ret_bool HR.out.symm, _, rfl⟩
          · have f4 : (e == e2) = false := by rw [beq_eq_false_iff_ne]; exact q4
            have HR := hid (decide_eq_false (p := k = k2 ∧ n = n2 ∧ t.data.toList = t2.data.toList ∧ bb = bb2 ∧ e = e2 ∧ rs = rs2 ∧ ks.length = ks2.length) (fun hh => q4 hh.2.2.2.2.1))
            clear q0 q1 q2 q3 q4
            repeat (go_big_quiet_step (fail))
            refine wpQuiet_nil ?_
            intro _ hw'
            obtain ⟨nq, hw''⟩ := hw'
            subst hw''
            go_wp2_with fail
            go_ret
            exact ⟨ret_bool HR.out.symm, _, rfl⟩
        · have f3 : (bb == bb2) = false := by rw [beq_eq_false_iff_ne]; exact q3
          have HR := hid (decide_eq_false (p := k = k2 ∧ n = n2 ∧ t.data.toList = t2.data.toList ∧ bb = bb2 ∧ e = e2 ∧ rs = rs2 ∧ ks.length = ks2.length) (fun hh => q3 hh.2.2.2.1))
          clear q0 q1 q2 q3
          repeat (go_big_quiet_step (fail))
          refine wpQuiet_nil ?_
          intro _ hw'
          obtain ⟨nq, hw''⟩ := hw'
          subst hw''
          go_wp2_with fail
          go_ret
          exact ⟨ret_bool HR.out.symm, _, rfl⟩
      · have f2 : (t.toList == t2.toList) = false := by rw [toL', toL']; rw [beq_eq_false_iff_ne]; exact q2
        have HR := hid (decide_eq_false (p := k = k2 ∧ n = n2 ∧ t.data.toList = t2.data.toList ∧ bb = bb2 ∧ e = e2 ∧ rs = rs2 ∧ ks.length = ks2.length) (fun hh => q2 hh.2.2.1))
        clear q0 q1 q2
        repeat (go_big_quiet_step (fail))
        refine wpQuiet_nil ?_
        intro _ hw'
        obtain ⟨nq, hw''⟩ := hw'
        subst hw''
        go_wp2_with fail
        go_ret
        exact ⟨ret_bool HR.out.symm, _, rfl⟩
    · have f1 : (n == n2) = false := by rw [beq_eq_false_iff_ne]; exact q1
      have HR := hid (decide_eq_false (p := k = k2 ∧ n = n2 ∧ t.data.toList = t2.data.toList ∧ bb = bb2 ∧ e = e2 ∧ rs = rs2 ∧ ks.length = ks2.length) (fun hh => q1 hh.2.1))
      clear q0 q1
      repeat (go_big_quiet_step (fail))
      refine wpQuiet_nil ?_
      intro _ hw'
      obtain ⟨nq, hw''⟩ := hw'
      subst hw''
      go_wp2_with fail
      go_ret
      exact ⟨ret_bool HR.out.symm, _, rfl⟩
  · have f0 : (k == k2) = false := by rw [beq_eq_false_iff_ne]; exact q0
    have HR := hid (decide_eq_false (p := k = k2 ∧ n = n2 ∧ t.data.toList = t2.data.toList ∧ bb = bb2 ∧ e = e2 ∧ rs = rs2 ∧ ks.length = ks2.length) (fun hh => q0 hh.1))
    clear q0
    repeat (go_big_quiet_step (fail))
    refine wpQuiet_nil ?_
    intro _ hw'
    obtain ⟨nq, hw''⟩ := hw'
    subst hw''
    go_wp2_with fail
    go_ret
    exact ⟨ret_bool HR.out.symm, _, rfl⟩
theorem rf_inj {x y : Rf} (h : rf x = rf y) : x = y := by
  obtain ⟨s, r, c, a, b⟩ := x
  obtain ⟨s', r', c', a', b'⟩ := y
  simp only [rf, List.cons.injEq, Value.string.injEq, ByteArray.mk.injEq, Value.int.injEq, Value.bool.injEq, true_and, and_true] at h
  obtain ⟨h1, h2, h3, h4, h5⟩ := h
  have : s = s' := by simpa using h1
  subst this h2 h3 h4 h5
  rfl
theorem ats_det {W : World} {b o : Nat} {x y : Rf} (h : Ats rf W b o x) (h' : Ats rf W b o y) : x = y := by
  refine rf_inj (List.ext_getElem? fun i => ?_)
  by_cases hi : i < 5
  · have h1 := h i _ (List.getElem?_eq_getElem (l := rf x) (by rw [rf_len]; exact hi))
    have h2 := h' i _ (List.getElem?_eq_getElem (l := rf y) (by rw [rf_len]; exact hi))
    rw [h1] at h2
    rw [List.getElem?_eq_getElem (l := rf x) (by rw [rf_len]; exact hi), List.getElem?_eq_getElem (l := rf y) (by rw [rf_len]; exact hi)]
    exact h2
  · rw [List.getElem?_eq_none (by rw [rf_len]; omega), List.getElem?_eq_none (by rw [rf_len]; omega)]
theorem sl_det {W : World} {v : Value} {L L' : List Rf} (h : Sl rf 5 W v L) (h' : Sl rf 5 W v L') : L = L' := by
  obtain ⟨ao, cap, hv, _, _, h⟩ := h
  obtain ⟨ao', cap', hv', _, _, h'⟩ := h'
  rw [hv] at hv'
  simp only [Value.slice.injEq] at hv'
  obtain ⟨ha, hl, _⟩ := hv'
  subst ha
  refine List.ext_getElem hl fun i h1 h2 => ?_
  obtain ⟨b, off, e, hc⟩ := h (by omega)
  obtain ⟨b', off', e', hc'⟩ := h' (by omega)
  rw [e] at e'
  simp only [Option.some.injEq, Addr.mk.injEq] at e'
  obtain ⟨rfl, rfl, _⟩ := e'
  exact ats_det (hc i h1) (hc' i h2)
theorem Rd.det {W : World} : ∀ (x y : Ex) (v : Value), Rd W x v → Rd W y v → x = y
  | .mk k n t b e rs ks, .mk k' n' t' b' e' rs' ks', v, h, h' => by
    unfold Rd at h h'
    obtain ⟨rv, kv, hv, hr, ao, cap, hk, _, _, h3⟩ := h
    obtain ⟨rv', kv', hv', hr', ao', cap', hk', _, _, h3'⟩ := h'
    rw [hv] at hv'
    simp only [Value.agg.injEq, Array.mk.injEq, List.cons.injEq, Value.int.injEq, Value.string.injEq, ByteArray.mk.injEq, Value.bool.injEq, true_and, and_true] at hv'
    obtain ⟨rfl, rfl, ht, rfl, rfl, rfl, rfl⟩ := hv'
    have et : t = t' := by simpa using ht
    subst et
    have er := sl_det hr hr'
    subst er
    rw [hk] at hk'
    simp only [Value.slice.injEq] at hk'
    obtain ⟨rfl, hl, _⟩ := hk'
    have ek : ks = ks' := by
      by_cases hn : ks = []
      · subst hn
        exact (List.eq_nil_of_length_eq_zero hl.symm).symm
      · obtain ⟨q, off, ea, _, hd⟩ := h3 hn
        obtain ⟨q', off', ea', _, hd'⟩ := h3' (fun e => hn (by rw [e] at hl; exact List.eq_nil_of_length_eq_zero hl))
        rw [ea] at ea'
        simp only [Option.some.injEq, Addr.mk.injEq] at ea'
        obtain ⟨rfl, rfl, _⟩ := ea'
        exact go ks ks' q off hl hd hd'
    subst ek
    rfl
  where
  go {W : World} : ∀ (l l' : List Ex) (b off : Nat), l.length = l'.length → Rd.RdL W l b off → Rd.RdL W l' b off → l = l'
  | [], [], _, _, _, _, _ => rfl
  | [], _ :: _, _, _, hl, _, _ => by simp at hl
  | _ :: _, [], _, _, hl, _, _ => by simp at hl
  | x :: xs, y :: ys, b, off, hl, h, h' => by
    unfold Rd.RdL at h h'
    obtain ⟨⟨c0, c1, c2, c3, c4, c5, c6, g0, g1, g2, g3, g4, g5, g6, hx⟩, hr⟩ := h
    obtain ⟨⟨d0, d1, d2, d3, d4, d5, d6, i0, i1, i2, i3, i4, i5, i6, hy⟩, hs⟩ := h'
    rw [g0] at i0
    rw [g1] at i1
    rw [g2] at i2
    rw [g3] at i3
    rw [g4] at i4
    rw [g5] at i5
    rw [g6] at i6
    cases i0
    cases i1
    cases i2
    cases i3
    cases i4
    cases i5
    cases i6
    rw [Rd.det x y _ hx hy, go xs ys b (off + 7) (by simpa using hl) hr hs]
theorem rdl_det {W : World} {l l' : List Ex} {b off : Nat} (hl : l.length = l'.length) (h : Rd.RdL W l b off) (h' : Rd.RdL W l' b off) : l = l' := Rd.det.go l l' b off hl h h'
def TL (W : World) (v : Value) (ks : List Ex) : Prop := ∃ (ao : Option Addr) (cap : Nat), v = .slice ao ks.length cap ∧ ks.length ≤ cap ∧ cap ≤ maxLen ∧ (ks ≠ [] → ∃ b off, ao = some ⟨b, off, none⟩ ∧ Pl W b ∧ Rd.RdL W ks b off)
theorem TL.on {W W' : World} {v : Value} {ks : List Ex} (h : TL W v ks) (q : Q W W') : TL W' v ks := by
  obtain ⟨ao, cap, h1, h2, h3, h4⟩ := h
  refine ⟨ao, cap, h1, h2, h3, fun hn => ?_⟩
  obtain ⟨b, off, ha, hp, hr⟩ := h4 hn
  exact ⟨b, off, ha, hp.on q, hr.on q⟩
theorem Kid.tl {W : World} {x : Ex} {b off : Nat} {c0 c1 c2 c3 c4 c5 c6 : Value} (h : Kid W x b off c0 c1 c2 c3 c4 c5 c6) : TL W c6 (kd x) := by
  have hr := h.rd
  cases x with
  | mk k n t bb e rs ks =>
    unfold Rd at hr
    obtain ⟨rv, kv, hv, _, ao, cap, hk, h1, h2, h3⟩ := hr
    simp only [Value.agg.injEq, Array.mk.injEq, List.cons.injEq, and_true] at hv
    rw [hv.2.2.2.2.2.2]
    exact ⟨ao, cap, hk, h1, h2, h3⟩
theorem TL.at {W : World} {v : Value} {ks : List Ex} (h : TL W v ks) {i : Nat} (hi : i < ks.length) : ∃ b off cap, v = .slice (some ⟨b, off, none⟩) ks.length cap ∧ Pl W b ∧ Rd.RdL W ks b off ∧ ∃ c0 c1 c2 c3 c4 c5 c6, Kid W ks[i] b (off + i * 7) c0 c1 c2 c3 c4 c5 c6 := by
  obtain ⟨ao, cap, h1, _, _, h4⟩ := h
  obtain ⟨b, off, rfl, hp, hr⟩ := h4 (fun e => by rw [e] at hi; simp at hi)
  exact ⟨b, off, cap, h1, hp, hr, Rd.RdL.kid hr i hi⟩
theorem tl_one {W : World} {x : Ex} {c0 c1 c2 c3 c4 c5 c6 : Value} (h : Rd W x (.agg #[c0, c1, c2, c3, c4, c5, c6])) (t : TypeId) : TL (W.alloc (.cells #[c0, c1, c2, c3, c4, c5, c6] t)) (.slice (some ⟨W.heap.size, 0, none⟩) 1 1) [x] := by
  refine ⟨_, 1, rfl, by simp, by unfold maxLen; omega, fun _ => ⟨_, 0, rfl, pl_new _ _ _, ?_⟩⟩
  unfold Rd.RdL
  refine ⟨⟨c0, c1, c2, c3, c4, c5, c6, ?_, ?_, ?_, ?_, ?_, ?_, ?_, Rd.on ((Q.refl _).alloc _) _ _ h⟩, by unfold Rd.RdL; trivial⟩
  all_goals simp [World.cell?_alloc_new]
def encP (p : Value × Value) : List Value := [p.1, p.2]
theorem encP_len (p : Value × Value) : (encP p).length = 2 := rfl
def All2 {α β : Type} (R : α → β → Prop) : List α → List β → Prop
  | [], [] => True
  | x :: xs, y :: ys => R x y ∧ All2 R xs ys
  | [], _ :: _ => False
  | _ :: _, [] => False
theorem All2.snoc {α β : Type} {R : α → β → Prop} : ∀ {xs : List α} {ys : List β} {x : α} {y : β}, All2 R xs ys → R x y → All2 R (xs ++ [x]) (ys ++ [y])
  | [], [], x, y, _, h => ⟨h, trivial⟩
  | [], _ :: _, _, _, h, _ => by cases h
  | _ :: _, [], _, _, h, _ => by cases h
  | a :: xs, b :: ys, x, y, h, h' => ⟨h.1, All2.snoc h.2 h'⟩
theorem All2.mem {α β : Type} {R : α → β → Prop} : ∀ {xs : List α} {ys : List β} {x : α}, All2 R xs ys → x ∈ xs → ∃ y, y ∈ ys ∧ R x y
  | [], [], x, _, h => absurd h (by simp)
  | [], _ :: _, _, h, _ => by cases h
  | _ :: _, [], _, h, _ => by cases h
  | a :: xs, b :: ys, x, h, h' => by
    simp at h'
    rcases h' with rfl | h'
    · exact ⟨b, by simp, h.1⟩
    · obtain ⟨y, hy, hr⟩ := All2.mem h.2 h'
      exact ⟨y, by simp [hy], hr⟩
structure RdP (W : World) (p : Value × Value) (l : Pr) : Prop where
  a : TL W p.1 l.1
  b : TL W p.2 l.2
  ln : l.1.length = l.2.length
  ne : l.1 ≠ []
structure KyR (W : World) (k : Ky) (l : Pr) : Prop where
  p : KyP W k
  a : Rd.RdL W l.1 k.1 k.2.1
  b : Rd.RdL W l.2 k.2.2.1 k.2.2.2.1
  la : l.1.length = k.2.2.2.2
  lb : l.2.length = k.2.2.2.2
theorem KyP.on {W W' : World} {k : Ky} (h : KyP W k) (q : Q W W') : KyP W' k := ⟨h.1.on q, h.2.on q⟩
theorem KyR.det {W : World} {k : Ky} {l l' : Pr} (h : KyR W k l) (h' : KyR W k l') : l = l' := by
  obtain ⟨a, b⟩ := l
  obtain ⟨a', b'⟩ := l'
  have e1 := rdl_det (h.la.trans h'.la.symm) h.a h'.a
  have e2 := rdl_det (h.lb.trans h'.lb.symm) h.b h'.b
  simp only at e1 e2
  rw [e1, e2]
structure EM (W2 W : World) (m : Nat) (v : Value) (ps : List (Value × Value)) (L : List Pr) (ks : List Ky) (K : List Pr) : Prop where
  q : Q W2 W
  ow : Own encP 118 2 W2.heap.size W v ps.reverse
  mp : MapK W m ks
  hm : W2.heap.size ≤ m
  ob : v.ownBlock ≠ some m
  rp : All2 (RdP W2) ps L
  rk : All2 (KyR W2) ks K
theorem MapK.lt {W : World} {m : Nat} {ks : List Ky} (h : MapK W m ks) : m < W.heap.size := by
  obtain ⟨es, c, hb, _⟩ := h
  exact (Array.getElem?_eq_some_iff.1 hb).1
theorem MapK.kept {W W' : World} {m : Nat} {ks : List Ky} {r : Option Nat} (h : MapK W m ks) (g : W.grownBy W' r) (hr : some m ≠ r) : MapK W' m ks := by
  have hl := h.lt
  obtain ⟨es, c, hb, he⟩ := h
  exact ⟨es, c, (g.block m hl hr).trans hb, he⟩
theorem q_grown {A W W' : World} {r : Option Nat} (q : Q A W) (g : W.grownBy W' r) (hr : ∀ j, r = some j → A.heap.size ≤ j) : Q A W' := by
  refine ⟨g.os.trans q.os, g.tape.trans q.tape, g.output.trans q.output, Nat.le_trans q.size g.size, fun i hi => ?_⟩
  exact (g.block i (Nat.lt_of_lt_of_le hi q.size) (fun e => by have := hr i e.symm; omega)).trans (Q.block q hi)
theorem EM.on {W2 W W' : World} {m : Nat} {v : Value} {ps : List (Value × Value)} {L : List Pr} {ks : List Ky} {K : List Pr} (h : EM W2 W m v ps L ks K) (q : Q W W') : EM W2 W' m v ps L ks K := by
  refine ⟨h.q.trans q, h.ow.on q, ?_, h.hm, h.ob, h.rp, h.rk⟩
  have hl := h.mp.lt
  obtain ⟨es, c, hb, he⟩ := h.mp
  exact ⟨es, c, (Q.block q hl).trans hb, he⟩
theorem EM.keys {W2 W : World} {m : Nat} {v : Value} {ps : List (Value × Value)} {L : List Pr} {ks : List Ky} {K : List Pr} (h : EM W2 W m v ps L ks K) : ∀ x ∈ ks, KyP W x := by
  intro x hx
  obtain ⟨l, _, hr⟩ := h.rk.mem hx
  exact hr.p.on h.q
theorem EM.upd {W2 W W' : World} {m : Nat} {v : Value} {ps : List (Value × Value)} {L : List Pr} {ks : List Ky} {K : List Pr} (h : EM W2 W m v ps L ks K) {k : Ky} {p : Pr} (hg : W.grownBy W' (some m)) (mp : MapK W' m (ks ++ [k])) (hk : KyR W2 k p) : EM W2 W' m v ps L (ks ++ [k]) (K ++ [p]) := by
  refine ⟨q_grown h.q hg (fun j e => by cases e; exact h.hm), ?_, mp, h.hm, h.ob, h.rp, h.rk.snoc hk⟩
  exact h.ow.grown hg (.inr h.ob)
theorem EM.app {W2 W W' : World} {m : Nat} {v v' : Value} {ps : List (Value × Value)} {L : List Pr} {ks : List Ky} {K : List Pr} (h : EM W2 W m v ps L ks K) {p : Value × Value} {l : Pr} (hg : W.grownBy W' v.ownBlock) (ow : Own encP 118 2 W2.heap.size W' v' (ps.reverse ++ [p])) (hat : v'.ownBlock = v.ownBlock ∨ v'.ownBlock = some W.heap.size) (hp : RdP W2 p l) : EM W2 W' m v' (p :: ps) (l :: L) ks K := by
  refine ⟨q_grown h.q hg (fun j e => h.ow.blk j e), by rw [List.reverse_cons]; exact ow, h.mp.kept hg (fun e => h.ob e.symm), h.hm, ?_, ⟨hp, h.rp⟩, h.rk⟩
  rcases hat with e | e
  · rw [e]; exact h.ob
  · rw [e]
    intro e'
    have := h.mp.lt
    have := Option.some.inj e'
    omega
theorem own_cut {W : World} {B g n cap : Nat} {L : List (Value × Value)} {x : Value × Value} (h : Own encP 118 2 B W (.slice (some ⟨g, 0, none⟩) (n + 1) cap) (L ++ [x])) (hn : L.length = n) : Own encP 118 2 B W (.slice (some ⟨g, 0, none⟩) n cap) L := by
  subst hn
  obtain ⟨hl, h⟩ := h
  refine ⟨flat_len encP encP_len L, .inr ?_⟩
  rcases h with ⟨hv, _⟩ | ⟨g', cap', cur, hv, hb, hg, h1, h2, h3, h4⟩
  · cases hv
  · simp only [Value.slice.injEq, Option.some.injEq, Addr.mk.injEq] at hv
    obtain ⟨⟨rfl, _⟩, _, rfl⟩ := hv
    refine ⟨g, cap, cur, rfl, hb, hg, by simp at h1; omega, h2, h3, ?_⟩
    have e : (flat encP (L ++ [x])).take (L.length * 2) = flat encP L := by
      rw [flat_append, List.take_append_of_le_length (by rw [flat_len encP encP_len]; exact Nat.le_refl _), List.take_of_length_le (by rw [flat_len encP encP_len]; exact Nat.le_refl _)]
    rw [← e, ← h4, List.take_take]
    congr 1
    simp
theorem tl_det {W : World} {v : Value} {l l' : List Ex} (h : TL W v l) (h' : TL W v l') : l = l' := by
  obtain ⟨ao, cap, hv, _, _, h⟩ := h
  obtain ⟨ao', cap', hv', _, _, h'⟩ := h'
  rw [hv] at hv'
  simp only [Value.slice.injEq] at hv'
  obtain ⟨rfl, hl, _⟩ := hv'
  by_cases hn : l = []
  · subst hn
    exact (List.eq_nil_of_length_eq_zero hl.symm).symm
  · obtain ⟨b, off, e, _, hr⟩ := h hn
    obtain ⟨b', off', e', _, hr'⟩ := h' (fun e => hn (by rw [e] at hl; exact List.eq_nil_of_length_eq_zero hl))
    rw [e] at e'
    simp only [Option.some.injEq, Addr.mk.injEq] at e'
    obtain ⟨rfl, rfl, _⟩ := e'
    exact rdl_det hl hr hr'
theorem rdp_det {W : World} : ∀ {ps : List (Value × Value)} {L L' : List Pr}, All2 (RdP W) ps L → All2 (RdP W) ps L' → L = L'
  | [], [], [], _, _ => rfl
  | [], [], _ :: _, _, h => by cases h
  | [], _ :: _, _, h, _ => by cases h
  | _ :: _, [], _, h, _ => by cases h
  | _ :: _, _ :: _, [], _, h => by cases h
  | p :: ps, (a, b) :: L, (a', b') :: L', h, h' => by
    have e1 : a = a' := tl_det h.1.a h'.1.a
    have e2 : b = b' := tl_det h.1.b h'.1.b
    rw [e1, e2, rdp_det h.2 h'.2]
theorem flat_inj : ∀ {l l' : List (Value × Value)}, flat encP l = flat encP l' → l = l'
  | [], [], _ => rfl
  | [], (a, b) :: l, h => by simp [flat_cons, flat_nil, encP] at h
  | (a, b) :: l, [], h => by simp [flat_cons, flat_nil, encP] at h
  | (a, b) :: l, (a', b') :: l', h => by
    simp only [flat_cons, encP, List.cons_append, List.nil_append, List.cons.injEq] at h
    obtain ⟨h1, h2, h3⟩ := h
    rw [h1, h2, flat_inj h3]
theorem own_det {W : World} {B : Nat} {v : Value} {l l' : List (Value × Value)} (h : Own encP 118 2 B W v l) (h' : Own encP 118 2 B W v l') : l = l' := by
  obtain ⟨_, h⟩ := h
  obtain ⟨_, h'⟩ := h'
  rcases h with ⟨hv, hn⟩ | ⟨g, cap, cur, hv, _, hg, _, _, _, ht⟩
  · rcases h' with ⟨_, hn'⟩ | ⟨g', cap', cur', hv', _⟩
    · rw [List.eq_nil_of_length_eq_zero hn, List.eq_nil_of_length_eq_zero hn']
    · rw [hv] at hv'; cases hv'
  · rcases h' with ⟨hv', hn'⟩ | ⟨g', cap', cur', hv', _, hg', _, _, _, ht'⟩
    · rw [hv] at hv'; cases hv'
    · rw [hv] at hv'
      simp only [Value.slice.injEq, Option.some.injEq, Addr.mk.injEq] at hv'
      obtain ⟨⟨rfl, _⟩, hl, _⟩ := hv'
      rw [hg] at hg'
      simp only [Option.some.injEq, Obj.cells.injEq, and_true] at hg'
      obtain ⟨rfl⟩ := hg'
      refine flat_inj ?_
      rw [← ht, ← ht', hl]
def WgtAt (W2 W : World) (v : Value) (n : Nat) : Prop := ∃ ps L, Own encP 118 2 W2.heap.size W v (List.reverse ps) ∧ All2 (RdP W2) ps L ∧ wgt L = n
theorem wgt_det {W2 W : World} {v : Value} {n m : Nat} (h : WgtAt W2 W v n) (h' : WgtAt W2 W v m) : n = m := by
  obtain ⟨ps, L, h1, h2, h3⟩ := h
  obtain ⟨ps', L', h1', h2', h3'⟩ := h'
  have e : ps = ps' := by simpa using own_det h1 h1'
  subst e
  have e := rdp_det h2 h2'
  subst e
  rw [← h3, ← h3']
theorem wgt_at {W2 W : World} {v : Value} {n : Nat} (h : WgtAt W2 W v n) : Classical.epsilon (WgtAt W2 W v) = n := wgt_det (Classical.epsilon_spec ⟨n, h⟩) h
theorem EM.wgt {W2 W : World} {m : Nat} {v : Value} {ps : List (Value × Value)} {L : List Pr} {ks : List Ky} {K : List Pr} (h : EM W2 W m v ps L ks K) : Classical.epsilon (WgtAt W2 W v) = wgt L := wgt_at ⟨ps, L, h.ow, h.rp, rfl⟩
theorem info64 : (Tryz.prog.info? 118).map (fun i => (i.zero, i.size, i.bytes)) = some (some (.agg #[.slice none 0 0, .slice none 0 0]), 2, 48) := by kernel_rfl
theorem em0 {W : World} {x y : Ex} {c0 c1 c2 c3 c4 c5 c6 d0 d1 d2 d3 d4 d5 d6 : Value} (hx : Rd W x (.agg #[c0, c1, c2, c3, c4, c5, c6])) (hy : Rd W y (.agg #[d0, d1, d2, d3, d4, d5, d6])) :
    EM ((W.alloc (.cells #[c0, c1, c2, c3, c4, c5, c6] 35)).alloc (.cells #[d0, d1, d2, d3, d4, d5, d6] 35))
      ((((W.alloc (.cells #[c0, c1, c2, c3, c4, c5, c6] 35)).alloc (.cells #[d0, d1, d2, d3, d4, d5, d6] 35)).alloc (.cells #[.slice (some ⟨W.heap.size, 0, none⟩) 1 1, .slice (some ⟨W.heap.size + 1, 0, none⟩) 1 1] 118)).alloc (.map #[] 0)) (W.heap.size + 1 + 1 + 1)
      (.slice (some ⟨W.heap.size + 1 + 1, 0, none⟩) 1 1) [(.slice (some ⟨W.heap.size, 0, none⟩) 1 1, .slice (some ⟨W.heap.size + 1, 0, none⟩) 1 1)] [([x], [y])] [] [] := by
  have e1 : (W.alloc (.cells #[c0, c1, c2, c3, c4, c5, c6] 35)).heap.size = W.heap.size + 1 := by simp
  have tx := (tl_one hx 35).on ((Q.refl _).alloc (.cells #[d0, d1, d2, d3, d4, d5, d6] 35))
  have ty := tl_one (Rd.on ((Q.refl W).alloc (.cells #[c0, c1, c2, c3, c4, c5, c6] 35)) _ _ hy) 35
  rw [e1] at ty
  refine ⟨((Q.refl _).alloc _).alloc _, ?_, ?_, by simp, fun h => absurd (Option.some.inj h) (by simp), And.intro ⟨tx, ty, rfl, by simp⟩ trivial, trivial⟩
  · refine Own.alloc ?_ _
    refine ⟨rfl, .inr ⟨W.heap.size + 1 + 1, 1, #[.slice (some ⟨W.heap.size, 0, none⟩) 1 1, .slice (some ⟨W.heap.size + 1, 0, none⟩) 1 1], rfl, by simp, ?_, by simp, by unfold maxLen; omega, rfl, rfl⟩⟩
    have := (MapKept.heap_alloc ((W.alloc (.cells #[c0, c1, c2, c3, c4, c5, c6] 35)).alloc (.cells #[d0, d1, d2, d3, d4, d5, d6] 35)) (.cells #[.slice (some ⟨W.heap.size, 0, none⟩) 1 1, .slice (some ⟨W.heap.size + 1, 0, none⟩) 1 1] 118)).1
    simpa using this
  · refine ⟨#[], 0, ?_, rfl⟩
    have := (MapKept.heap_alloc (((W.alloc (.cells #[c0, c1, c2, c3, c4, c5, c6] 35)).alloc (.cells #[d0, d1, d2, d3, d4, d5, d6] 35)).alloc (.cells #[.slice (some ⟨W.heap.size, 0, none⟩) 1 1, .slice (some ⟨W.heap.size + 1, 0, none⟩) 1 1] 118)) (.map #[] 0)).1
    simpa using this
structure LC (W : World) (q : Nat) (va vb : Value) : Prop where
  a : W.cell? ⟨q, 0, none⟩ = some va
  b : W.cell? ⟨q, 1, none⟩ = some vb
theorem LC.lt {W : World} {q : Nat} {va vb : Value} (h : LC W q va vb) : q < W.heap.size := World.block_lt_of_cell? W ⟨q, 0, none⟩ h.a
theorem LC.on {W W' : World} {q : Nat} {va vb : Value} (h : LC W q va vb) (x : Q W W') : LC W' q va vb := ⟨(x.cell h.lt).trans h.a, (x.cell h.lt).trans h.b⟩
theorem LC.kept {W W' : World} {q : Nat} {va vb : Value} {r : Option Nat} (h : LC W q va vb) (g : W.grownBy W' r) (hr : some q ≠ r) : LC W' q va vb := by
  have hl := h.lt
  exact ⟨(World.cell?_of_block (w := W) (w' := W') (a := ⟨q, 0, none⟩) (g.block q hl hr)).trans h.a, (World.cell?_of_block (w := W) (w' := W') (a := ⟨q, 1, none⟩) (g.block q hl hr)).trans h.b⟩
theorem Kid.on {W W' : World} {x : Ex} {b off : Nat} {c0 c1 c2 c3 c4 c5 c6 : Value} (h : Kid W x b off c0 c1 c2 c3 c4 c5 c6) (q : Q W W') : Kid W' x b off c0 c1 c2 c3 c4 c5 c6 := by
  have ce : ∀ {o : Nat} {c : Value}, W.cell? ⟨b, o, none⟩ = some c → W'.cell? ⟨b, o, none⟩ = some c := fun h => (q.cell (World.block_lt_of_cell? W ⟨b, _, none⟩ h)).trans h
  exact ⟨ce h.g0, ce h.g1, ce h.g2, ce h.g3, ce h.g4, ce h.g5, ce h.g6, Rd.on q _ _ h.rd⟩
theorem Eqv.memK {R : Prop} {L K K' : List Pr} (h : Eqv R L K) (hk : ∀ k ∈ K', k ∈ K) : Eqv R L K' := ⟨h.all, fun k h' => h.bgn k (hk k h')⟩
theorem one2 (a1 : Option Addr) (l1 c1 : Nat) (a2 : Option Addr) (l2 c2 : Nat) : ∀ u ∈ ([.slice a1 l1 c1, .slice a2 l2 c2] : List Value), u.oneCell' = true := by
  intro u hu
  simp at hu
  rcases hu with rfl | rfl <;> rfl
theorem wgt_len {W : World} : ∀ {ps : List (Value × Value)} {L : List Pr}, All2 (RdP W) ps L → ps.length ≤ wgt L
  | [], [], _ => by simp
  | [], _ :: _, h => by cases h
  | _ :: _, [], h => by cases h
  | p :: ps, (a, b) :: L, h => by
    rw [wgt_cons, List.length_cons]
    have := wgt_len h.2
    have h1 := h.1.ne
    cases a with
    | nil => exact absurd rfl h1
    | cons z zs =>
      show _ ≤ nodes.nodesL (z :: zs) + _
      rw [nodesL_cons']
      omega
theorem wpList_mapUpdate_keys (w : World) {ops : Array Oper} {rest : List Oper} {o : Oper} {a : Act} {Q : Exit → Act → World → Prop} (hg : o.guard = none) (m x v : Operand) (hop : o.op = Op.mapUpdate 120 m x v) (b : Nat) (ks : List Ky) (k : Ky)
    (hm : a.eval m = .map (some b)) (hx : a.eval x = kyV k) (hv : a.eval v = .agg #[]) (h : MapK w b ks) (hk : KyP w k) (hp : ∀ x ∈ ks, KyP w x) (hn : k ∉ ks)
    (hK : ∀ w', MapK w' b (ks ++ [k]) → w.grownBy w' (some b) → wpList Tryz.prog ops Q rest (a.put o.dst undef) w') : wpList Tryz.prog ops Q (o :: rest) a w := by
  refine wpList_plain hg fun K' hK' => ?_
  obtain ⟨w', hrun, r1, r2⟩ := h.update k hk hp hn
  unfold Oper.wp
  simp [execOp, hop, hm, hx, hv, hrun, Result.andThen]
  exact hK' _ _ (hK w' r1 r2)
theorem lc_new (W : World) (va vb : Value) (t : TypeId) : LC (W.alloc (.cells #[va, vb] t)) W.heap.size va vb := by
  refine ⟨?_, ?_⟩ <;> simp [World.cell?_alloc_new]
set_option maxHeartbeats 8000000 in
theorem eq_any (x y : Ex) (v v' : Value) (W : World) (hx : Rd W x v) (hy : Rd W y v') (hb : nodes x ≤ 1000) : Calls Tryz.prog 47 #[v, v'] W fun e W' => Ans (x = y) e ∧ Q W W' := by
  obtain ⟨k, n, t, b, e, a1, l1, c1, a2, l2, c2, rfl⟩ := hx.shape
  obtain ⟨k', n', t', b', e', a1', l1', c1', a2', l2', c2', rfl⟩ := hy.shape
  obtain ⟨W2, q2, hE⟩ : ∃ W2, Q W W2 ∧ EM W2 ((((((W.alloc (.cells #[.int .i64 k, .int .i64 n, .string t, .bool b, .int .i64 e, .slice a1 l1 c1, .slice a2 l2 c2] 35)).alloc (.cells #[.int .i64 k', .int .i64 n', .string t', .bool b', .int .i64 e', .slice a1' l1' c1', .slice a2' l2' c2'] 35)).alloc (.cells #[.int .i64 k, .int .i64 n, .string t, .bool b, .int .i64 e, .slice a1 l1 c1, .slice a2 l2 c2] 35)).alloc (.cells #[.int .i64 k', .int .i64 n', .string t', .bool b', .int .i64 e', .slice a1' l1' c1', .slice a2' l2' c2'] 35)).alloc (.cells #[.slice (some ⟨W.heap.size + 1 + 1, 0, none⟩) 1 1, .slice (some ⟨W.heap.size + 1 + 1 + 1, 0, none⟩) 1 1] 118)).alloc (.map #[] 0)) (W.heap.size + 1 + 1 + 1 + 1 + 1) (.slice (some ⟨W.heap.size + 1 + 1 + 1 + 1, 0, none⟩) 1 1) [(.slice (some ⟨W.heap.size + 1 + 1, 0, none⟩) 1 1, .slice (some ⟨W.heap.size + 1 + 1 + 1, 0, none⟩) 1 1)] [([x], [y])] [] [] := by
    have q0 : Q W ((W.alloc (.cells #[.int .i64 k, .int .i64 n, .string t, .bool b, .int .i64 e, .slice a1 l1 c1, .slice a2 l2 c2] 35)).alloc (.cells #[.int .i64 k', .int .i64 n', .string t', .bool b', .int .i64 e', .slice a1' l1' c1', .slice a2' l2' c2'] 35)) := ((Q.refl _).alloc _).alloc _
    have h := em0 (Rd.on q0 _ _ hx) (Rd.on q0 _ _ hy)
    rw [show ((W.alloc (.cells #[.int .i64 k, .int .i64 n, .string t, .bool b, .int .i64 e, .slice a1 l1 c1, .slice a2 l2 c2] 35)).alloc (.cells #[.int .i64 k', .int .i64 n', .string t', .bool b', .int .i64 e', .slice a1' l1' c1', .slice a2' l2' c2'] 35)).heap.size = W.heap.size + 1 + 1 by simp] at h
    exact ⟨_, (((((Q.refl _).alloc _).alloc _).alloc _).alloc _), h⟩
  have HE := hid hE
  have HQ2 := hid q2
  have HS : Hid (Eqv (x = y) [([x], [y])] [] ∧ wgt [([x], [y])] ≤ 1000) := hid ⟨eqv_start x y, by rw [wgt_cons]; simp [wgt, nodes.nodesL]; exact hb⟩
  obtain ⟨M, hM⟩ : ∃ M, M = W.heap.size + 1 + 1 + 1 + 1 + 1 := ⟨_, rfl⟩
  have HM := hid hM
  clear hx hy hE q2 hM hb
  have hmm := @run_makeMap Tryz.prog
  go_enter Tryz.func47, Tryz.ntmps47
  go_wp2_with fail
  go_loopw [4, 5] (fun _ u wr => ∃ (ps : List (Value × Value)) (L K : List Pr) (ks : List Ky), EM W2 wr (W.heap.size + 1 + 1 + 1 + 1 + 1) u ps L ks K ∧ Hid (Eqv (x = y) L K ∧ wgt L ≤ 1000)) (fun _ u wr => Classical.epsilon (WgtAt W2 wr u))
  case atStart => exact ⟨_, _, [], [], HE.out, HS⟩
  case round =>
    obtain ⟨ps, L, K, ks, hE, HV⟩ := hrel
    obtain ⟨w0, hw0⟩ : ∃ w0, w0 = wr := ⟨wr, rfl⟩
    subst hw0
    have HEr := hid hE
    have HEr0 := hid hE
    clear HE HS
    cases ps with
    | nil =>
      cases L with
      | cons l L => exact absurd hE.rp (by simp [All2])
      | nil =>
        have HF := hid HV.out.1.done
        obtain ⟨ao, cap, hv, _⟩ := (hE.ow.sl encP_len (by omega)).len
        simp only [List.reverse_nil, List.length_nil] at hv
        subst hv
        clear hE
        go_wp2_with fail
        go_ret
        exact ⟨Ans.yes HF.out, HQ2.out.trans HEr.out.q⟩
    | cons p ps =>
      cases L with
      | nil => exact absurd hE.rp (by simp [All2])
      | cons l L =>
        obtain ⟨va, vb⟩ := p
        obtain ⟨xs, ys⟩ := l
        obtain ⟨hp, hr⟩ := hE.rp
        have HP := hid hp
        have ow := hE.ow
        rw [List.reverse_cons] at ow
        obtain ⟨g, cap, hv, hg1, hg2, hc1, hc2⟩ := ow.shape (by simp)
        rw [List.length_append, List.length_singleton, List.length_reverse] at hv hc1
        subst hv
        obtain ⟨n0, hn0⟩ : ∃ n0, ps.length = n0 := ⟨_, rfl⟩
        rw [hn0] at HEr HEr0 hE ow hc1 ⊢
        have hlen : (ps.reverse ++ [(va, vb)]).length = n0 + 1 := by rw [List.length_append, List.length_reverse, hn0]; rfl
        have ow2 : Own encP 118 2 W2.heap.size w0 (.slice (some ⟨g, 0, none⟩) (ps.reverse ++ [(va, vb)]).length cap) (ps.reverse ++ [(va, vb)]) := by rw [hlen]; exact ow
        have cl := ow2.cell encP_len (i := n0) (by rw [hlen]; omega)
        rw [List.getElem_append_right (by simp; omega)] at cl
        simp only [List.length_reverse, hn0, Nat.sub_self, List.getElem_cons_zero] at cl
        have z0 : w0.cell? ⟨g, n0 * 2, none⟩ = some va := cl 0 _ rfl
        have z1 : w0.cell? ⟨g, n0 * 2 + 1, none⟩ = some vb := cl 1 _ rfl
        have hln : xs.length = ys.length := hp.ln
        have hpos : 0 < xs.length := List.length_pos_iff.2 hp.ne
        obtain ⟨b1, o1, cap1, e1⟩ : ∃ b1 o1 cap1, va = .slice (some ⟨b1, o1, none⟩) xs.length cap1 := by
          obtain ⟨b1, o1, cap1, e1, _⟩ := hp.a.at (i := 0) hpos
          exact ⟨_, _, _, e1⟩
        obtain ⟨b2, o2, cap2, e2⟩ : ∃ b2 o2 cap2, vb = .slice (some ⟨b2, o2, none⟩) xs.length cap2 := by
          obtain ⟨b2, o2, cap2, e2, _⟩ := hp.b.at (i := 0) (by show 0 < ys.length; rw [← hln]; exact hpos)
          simp only at e2
          rw [← hln] at e2
          exact ⟨_, _, _, e2⟩
        have HC : Hid (EM W2 w0 (W.heap.size + 1 + 1 + 1 + 1 + 1) (.slice (some ⟨g, 0, none⟩) n0 cap) ps L ks K) := hid ⟨hE.q, own_cut ow (by simp; exact hn0), hE.mp, hE.hm, hE.ob, hr, hE.rk⟩
        have hmax : xs.length ≤ 9223372036854775807 := by
          obtain ⟨_, cc, _, h1, h2, _⟩ := hp.a
          simp only at h1
          unfold maxLen at h2
          omega
        obtain ⟨N1, hN1⟩ : ∃ N1, xs.length = N1 := ⟨_, rfl⟩
        rw [hN1] at e1 e2 hpos hmax
        have HN1 := hid hN1
        have HLN := hid hln
        subst e1 e2
        clear hE ow ow2 hlen cl hp hr hN1 hln
        have hn1 : n0 + 1 ≤ 9223372036854775807 := by unfold maxLen at hc2; omega
        have i0 : (0 : Int) < ((n0 + 1 : Nat) : Int) := by omega
        have i1 : ((n0 + 1 : Nat) : Int) - 1 = (n0 : Int) := by omega
        go_wp2_with fail
        have hM0 := HC.out.mp.lt
        have HL0 : Hid (EM W2 (w0.alloc (.cells #[.slice (some ⟨b1, o1, none⟩) N1 cap1, .slice (some ⟨b2, o2, none⟩) N1 cap2] 118)) (W.heap.size + 1 + 1 + 1 + 1 + 1) (.slice (some ⟨g, 0, none⟩) n0 cap) ps L ks K) := hid (HC.out.on ((Q.refl _).alloc _))
        go_loopw [4, 5, 36] (fun _ u s wi => ∃ (i : Nat) (ps' : List (Value × Value)) (L' K' : List Pr) (ks' : List Ky), i ≤ N1 ∧ s = .int .i64 (i : Int) ∧ EM W2 wi (W.heap.size + 1 + 1 + 1 + 1 + 1) u ps' L' ks' K' ∧ LC wi w0.heap.size (.slice (some ⟨b1, o1, none⟩) N1 cap1) (.slice (some ⟨b2, o2, none⟩) N1 cap2) ∧ Hid (u.ownBlock ≠ some w0.heap.size) ∧ Hid (Eqv (x = y) ((xs.drop i, ys.drop i) :: L') K' ∧ wgt ((xs.drop i, ys.drop i) :: L') + i ≤ wgt ((xs, ys) :: L))) (fun _ _ s _ => N1 - (intOf s).toNat)
        case atStart => exact ⟨0, ps, L, K, ks, Nat.zero_le _, rfl, HL0.out, lc_new _ _ _ _, hid (fun e => by have := Option.some.inj e; simp only at this; omega), hid ⟨by rw [List.drop_zero, List.drop_zero]; exact HV.out.1, by rw [List.drop_zero, List.drop_zero]; exact Nat.le_refl _⟩⟩
        case round =>
          obtain ⟨i, ps', L', K', ks', hi, rfl, hE', hLC, HOB, HV'⟩ := hrel
          have HE' := hid hE'
          have HLC := hid hLC
          clear HL0 HC HEr
          by_cases hlt : i < N1
          · have hlt' : (i : Int) < (N1 : Int) := by omega
            have hix : i < xs.length := by rw [HN1.out]; exact hlt
            have hiy : i < ys.length := by rw [← HLN.out]; exact hix
            have dx : xs.drop i = xs[i] :: xs.drop (i + 1) := List.drop_eq_getElem_cons hix
            have dy : ys.drop i = ys[i] :: ys.drop (i + 1) := List.drop_eq_getElem_cons hiy
            have HD : Hid (Eqv (x = y) ((xs[i] :: xs.drop (i + 1), ys[i] :: ys.drop (i + 1)) :: L') K' ∧ wgt ((xs[i] :: xs.drop (i + 1), ys[i] :: ys.drop (i + 1)) :: L') + i ≤ wgt ((xs, ys) :: L)) := by
              have := HV'.out
              rw [dx, dy] at this
              exact this
            obtain ⟨c0, c1, c2, c3, c4, c5, c6, hka⟩ : ∃ c0 c1 c2 c3 c4 c5 c6, Kid W2 xs[i] b1 (o1 + i * 7) c0 c1 c2 c3 c4 c5 c6 := by
              obtain ⟨bb, oo, cc, e1, _, _, c0, c1, c2, c3, c4, c5, c6, hk⟩ := HP.out.a.at hix
              simp only [Value.slice.injEq, Option.some.injEq, Addr.mk.injEq] at e1
              obtain ⟨⟨rfl, rfl, _⟩, _⟩ := e1
              exact ⟨_, _, _, _, _, _, _, hk⟩
            obtain ⟨d0, d1, d2, d3, d4, d5, d6, hkb⟩ : ∃ d0 d1 d2 d3 d4 d5 d6, Kid W2 ys[i] b2 (o2 + i * 7) d0 d1 d2 d3 d4 d5 d6 := by
              obtain ⟨bb, oo, cc, e1, _, _, c0, c1, c2, c3, c4, c5, c6, hk⟩ := HP.out.b.at hiy
              simp only [Value.slice.injEq, Option.some.injEq, Addr.mk.injEq] at e1
              obtain ⟨⟨rfl, rfl, _⟩, _⟩ := e1
              exact ⟨_, _, _, _, _, _, _, hk⟩
            have HTA := hid hka.tl
            have HTB := hid hkb.tl
            have kA := hka.on hE'.q
            have kB := hkb.on hE'.q
            generalize xs[i] = X at *
            generalize ys[i] = Y at *
            have HSM := hid (fun m => same_q X Y b1 (o1 + i * 7) b2 (o2 + i * 7) c0 c1 c2 c3 c4 c5 c6 d0 d1 d2 d3 d4 d5 d6 (wr.drewN m) (kA.on ((Q.refl _).drewN m)) (kB.on ((Q.refl _).drewN m)))
            have HKA := hid kA.g6
            have HKB := hid kB.g6
            have l0 := hLC.a
            have l1' := hLC.b
            clear hka hkb kA kB dx dy HV' hix hiy hE' hLC
            cases hs : sameB X Y
            · have HNO : Hid (¬ (x = y)) := hid (HD.out.1.no (fun h => by rw [(sameB_iff X Y).2 h] at hs; cases hs))
              rw [hs] at HSM
              clear hs HD
              go_wp2_with fail
              go_quiet (first | (go_at_call 70; refine Calls.quiet_of (HSM.out _)) | (refine Calls.quiet_of (HSM.out _)))
              go_wp2_with fail
              go_ret
              exact ⟨Ans.no HNO.out, (HQ2.out.trans HE'.out.q).drewN _⟩
            · have HYE := hid ((sameB_iff X Y).1 hs)
              rw [hs] at HSM
              clear hs
              go_wp2_with fail
              go_quiet (first | (go_at_call 70; refine Calls.quiet_of (HSM.out _)) | (refine Calls.quiet_of (HSM.out _)))
              rename_i nq
              obtain ⟨w3, hw3⟩ : ∃ w3, w3 = wr.drewN nq := ⟨_, rfl⟩
              have HQ3 : Hid (Q wr w3) := by rw [hw3]; exact (Q.refl _).drewN _
              rw [← hw3]
              clear hw3 l0 l1' HSM
              have HE3 := hid (HE'.out.on HQ3.out)
              have HL3 := hid (HLC.out.on HQ3.out)
              have l0 := HL3.out.a
              have l1' := HL3.out.b
              have k6 := (HQ3.out.cell (World.block_lt_of_cell? wr ⟨b1, o1 + i * 7 + 6, none⟩ HKA.out)).trans HKA.out
              have k6' := (HQ3.out.cell (World.block_lt_of_cell? wr ⟨b2, o2 + i * 7 + 6, none⟩ HKB.out)).trans HKB.out
              have hb1 : b1 < w3.heap.size := World.block_lt_of_cell? w3 ⟨b1, o1 + i * 7 + 6, none⟩ k6
              have hb2 : b2 < w3.heap.size := World.block_lt_of_cell? w3 ⟨b2, o2 + i * 7 + 6, none⟩ k6'
              have hnb : w0.heap.size < w3.heap.size := HL3.out.lt
              have HYL : Hid ((kd X).length = (kd Y).length) := hid HYE.out.2
              obtain ⟨ac, cc, ec⟩ : ∃ ac cc, c6 = .slice ac (kd X).length cc := by
                obtain ⟨ac, cc, ec, _⟩ := HTA.out
                exact ⟨_, _, ec⟩
              obtain ⟨ad, cd, ed⟩ : ∃ ad cd, d6 = .slice ad (kd X).length cd := by
                obtain ⟨ad, cd, ed, _⟩ := HTB.out
                rw [← HYL.out] at ed
                exact ⟨_, _, ed⟩
              clear HKA HKB
              obtain ⟨N2, hN2⟩ : ∃ N2, (kd X).length = N2 := ⟨_, rfl⟩
              have HN2 := hid hN2
              rw [hN2] at ec ed
              clear hN2
              subst ec ed
              by_cases h0 : N2 = 0
              · have z2 : ((N2 : Int) == 0) = true := by rw [h0]; rfl
                have HD2 : Hid (Eqv (x = y) ((xs.drop (i + 1), ys.drop (i + 1)) :: L') K' ∧ wgt ((xs.drop (i + 1), ys.drop (i + 1)) :: L') + (i + 1) ≤ wgt ((xs, ys) :: L)) := by
                  have hx0 : kd X = [] := List.eq_nil_of_length_eq_zero (by rw [HN2.out, h0])
                  refine ⟨HD.out.1.leaf HYE.out.1 hx0 HYE.out.2, ?_⟩
                  have := HD.out.2
                  rw [wgt_cons] at this ⊢
                  simp only [nodesL_cons'] at this
                  simp only
                  omega
                clear HD
                go_wp2_with fail
                go_region
                go_wp2_with fail
                go_roundw
                case rel => exact ⟨i + 1, ps', L', K', ks', by omega, by go_num, HE3.out.on (by repeat (first | with_reducible exact Q.refl _ | with_reducible refine Q.drewN ?_ _ | with_reducible refine Q.drew ?_ | with_reducible refine Q.alloc ?_ _ | with_reducible refine Q.setCell ?_ (by simp) _)), HL3.out.on (by repeat (first | with_reducible exact Q.refl _ | with_reducible refine Q.drewN ?_ _ | with_reducible refine Q.drew ?_ | with_reducible refine Q.alloc ?_ _ | with_reducible refine Q.setCell ?_ (by simp) _)), HOB, HD2⟩
                case measure => simp [intOf]; omega
              · have z2 : ((N2 : Int) == 0) = false := by rw [beq_eq_false_iff_ne]; omega
                have hN2 : 0 < N2 := by omega
                obtain ⟨p1, q1, r1, pl1, rd1⟩ : ∃ p1 q1, ac = some ⟨p1, q1, none⟩ ∧ Pl W2 p1 ∧ Rd.RdL W2 (kd X) p1 q1 := by
                  obtain ⟨ao, cp, ev, _, _, h⟩ := HTA.out
                  simp only [Value.slice.injEq] at ev
                  obtain ⟨rfl, _⟩ := ev
                  exact h (fun e => by have := HN2.out; rw [e] at this; simp at this; omega)
                obtain ⟨p2, q2, r2, pl2, rd2⟩ : ∃ p2 q2, ad = some ⟨p2, q2, none⟩ ∧ Pl W2 p2 ∧ Rd.RdL W2 (kd Y) p2 q2 := by
                  obtain ⟨ao, cp, ev, _, _, h⟩ := HTB.out
                  simp only [Value.slice.injEq] at ev
                  obtain ⟨rfl, _⟩ := ev
                  exact h (fun e => by have := HN2.out; have h2 := HYL.out; rw [e] at h2; rw [h2] at this; simp at this; omega)
                have HKR : Hid (KyR W2 (p1, q1, p2, q2, N2) (kd X, kd Y)) := hid ⟨⟨pl1, pl2⟩, rd1, rd2, HN2.out, HYL.out ▸ HN2.out⟩
                have HRP : Hid (RdP W2 (.slice ac N2 cc, .slice ad N2 cd) (kd X, kd Y)) := hid ⟨HTA.out, HTB.out, HYL.out, fun e => by have := HN2.out; simp only at e; rw [e] at this; simp at this; omega⟩
                subst r1 r2
                clear pl1 pl2 rd1 rd2
                have HKEY := hid (fun W' => key_any p1 q1 p2 q2 N2 cc cd hN2 W')
                go_wp2_with fail
                go_region
                obtain ⟨w4, hw4⟩ : ∃ w4, w4 = (w3.alloc (.cells #[.slice (some ⟨p1, q1, none⟩) N2 cc, .slice (some ⟨p2, q2, none⟩) N2 cd] 118)).drew := ⟨_, rfl⟩
                have HQ4 : Hid (Q w3 w4) := by rw [hw4]; exact ((Q.refl _).alloc _).drew
                have HL4 : Hid (LC w4 w3.heap.size (.slice (some ⟨p1, q1, none⟩) N2 cc) (.slice (some ⟨p2, q2, none⟩) N2 cd)) := by rw [hw4]; exact (lc_new w3 _ _ _).on (Q.refl _).drew
                rw [← hw4]
                clear hw4 l0 l1' k6 k6'
                have HE4 := hid (HE3.out.on HQ4.out)
                have HN4 := hid (HL3.out.on HQ4.out)
                have j0 := HL4.out.a
                have j1 := HL4.out.b
                have hM4 := HE4.out.mp.lt
                obtain ⟨NB, hNB⟩ : ∃ NB, NB = w3.heap.size := ⟨_, rfl⟩
                by_cases hk : (p1, q1, p2, q2, N2) ∈ ks'
                · have hdec : decide ((p1, q1, p2, q2, N2) ∈ ks') = true := decide_eq_true hk
                  have HD2 : Hid (Eqv (x = y) ((xs.drop (i + 1), ys.drop (i + 1)) :: L') K' ∧ wgt ((xs.drop (i + 1), ys.drop (i + 1)) :: L') + (i + 1) ≤ wgt ((xs, ys) :: L)) := by
                    obtain ⟨l, hl, hr⟩ := HE'.out.rk.mem hk
                    have el := hr.det HKR.out
                    subst el
                    refine ⟨HD.out.1.old HYE.out.1 hl, ?_⟩
                    have := HD.out.2
                    rw [wgt_cons] at this ⊢
                    simp only [nodesL_cons'] at this
                    simp only
                    omega
                  clear HD hk
                  go_wp2_with (go_at_call 71; refine (HKEY.out w4).mono ?_; rintro e w5 ⟨rfl, q5⟩; have Q5 := hid q5; clear q5; have hlk := (HE4.out.on Q5.out).mp.lookup (p1, q1, p2, q2, N2) ((HKR.out.p.on HE4.out.q).on Q5.out) (HE4.out.on Q5.out).keys; rw [hdec] at hlk)
                  go_roundw
                  case rel => exact ⟨i + 1, ps', L', K', ks', by omega, by go_num, HE4.out.on (Q5.out.trans (by repeat (first | with_reducible exact Q.refl _ | with_reducible refine Q.drewN ?_ _ | with_reducible refine Q.drew ?_ | with_reducible refine Q.alloc ?_ _ | with_reducible refine Q.setCell ?_ (by simp) _))), HN4.out.on (Q5.out.trans (by repeat (first | with_reducible exact Q.refl _ | with_reducible refine Q.drewN ?_ _ | with_reducible refine Q.drew ?_ | with_reducible refine Q.alloc ?_ _ | with_reducible refine Q.setCell ?_ (by simp) _))), HOB, HD2⟩
                  case measure => simp [intOf]; omega
                · have hdec : decide ((p1, q1, p2, q2, N2) ∈ ks') = false := decide_eq_false hk
                  have HD2 : Hid (Eqv (x = y) ((xs.drop (i + 1), ys.drop (i + 1)) :: (kd X, kd Y) :: L') (K' ++ [(kd X, kd Y)]) ∧ wgt ((xs.drop (i + 1), ys.drop (i + 1)) :: (kd X, kd Y) :: L') + (i + 1) ≤ wgt ((xs, ys) :: L)) := by
                    refine ⟨(HD.out.1.new HYE.out.1).memK (fun k hk' => ?_), ?_⟩
                    · simp only [List.mem_append, List.mem_singleton] at hk'
                      rcases hk' with h | h
                      · exact List.mem_cons_of_mem _ h
                      · rw [h]; exact List.mem_cons_self
                    · have := HD.out.2
                      rw [wgt_cons] at this ⊢
                      rw [wgt_cons]
                      simp only [nodesL_cons'] at this
                      simp only
                      omega
                  have hlp : ps'.reverse.length ≤ 1000 := by
                    rw [List.length_reverse]
                    have h1 := wgt_len HE'.out.rp
                    have h2 := HD.out.2
                    have h3 := HV.out.2
                    rw [wgt_cons] at h2
                    omega
                  have HKN := hid hk
                  have hM3 := HE3.out.mp.lt
                  obtain ⟨ti, hti⟩ := inf_of info64
                  obtain ⟨hi0, hz0, hz1, hz2⟩ := hti
                  clear HD hk
                  go_upto_region 15 with (go_at_call 71; refine (HKEY.out w4).mono ?_; rintro e w5 ⟨rfl, q5⟩; have Q5 := hid q5; clear q5; have hlk := (HE4.out.on Q5.out).mp.lookup (p1, q1, p2, q2, N2) ((HKR.out.p.on HE4.out.q).on Q5.out) (HE4.out.on Q5.out).keys; rw [hdec] at hlk)
                  obtain ⟨w6, hw6⟩ : ∃ w6, w6 = w5.alloc (.cells #[] 122) := ⟨_, rfl⟩
                  have HQ6 : Hid (Q w4 w6) := by rw [hw6]; exact Q5.out.alloc _
                  rw [← hw6]
                  clear hw6 hlk j0 j1 Q5
                  have HL6 := hid (HL4.out.on HQ6.out)
                  have HE6 := hid (HE4.out.on HQ6.out)
                  have HN6 := hid (HN4.out.on HQ6.out)
                  have j0 := HL6.out.a
                  have j1 := HL6.out.b
                  go_wp2_with (first | (go_at_call 71; refine (HKEY.out w6).mono ?_; rintro e w7 ⟨rfl, q7⟩; have Q7 := hid q7; clear q7; have HE7 := hid (HE6.out.on Q7.out); have HL7 := hid (HL6.out.on Q7.out); have HN7 := hid (HN6.out.on Q7.out)) | (at_mapUpdate; refine wpList_mapUpdate_keys _ rfl _ _ _ rfl (W.heap.size + 1 + 1 + 1 + 1 + 1) ks' (p1, q1, p2, q2, N2) rfl rfl rfl HE7.out.mp (HKR.out.p.on HE7.out.q) HE7.out.keys HKN.out ?_; intro w8 mp8 g8; have HE8 := hid (HE7.out.upd g8 mp8 HKR.out); have HL8 := hid (HL7.out.kept g8 (fun e => by have := Option.some.inj e; omega)); have HN8 := hid (HN7.out.kept g8 (fun e => by have := Option.some.inj e; omega)); clear mp8 g8; have j08 := HL8.out.a; have j18 := HL8.out.b; have hs8 := HE8.out.q.size) | (at_builtin; refine wpList_append_own_at _ rfl _ _ 119 rfl W2.heap.size 118 ti (.agg #[.slice none 0 0, .slice none 0 0]) 2 48 Tryz.underlying119 hi0 hz0 hz1 hz2 rfl (by decide) _ _ _ rfl (HE8.out.ow.alloc _) ⟨w8.heap.size, 0, none⟩ 1 1 [.slice (some ⟨p1, q1, none⟩) N2 cc, .slice (some ⟨p2, q2, none⟩) N2 cd] rfl rfl (news_at _ [.slice (some ⟨p1, q1, none⟩) N2 cc, .slice (some ⟨p2, q2, none⟩) N2 cd] 118 _ rfl) (one2 _ _ _ _ _ _) (by unfold maxLen; omega) (by omega) (by simp; omega) ?_; intro v9 w9 hown9 hgrow9 _ hat9; have ow9 := own_snoc' (x := ((.slice (some ⟨p1, q1, none⟩) N2 cc, .slice (some ⟨p2, q2, none⟩) N2 cd) : Value × Value)) hown9 rfl; have HE9 := hid ((HE8.out.on ((Q.refl _).alloc _)).app hgrow9 ow9 hat9 HRP.out); have HN9 := hid ((HN8.out.on ((Q.refl _).alloc _)).kept hgrow9 (fun e => HOB.out e.symm)); have HA9 := hid hat9; clear hown9 hgrow9 hat9 ow9))
                  go_roundw
                  case rel =>
                    refine ⟨i + 1, (.slice (some ⟨p1, q1, none⟩) N2 cc, .slice (some ⟨p2, q2, none⟩) N2 cd) :: ps', (kd X, kd Y) :: L', K' ++ [(kd X, kd Y)], ks' ++ [(p1, q1, p2, q2, N2)], by omega, by go_num, HE9.out, HN9.out, hid ?_, HD2⟩
                    rcases HA9.out with h | h
                    · rw [h]; exact HOB.out
                    · rw [h]
                      intro e
                      have := Option.some.inj e
                      have := HN8.out.lt
                      simp at *
                      omega
                  case measure => simp [intOf]; omega
          · have hlt' : ¬ (i : Int) < (N1 : Int) := by omega
            have hie : i = N1 := by omega
            have HD : Hid (Eqv (x = y) L' K' ∧ wgt L' + i ≤ wgt ((xs, ys) :: L)) := by
              have := HV'.out
              rw [List.drop_eq_nil_of_le (by rw [HN1.out]; omega), List.drop_eq_nil_of_le (by rw [← HLN.out, HN1.out]; omega)] at this
              refine ⟨this.1.pop, ?_⟩
              have h2 := this.2
              rw [wgt_cons] at h2
              simp only [nodes.nodesL] at h2
              omega
            clear HV' hE' hLC
            go_wp2_with fail
            go_roundw
            case rel => exact ⟨ps', L', K', ks', HE'.out, hid ⟨HD.out.1, by have := HD.out.2; have := HV.out.2; omega⟩⟩
            case measure =>
              rw [HE'.out.wgt, HEr0.out.wgt]
              have := HD.out.2
              omega
set_option maxHeartbeats 4000000 in
theorem veq_any (k n : Int) (t : ByteArray) (b : Bool) (e : Int) (k' n' : Int) (t' : ByteArray) (b' : Bool) (e' : Int) (w : World) : Calls Tryz.prog 45 #[vx k n t b e, vx k' n' t' b' e'] w fun x w' => x = .returned (.bool (decide (k = k' ∧ n = n' ∧ t.data.toList = t'.data.toList ∧ b = b' ∧ e = e'))) ∧ Q w w' := by
  by_cases h0 : k = k'
  · by_cases h1 : n = n'
    · by_cases h2 : t.data.toList = t'.data.toList
      · by_cases h3 : b = b'
        · by_cases h4 : e = e'
          · have ht : t = t' := by rw [← bytes_of t, h2, bytes_of]
            subst h0 h1 ht h3 h4
            rw [decide_eq_true ⟨rfl, rfl, rfl, rfl, rfl⟩]
            exact veq_same k n t b e w
          · rw [decide_eq_false (fun x => h4 x.2.2.2.2)]
            have e0 : (k == k') = true := by simpa using h0
            have e1 : (n == n') = true := by simpa using h1
            have e2 : (t.toList == t'.toList) = true := by rw [Lib.toList_data, Lib.toList_data]; simpa using h2
            have e3 : (b == b') = true := by simpa using h3
            have e4 : (e == e') = false := by simpa using h4
            clear h0 h1 h2 h3 h4
            unfold vx
            go_enter Tryz.func45, Tryz.ntmps45
            go_wp2_with fail
            go_ret
            exact ⟨rfl, ((Q.refl _).alloc _).alloc _⟩
        · rw [decide_eq_false (fun x => h3 x.2.2.2.1)]
          have e0 : (k == k') = true := by simpa using h0
          have e1 : (n == n') = true := by simpa using h1
          have e2 : (t.toList == t'.toList) = true := by rw [Lib.toList_data, Lib.toList_data]; simpa using h2
          have e3 : (b == b') = false := by simpa using h3
          clear h0 h1 h2 h3
          unfold vx
          go_enter Tryz.func45, Tryz.ntmps45
          go_wp2_with fail
          go_ret
          exact ⟨rfl, ((Q.refl _).alloc _).alloc _⟩
      · rw [decide_eq_false (fun x => h2 x.2.2.1)]
        have e0 : (k == k') = true := by simpa using h0
        have e1 : (n == n') = true := by simpa using h1
        have e2 : (t.toList == t'.toList) = false := by rw [Lib.toList_data, Lib.toList_data]; simpa using h2
        clear h0 h1 h2
        unfold vx
        go_enter Tryz.func45, Tryz.ntmps45
        go_wp2_with fail
        go_ret
        exact ⟨rfl, ((Q.refl _).alloc _).alloc _⟩
    · rw [decide_eq_false (fun x => h1 x.2.1)]
      have e0 : (k == k') = true := by simpa using h0
      have e1 : (n == n') = false := by simpa using h1
      clear h0 h1
      unfold vx
      go_enter Tryz.func45, Tryz.ntmps45
      go_wp2_with fail
      go_ret
      exact ⟨rfl, ((Q.refl _).alloc _).alloc _⟩
  · rw [decide_eq_false (fun x => h0 x.1)]
    exact veq_kind k n t b e k' n' t' b' e' w h0
def isZ : Ex → Bool
  | .mk k n t b e rs ks => decide (k = 0 ∧ n = 0 ∧ t = [] ∧ b = false ∧ e = 0 ∧ rs = [] ∧ ks.length = 0)
theorem isZ_iff (x : Ex) : isZ x = true ↔ x = zeroE := by
  obtain ⟨k, n, t, b, e, rs, ks⟩ := x
  unfold isZ zeroE
  constructor
  · intro h
    simp only [decide_eq_true_eq] at h
    obtain ⟨rfl, rfl, rfl, rfl, rfl, rfl, h7⟩ := h
    rw [List.eq_nil_of_length_eq_zero h7]
  · intro h
    cases h
    decide
theorem ans_isZ {x : Ex} {e : Ending} (h : Ans (x = zeroE) e) : e = .returned (.bool (isZ x)) := by
  obtain ⟨r, he, hr⟩ := h
  rw [he]
  have : r = isZ x := by
    cases hz : isZ x
    · cases r
      · rfl
      · have := (isZ_iff x).2 (hr.1 rfl)
        rw [hz] at this
        cases this
    · exact hr.2 ((isZ_iff x).1 hz)
  rw [this]
set_option maxHeartbeats 4000000 in
theorem smay_val (vk vn : Int) (vt : ByteArray) (vb : Bool) (ve : Int) (k m : Int) (t : ByteArray) (bb : Bool) (er : Int) (a1 : Option Addr) (l1 c1 : Nat) (a2 : Option Addr) (l2 c2 : Nat) (X : Ex) (w : World) (hg : Gd w) (hv : vt.size ≤ 1000000) (hn : nodes X ≤ 1000) (hr : Rd w X (.agg #[.int .i64 k, .int .i64 m, .string t, .bool bb, .int .i64 er, .slice a1 l1 c1, .slice a2 l2 c2])) : Calls Tryz.prog 29 #[.agg #[.bool false, .int .i64 vk, .int .i64 vn, .string vt, .bool vb, .int .i64 ve, .int .i64 k, .int .i64 m, .string t, .bool bb, .int .i64 er, .slice a1 l1 c1, .slice a2 l2 c2]] w fun e W' => e = .returned (.bool (V.mayB vk vn vt.data.toList vb ve && isZ X)) ∧ Q w W' := by
  have HM := hid (fun W' (q : Q w W') => V.may_any vk vn vt vb ve W' (hg.1.on q) (by omega))
  unfold V.vv at HM
  rw [Lib.toList_data] at HM
  have HV := hid (fun W' (q : Q w W') => eq_any X zeroE _ _ W' (Rd.on q _ _ hr) (rd_zero W') hn)
  clear hr hg hv hn
  cases h1 : V.mayB vk vn vt.data.toList vb ve
  · rw [h1] at HM
    go_enter Tryz.func29, Tryz.ntmps29
    go_wp2_with (go_at_call 46; refine (HM.out _ ((Q.refl _).alloc _)).mono ?_; rintro e9 w1 ⟨rfl, q1⟩; have Q1 : Hid (Q w w1) := hid (((Q.refl _).alloc _).trans q1); clear q1)
    go_ret
    exact ⟨by simp, Q1.out⟩
  · rw [h1] at HM
    go_enter Tryz.func29, Tryz.ntmps29
    go_wp2_with (first | (go_at_call 46; refine (HM.out _ ((Q.refl _).alloc _)).mono ?_; rintro e9 w1 ⟨rfl, q1⟩; have Q1 : Hid (Q w w1) := hid (((Q.refl _).alloc _).trans q1); have Z1 := hid ((cb_new w [.bool false, .int .i64 vk, .int .i64 vn, .string vt, .bool vb, .int .i64 ve, .int .i64 k, .int .i64 m, .string t, .bool bb, .int .i64 er, .slice a1 l1 c1, .slice a2 l2 c2] 37).on q1); clear q1; have d0 := Z1.out.c 0 _ rfl; have d1 := Z1.out.c 1 _ rfl; have d2 := Z1.out.c 2 _ rfl; have d3 := Z1.out.c 3 _ rfl; have d4 := Z1.out.c 4 _ rfl; have d5 := Z1.out.c 5 _ rfl; have d6 := Z1.out.c 6 _ rfl; have d7 := Z1.out.c 7 _ rfl; have d8 := Z1.out.c 8 _ rfl; have d9 := Z1.out.c 9 _ rfl; have d10 := Z1.out.c 10 _ rfl; have d11 := Z1.out.c 11 _ rfl; have d12 := Z1.out.c 12 _ rfl) | (go_at_call 47; refine (HV.out _ Q1.out).mono ?_; rintro e9 w2 ⟨ha, q2⟩; have he := ans_isZ ha; subst he; have Q2 := hid (Q1.out.trans q2); clear q2 ha))
    go_ret
    exact ⟨by simp, Q2.out⟩
set_option maxHeartbeats 4000000 in
theorem samecell_any (f : Bool) (vk vn : Int) (vt : ByteArray) (vb : Bool) (ve : Int) (k m : Int) (t : ByteArray) (bb : Bool) (er : Int) (a1 : Option Addr) (l1 c1 : Nat) (a2 : Option Addr) (l2 c2 : Nat) (f' : Bool) (vk' vn' : Int) (vt' : ByteArray) (vb' : Bool) (ve' : Int) (k' m' : Int) (t' : ByteArray) (bb' : Bool) (er' : Int) (a1' : Option Addr) (l1' c1' : Nat) (a2' : Option Addr) (l2' c2' : Nat) (X Y : Ex) (b : Bool) (w : World) (hr : Rd w X (.agg #[.int .i64 k, .int .i64 m, .string t, .bool bb, .int .i64 er, .slice a1 l1 c1, .slice a2 l2 c2])) (hr' : Rd w Y (.agg #[.int .i64 k', .int .i64 m', .string t', .bool bb', .int .i64 er', .slice a1' l1' c1', .slice a2' l2' c2'])) (hn : nodes X ≤ 1000) (hb : b = true ↔ (f = f' ∧ (vk = vk' ∧ vn = vn' ∧ vt.data.toList = vt'.data.toList ∧ vb = vb' ∧ ve = ve') ∧ X = Y)) : Calls Tryz.prog 54 #[.agg #[.bool f, .int .i64 vk, .int .i64 vn, .string vt, .bool vb, .int .i64 ve, .int .i64 k, .int .i64 m, .string t, .bool bb, .int .i64 er, .slice a1 l1 c1, .slice a2 l2 c2], .agg #[.bool f', .int .i64 vk', .int .i64 vn', .string vt', .bool vb', .int .i64 ve', .int .i64 k', .int .i64 m', .string t', .bool bb', .int .i64 er', .slice a1' l1' c1', .slice a2' l2' c2']] w fun e W' => e = .returned (.bool b) ∧ Q w W' := by
  have HV := hid (fun W' => veq_any vk vn vt vb ve vk' vn' vt' vb' ve' W')
  have HE := hid (fun W' (q : Q w W') => eq_any X Y _ _ W' (Rd.on q _ _ hr) (Rd.on q _ _ hr') hn)
  obtain ⟨rr, hrr⟩ : ∃ rr, decide (vk = vk' ∧ vn = vn' ∧ vt.data.toList = vt'.data.toList ∧ vb = vb' ∧ ve = ve') = rr := ⟨_, rfl⟩
  rw [hrr] at HV
  unfold vx at HV
  clear hr hr'
  by_cases hf : f = f'
  · have e0 : (f == f') = true := by simpa using hf
    cases rr with
    | true =>
      have hv := of_decide_eq_true hrr
      have HB : Hid (∀ e, Ans (X = Y) e → e = .returned (.bool b)) := hid (fun e ⟨r, he, hr⟩ => by
        rw [he, show r = b from Bool.eq_iff_iff.2 (hr.trans ⟨fun x => hb.2 ⟨hf, hv, x⟩, fun x => (hb.1 x).2.2⟩)])
      clear hb hf hv hrr
      go_enter Tryz.func54, Tryz.ntmps54
      go_upto_region 1 with fail
      have Z1 := hid ((cb_new w [.bool f, .int .i64 vk, .int .i64 vn, .string vt, .bool vb, .int .i64 ve, .int .i64 k, .int .i64 m, .string t, .bool bb, .int .i64 er, .slice a1 l1 c1, .slice a2 l2 c2] 37).on ((Q.refl _).alloc (.cells #[.bool f', .int .i64 vk', .int .i64 vn', .string vt', .bool vb', .int .i64 ve', .int .i64 k', .int .i64 m', .string t', .bool bb', .int .i64 er', .slice a1' l1' c1', .slice a2' l2' c2'] 37)))
      have Z2 := hid (cb_new (w.alloc (.cells #[.bool f, .int .i64 vk, .int .i64 vn, .string vt, .bool vb, .int .i64 ve, .int .i64 k, .int .i64 m, .string t, .bool bb, .int .i64 er, .slice a1 l1 c1, .slice a2 l2 c2] 37)) [.bool f', .int .i64 vk', .int .i64 vn', .string vt', .bool vb', .int .i64 ve', .int .i64 k', .int .i64 m', .string t', .bool bb', .int .i64 er', .slice a1' l1' c1', .slice a2' l2' c2'] 37)
      have QA : Hid (Q w ((w.alloc (.cells #[.bool f, .int .i64 vk, .int .i64 vn, .string vt, .bool vb, .int .i64 ve, .int .i64 k, .int .i64 m, .string t, .bool bb, .int .i64 er, .slice a1 l1 c1, .slice a2 l2 c2] 37)).alloc (.cells #[.bool f', .int .i64 vk', .int .i64 vn', .string vt', .bool vb', .int .i64 ve', .int .i64 k', .int .i64 m', .string t', .bool bb', .int .i64 er', .slice a1' l1' c1', .slice a2' l2' c2'] 37))) := hid (((Q.refl w).alloc _).alloc _)
      rw [show ([.bool f, .int .i64 vk, .int .i64 vn, .string vt, .bool vb, .int .i64 ve, .int .i64 k, .int .i64 m, .string t, .bool bb, .int .i64 er, .slice a1 l1 c1, .slice a2 l2 c2] : List Value).toArray = #[.bool f, .int .i64 vk, .int .i64 vn, .string vt, .bool vb, .int .i64 ve, .int .i64 k, .int .i64 m, .string t, .bool bb, .int .i64 er, .slice a1 l1 c1, .slice a2 l2 c2] from rfl] at Z1
      rw [show ([.bool f', .int .i64 vk', .int .i64 vn', .string vt', .bool vb', .int .i64 ve', .int .i64 k', .int .i64 m', .string t', .bool bb', .int .i64 er', .slice a1' l1' c1', .slice a2' l2' c2'] : List Value).toArray = #[.bool f', .int .i64 vk', .int .i64 vn', .string vt', .bool vb', .int .i64 ve', .int .i64 k', .int .i64 m', .string t', .bool bb', .int .i64 er', .slice a1' l1' c1', .slice a2' l2' c2'] from rfl, show (w.alloc (.cells #[.bool f, .int .i64 vk, .int .i64 vn, .string vt, .bool vb, .int .i64 ve, .int .i64 k, .int .i64 m, .string t, .bool bb, .int .i64 er, .slice a1 l1 c1, .slice a2 l2 c2] 37)).heap.size = w.heap.size + 1 by simp] at Z2
      generalize ((w.alloc (.cells #[.bool f, .int .i64 vk, .int .i64 vn, .string vt, .bool vb, .int .i64 ve, .int .i64 k, .int .i64 m, .string t, .bool bb, .int .i64 er, .slice a1 l1 c1, .slice a2 l2 c2] 37)).alloc (.cells #[.bool f', .int .i64 vk', .int .i64 vn', .string vt', .bool vb', .int .i64 ve', .int .i64 k', .int .i64 m', .string t', .bool bb', .int .i64 er', .slice a1' l1' c1', .slice a2' l2' c2'] 37)) = w2 at Z1 Z2 QA ⊢
      generalize w.heap.size + 1 = b1 at Z2 ⊢
      generalize w.heap.size = b0 at Z1 ⊢
      have d0 := Z1.out.c 0 _ rfl
      have d1 := Z1.out.c 1 _ rfl
      have d2 := Z1.out.c 2 _ rfl
      have d3 := Z1.out.c 3 _ rfl
      have d4 := Z1.out.c 4 _ rfl
      have d5 := Z1.out.c 5 _ rfl
      have d6 := Z1.out.c 6 _ rfl
      have d7 := Z1.out.c 7 _ rfl
      have d8 := Z1.out.c 8 _ rfl
      have d9 := Z1.out.c 9 _ rfl
      have d10 := Z1.out.c 10 _ rfl
      have d11 := Z1.out.c 11 _ rfl
      have d12 := Z1.out.c 12 _ rfl
      have n0 := Z2.out.c 0 _ rfl
      have n1 := Z2.out.c 1 _ rfl
      have n2 := Z2.out.c 2 _ rfl
      have n3 := Z2.out.c 3 _ rfl
      have n4 := Z2.out.c 4 _ rfl
      have n5 := Z2.out.c 5 _ rfl
      have n6 := Z2.out.c 6 _ rfl
      have n7 := Z2.out.c 7 _ rfl
      have n8 := Z2.out.c 8 _ rfl
      have n9 := Z2.out.c 9 _ rfl
      have n10 := Z2.out.c 10 _ rfl
      have n11 := Z2.out.c 11 _ rfl
      have n12 := Z2.out.c 12 _ rfl
      go_wp2_with (first | (go_at_call 45; refine (HV.out _).mono ?_; rintro e9 w3 ⟨rfl, q3⟩; have Z13 := hid (Z1.out.on q3); have Z23 := hid (Z2.out.on q3); have Q3 : Hid (Q w w3) := hid (QA.out.trans q3); clear q3; have x0 := Z13.out.c 0 _ rfl; have x1 := Z13.out.c 1 _ rfl; have x2 := Z13.out.c 2 _ rfl; have x3 := Z13.out.c 3 _ rfl; have x4 := Z13.out.c 4 _ rfl; have x5 := Z13.out.c 5 _ rfl; have x6 := Z13.out.c 6 _ rfl; have x7 := Z13.out.c 7 _ rfl; have x8 := Z13.out.c 8 _ rfl; have x9 := Z13.out.c 9 _ rfl; have x10 := Z13.out.c 10 _ rfl; have x11 := Z13.out.c 11 _ rfl; have x12 := Z13.out.c 12 _ rfl; have y0 := Z23.out.c 0 _ rfl; have y1 := Z23.out.c 1 _ rfl; have y2 := Z23.out.c 2 _ rfl; have y3 := Z23.out.c 3 _ rfl; have y4 := Z23.out.c 4 _ rfl; have y5 := Z23.out.c 5 _ rfl; have y6 := Z23.out.c 6 _ rfl; have y7 := Z23.out.c 7 _ rfl; have y8 := Z23.out.c 8 _ rfl; have y9 := Z23.out.c 9 _ rfl; have y10 := Z23.out.c 10 _ rfl; have y11 := Z23.out.c 11 _ rfl; have y12 := Z23.out.c 12 _ rfl) | (go_at_call 47; refine (HE.out _ Q3.out).mono ?_; rintro e9 w4 ⟨ha, q4⟩; have he := HB.out _ ha; subst he; have Q4 : Hid (Q w w4) := hid (Q3.out.trans q4); clear q4 ha))
      go_ret
      exact ⟨rfl, Q4.out⟩
    | false =>
      have HB : Hid (b = false) := hid (by
        cases b with
        | false => rfl
        | true => exact absurd (hb.1 rfl).2.1 (of_decide_eq_false hrr))
      clear hb hf hrr
      go_enter Tryz.func54, Tryz.ntmps54
      go_upto_region 1 with fail
      have Z1 := hid ((cb_new w [.bool f, .int .i64 vk, .int .i64 vn, .string vt, .bool vb, .int .i64 ve, .int .i64 k, .int .i64 m, .string t, .bool bb, .int .i64 er, .slice a1 l1 c1, .slice a2 l2 c2] 37).on ((Q.refl _).alloc (.cells #[.bool f', .int .i64 vk', .int .i64 vn', .string vt', .bool vb', .int .i64 ve', .int .i64 k', .int .i64 m', .string t', .bool bb', .int .i64 er', .slice a1' l1' c1', .slice a2' l2' c2'] 37)))
      have Z2 := hid (cb_new (w.alloc (.cells #[.bool f, .int .i64 vk, .int .i64 vn, .string vt, .bool vb, .int .i64 ve, .int .i64 k, .int .i64 m, .string t, .bool bb, .int .i64 er, .slice a1 l1 c1, .slice a2 l2 c2] 37)) [.bool f', .int .i64 vk', .int .i64 vn', .string vt', .bool vb', .int .i64 ve', .int .i64 k', .int .i64 m', .string t', .bool bb', .int .i64 er', .slice a1' l1' c1', .slice a2' l2' c2'] 37)
      have QA : Hid (Q w ((w.alloc (.cells #[.bool f, .int .i64 vk, .int .i64 vn, .string vt, .bool vb, .int .i64 ve, .int .i64 k, .int .i64 m, .string t, .bool bb, .int .i64 er, .slice a1 l1 c1, .slice a2 l2 c2] 37)).alloc (.cells #[.bool f', .int .i64 vk', .int .i64 vn', .string vt', .bool vb', .int .i64 ve', .int .i64 k', .int .i64 m', .string t', .bool bb', .int .i64 er', .slice a1' l1' c1', .slice a2' l2' c2'] 37))) := hid (((Q.refl w).alloc _).alloc _)
      rw [show ([.bool f, .int .i64 vk, .int .i64 vn, .string vt, .bool vb, .int .i64 ve, .int .i64 k, .int .i64 m, .string t, .bool bb, .int .i64 er, .slice a1 l1 c1, .slice a2 l2 c2] : List Value).toArray = #[.bool f, .int .i64 vk, .int .i64 vn, .string vt, .bool vb, .int .i64 ve, .int .i64 k, .int .i64 m, .string t, .bool bb, .int .i64 er, .slice a1 l1 c1, .slice a2 l2 c2] from rfl] at Z1
      rw [show ([.bool f', .int .i64 vk', .int .i64 vn', .string vt', .bool vb', .int .i64 ve', .int .i64 k', .int .i64 m', .string t', .bool bb', .int .i64 er', .slice a1' l1' c1', .slice a2' l2' c2'] : List Value).toArray = #[.bool f', .int .i64 vk', .int .i64 vn', .string vt', .bool vb', .int .i64 ve', .int .i64 k', .int .i64 m', .string t', .bool bb', .int .i64 er', .slice a1' l1' c1', .slice a2' l2' c2'] from rfl, show (w.alloc (.cells #[.bool f, .int .i64 vk, .int .i64 vn, .string vt, .bool vb, .int .i64 ve, .int .i64 k, .int .i64 m, .string t, .bool bb, .int .i64 er, .slice a1 l1 c1, .slice a2 l2 c2] 37)).heap.size = w.heap.size + 1 by simp] at Z2
      generalize ((w.alloc (.cells #[.bool f, .int .i64 vk, .int .i64 vn, .string vt, .bool vb, .int .i64 ve, .int .i64 k, .int .i64 m, .string t, .bool bb, .int .i64 er, .slice a1 l1 c1, .slice a2 l2 c2] 37)).alloc (.cells #[.bool f', .int .i64 vk', .int .i64 vn', .string vt', .bool vb', .int .i64 ve', .int .i64 k', .int .i64 m', .string t', .bool bb', .int .i64 er', .slice a1' l1' c1', .slice a2' l2' c2'] 37)) = w2 at Z1 Z2 QA ⊢
      generalize w.heap.size + 1 = b1 at Z2 ⊢
      generalize w.heap.size = b0 at Z1 ⊢
      have d0 := Z1.out.c 0 _ rfl
      have d1 := Z1.out.c 1 _ rfl
      have d2 := Z1.out.c 2 _ rfl
      have d3 := Z1.out.c 3 _ rfl
      have d4 := Z1.out.c 4 _ rfl
      have d5 := Z1.out.c 5 _ rfl
      have d6 := Z1.out.c 6 _ rfl
      have d7 := Z1.out.c 7 _ rfl
      have d8 := Z1.out.c 8 _ rfl
      have d9 := Z1.out.c 9 _ rfl
      have d10 := Z1.out.c 10 _ rfl
      have d11 := Z1.out.c 11 _ rfl
      have d12 := Z1.out.c 12 _ rfl
      have n0 := Z2.out.c 0 _ rfl
      have n1 := Z2.out.c 1 _ rfl
      have n2 := Z2.out.c 2 _ rfl
      have n3 := Z2.out.c 3 _ rfl
      have n4 := Z2.out.c 4 _ rfl
      have n5 := Z2.out.c 5 _ rfl
      have n6 := Z2.out.c 6 _ rfl
      have n7 := Z2.out.c 7 _ rfl
      have n8 := Z2.out.c 8 _ rfl
      have n9 := Z2.out.c 9 _ rfl
      have n10 := Z2.out.c 10 _ rfl
      have n11 := Z2.out.c 11 _ rfl
      have n12 := Z2.out.c 12 _ rfl
      go_wp2_with (go_at_call 45; refine (HV.out _).mono ?_; rintro e9 w3 ⟨rfl, q3⟩; have Q3 : Hid (Q w w3) := hid (QA.out.trans q3); clear q3)
      go_ret
      exact ⟨ret_bool HB.out.symm, Q3.out⟩
  · have e0 : (f == f') = false := by simpa using hf
    have HB : Hid (b = false) := hid (by
      cases b with
      | false => rfl
      | true => exact absurd (hb.1 rfl).1 hf)
    clear hb hf hrr
    go_enter Tryz.func54, Tryz.ntmps54
    go_upto_region 1 with fail
    have Z1 := hid ((cb_new w [.bool f, .int .i64 vk, .int .i64 vn, .string vt, .bool vb, .int .i64 ve, .int .i64 k, .int .i64 m, .string t, .bool bb, .int .i64 er, .slice a1 l1 c1, .slice a2 l2 c2] 37).on ((Q.refl _).alloc (.cells #[.bool f', .int .i64 vk', .int .i64 vn', .string vt', .bool vb', .int .i64 ve', .int .i64 k', .int .i64 m', .string t', .bool bb', .int .i64 er', .slice a1' l1' c1', .slice a2' l2' c2'] 37)))
    have Z2 := hid (cb_new (w.alloc (.cells #[.bool f, .int .i64 vk, .int .i64 vn, .string vt, .bool vb, .int .i64 ve, .int .i64 k, .int .i64 m, .string t, .bool bb, .int .i64 er, .slice a1 l1 c1, .slice a2 l2 c2] 37)) [.bool f', .int .i64 vk', .int .i64 vn', .string vt', .bool vb', .int .i64 ve', .int .i64 k', .int .i64 m', .string t', .bool bb', .int .i64 er', .slice a1' l1' c1', .slice a2' l2' c2'] 37)
    have QA : Hid (Q w ((w.alloc (.cells #[.bool f, .int .i64 vk, .int .i64 vn, .string vt, .bool vb, .int .i64 ve, .int .i64 k, .int .i64 m, .string t, .bool bb, .int .i64 er, .slice a1 l1 c1, .slice a2 l2 c2] 37)).alloc (.cells #[.bool f', .int .i64 vk', .int .i64 vn', .string vt', .bool vb', .int .i64 ve', .int .i64 k', .int .i64 m', .string t', .bool bb', .int .i64 er', .slice a1' l1' c1', .slice a2' l2' c2'] 37))) := hid (((Q.refl w).alloc _).alloc _)
    rw [show ([.bool f, .int .i64 vk, .int .i64 vn, .string vt, .bool vb, .int .i64 ve, .int .i64 k, .int .i64 m, .string t, .bool bb, .int .i64 er, .slice a1 l1 c1, .slice a2 l2 c2] : List Value).toArray = #[.bool f, .int .i64 vk, .int .i64 vn, .string vt, .bool vb, .int .i64 ve, .int .i64 k, .int .i64 m, .string t, .bool bb, .int .i64 er, .slice a1 l1 c1, .slice a2 l2 c2] from rfl] at Z1
    rw [show ([.bool f', .int .i64 vk', .int .i64 vn', .string vt', .bool vb', .int .i64 ve', .int .i64 k', .int .i64 m', .string t', .bool bb', .int .i64 er', .slice a1' l1' c1', .slice a2' l2' c2'] : List Value).toArray = #[.bool f', .int .i64 vk', .int .i64 vn', .string vt', .bool vb', .int .i64 ve', .int .i64 k', .int .i64 m', .string t', .bool bb', .int .i64 er', .slice a1' l1' c1', .slice a2' l2' c2'] from rfl, show (w.alloc (.cells #[.bool f, .int .i64 vk, .int .i64 vn, .string vt, .bool vb, .int .i64 ve, .int .i64 k, .int .i64 m, .string t, .bool bb, .int .i64 er, .slice a1 l1 c1, .slice a2 l2 c2] 37)).heap.size = w.heap.size + 1 by simp] at Z2
    generalize ((w.alloc (.cells #[.bool f, .int .i64 vk, .int .i64 vn, .string vt, .bool vb, .int .i64 ve, .int .i64 k, .int .i64 m, .string t, .bool bb, .int .i64 er, .slice a1 l1 c1, .slice a2 l2 c2] 37)).alloc (.cells #[.bool f', .int .i64 vk', .int .i64 vn', .string vt', .bool vb', .int .i64 ve', .int .i64 k', .int .i64 m', .string t', .bool bb', .int .i64 er', .slice a1' l1' c1', .slice a2' l2' c2'] 37)) = w2 at Z1 Z2 QA ⊢
    generalize w.heap.size + 1 = b1 at Z2 ⊢
    generalize w.heap.size = b0 at Z1 ⊢
    have d0 := Z1.out.c 0 _ rfl
    have d1 := Z1.out.c 1 _ rfl
    have d2 := Z1.out.c 2 _ rfl
    have d3 := Z1.out.c 3 _ rfl
    have d4 := Z1.out.c 4 _ rfl
    have d5 := Z1.out.c 5 _ rfl
    have d6 := Z1.out.c 6 _ rfl
    have d7 := Z1.out.c 7 _ rfl
    have d8 := Z1.out.c 8 _ rfl
    have d9 := Z1.out.c 9 _ rfl
    have d10 := Z1.out.c 10 _ rfl
    have d11 := Z1.out.c 11 _ rfl
    have d12 := Z1.out.c 12 _ rfl
    have n0 := Z2.out.c 0 _ rfl
    have n1 := Z2.out.c 1 _ rfl
    have n2 := Z2.out.c 2 _ rfl
    have n3 := Z2.out.c 3 _ rfl
    have n4 := Z2.out.c 4 _ rfl
    have n5 := Z2.out.c 5 _ rfl
    have n6 := Z2.out.c 6 _ rfl
    have n7 := Z2.out.c 7 _ rfl
    have n8 := Z2.out.c 8 _ rfl
    have n9 := Z2.out.c 9 _ rfl
    have n10 := Z2.out.c 10 _ rfl
    have n11 := Z2.out.c 11 _ rfl
    have n12 := Z2.out.c 12 _ rfl
    go_wp2_with fail
    go_ret
    exact ⟨ret_bool HB.out.symm, QA.out⟩
structure Rv where
  (k : Int)
  (sh : ByteArray)
  (row : Int)
  (col : Int)
  (f : Bool)
  (vk : Int)
  (vn : Int)
  (vt : ByteArray)
  (vb : Bool)
  (ve : Int)
  (tk : Int)
  (tm : Int)
  (tt : ByteArray)
  (tb : Bool)
  (te : Int)
  (a1 : Option Addr)
  (l1 : Nat)
  (c1 : Nat)
  (a2 : Option Addr)
  (l2 : Nat)
  (c2 : Nat)
  (lk : Int)
  (la : Int)
  (lt : Int)
  (ra : Option Addr)
  (rl : Nat)
  (rc : Nat)
  (fm : Int)
  (nm : ByteArray)
def Rv.L (x : Rv) : List Value := [.int .i64 x.k, .string x.sh, .int .i64 x.row, .int .i64 x.col, .bool x.f, .int .i64 x.vk, .int .i64 x.vn, .string x.vt, .bool x.vb, .int .i64 x.ve, .int .i64 x.tk, .int .i64 x.tm, .string x.tt, .bool x.tb, .int .i64 x.te, .slice x.a1 x.l1 x.c1, .slice x.a2 x.l2 x.c2, .int .i64 x.lk, .int .i64 x.la, .int .i64 x.lt, .slice x.ra x.rl x.rc, .int .i64 x.fm, .string x.nm]
def Rv.v (x : Rv) : Value := .agg #[.int .i64 x.k, .string x.sh, .int .i64 x.row, .int .i64 x.col, .bool x.f, .int .i64 x.vk, .int .i64 x.vn, .string x.vt, .bool x.vb, .int .i64 x.ve, .int .i64 x.tk, .int .i64 x.tm, .string x.tt, .bool x.tb, .int .i64 x.te, .slice x.a1 x.l1 x.c1, .slice x.a2 x.l2 x.c2, .int .i64 x.lk, .int .i64 x.la, .int .i64 x.lt, .slice x.ra x.rl x.rc, .int .i64 x.fm, .string x.nm]
structure RO (W : World) (x : Rv) (X : Ex) (L : List R.Rg.Rc) : Prop where
  t : Rd W X (.agg #[.int .i64 x.tk, .int .i64 x.tm, .string x.tt, .bool x.tb, .int .i64 x.te, .slice x.a1 x.l1 x.c1, .slice x.a2 x.l2 x.c2])
  r : R.Sl R.rc 4 W (.slice x.ra x.rl x.rc) L
def vE (x y : Rv) : Prop := x.vk = y.vk ∧ x.vn = y.vn ∧ x.vt.data.toList = y.vt.data.toList ∧ x.vb = y.vb ∧ x.ve = y.ve
def oE (x y : Rv) (X Y : Ex) (L M : List R.Rg.Rc) : Prop := x.k = y.k ∧ x.sh.data.toList = y.sh.data.toList ∧ x.row = y.row ∧ x.col = y.col ∧ (x.lk = y.lk ∧ x.la = y.la ∧ x.lt = y.lt) ∧ x.fm = y.fm ∧ x.nm.data.toList = y.nm.data.toList ∧ L = M ∧ (x.f = y.f ∧ vE x y ∧ X = Y)
theorem oe_split (x y : Rv) (X Y : Ex) (L M : List R.Rg.Rc) (b : Bool) (hb : b = true ↔ oE x y X Y L M) : ∃ (cb : Bool), (cb = true ↔ (x.f = y.f ∧ vE x y ∧ X = Y)) ∧ b = (decide (x.k = y.k) && (decide (x.sh.data.toList = y.sh.data.toList) && (decide (x.row = y.row) && (decide (x.col = y.col) && (decide (x.lk = y.lk ∧ x.la = y.la ∧ x.lt = y.lt) && (decide (x.fm = y.fm) && (decide (x.nm.data.toList = y.nm.data.toList) && (R.eqRc L M && cb)))))))) := by
  obtain ⟨cb, hc⟩ : ∃ cb : Bool, (cb = true ↔ (x.f = y.f ∧ vE x y ∧ X = Y)) := by
    by_cases h : (x.f = y.f ∧ vE x y ∧ X = Y)
    · exact ⟨true, fun _ => h, fun _ => rfl⟩
    · exact ⟨false, fun e => absurd e Bool.false_ne_true, fun e => absurd e h⟩
  refine ⟨cb, hc, ?_⟩
  rw [Bool.eq_iff_iff, hb]
  simp only [Bool.and_eq_true, decide_eq_true_eq, R.eqRc_iff, hc]
  rfl
theorem line_eq (a b c a' b' c' : Int) (w : World) : (binOp .eql 28 (.agg #[.int .i64 a, .int .i64 b, .int .i64 c]) (.agg #[.int .i64 a', .int .i64 b', .int .i64 c'])).run Tryz.prog w = .ok (.bool (decide (a = a' ∧ b = b' ∧ c = c'))) w := by
  have u2 := Tryz.underlying2
  have u3 := Tryz.underlying3
  have hS : Tryz.prog.underlying 28 = some (.struct (Tryz.prog.fieldsOf 28)) := by kernel_rfl
  have hp : Tryz.prog.stoodInHeld 28 = false := by kernel_rfl
  rw [run_eql_struct, show (10000 : Nat) = 9999 + 1 from rfl, run_equalIn_agg w 9999 28 _ _ hS hp]
  simp only [Program.fieldsOf, Tryz.underlying28]
  go_simp
  by_cases h1 : a = a' <;> by_cases h2 : b = b' <;> by_cases h3 : c = c' <;> simp [h1, h2, h3]
set_option maxHeartbeats 8000000 in
theorem opeq_any (x y : Rv) (X Y : Ex) (L M : List R.Rg.Rc) (b : Bool) (w : World) (hx : RO w x X L) (hy : RO w y Y M) (hn : nodes X ≤ 1000) (hL : L.length ≤ 1000000000000) (hM : M.length ≤ 1000000000000) (hb : b = true ↔ oE x y X Y L M) : Calls Tryz.prog 35 #[x.v, y.v] w fun e W' => e = .returned (.bool b) ∧ Q w W' := by
  obtain ⟨cb, hcb, hbb⟩ := oe_split x y X Y L M b hb
  clear hb
  have hxt := hx.t
  have hxr := hx.r
  have hyt := hy.t
  have hyr := hy.r
  clear hx hy
  obtain ⟨k, sh, row, col, f, vk, vn, vt, vb, ve, tk, tm, tt, tb, te, a1, l1, c1, a2, l2, c2, lk, la, lt, ra, rl, rc, fm, nm⟩ := x
  obtain ⟨k', sh', row', col', f', vk', vn', vt', vb', ve', tk', tm', tt', tb', te', a1', l1', c1', a2', l2', c2', lk', la', lt', ra', rl', rc', fm', nm'⟩ := y
  unfold Rv.v
  unfold vE at hcb
  dsimp only at *
  have HC := hid (fun W' (q : Q w W') => samecell_any f vk vn vt vb ve tk tm tt tb te a1 l1 c1 a2 l2 c2 f' vk' vn' vt' vb' ve' tk' tm' tt' tb' te' a1' l1' c1' a2' l2' c2' X Y cb W' (Rd.on q _ _ hxt) (Rd.on q _ _ hyt) hn hcb)
  have HR := hid (fun W' (q : Q w W') => R.eqR_any _ _ L M W' (hxr.on q) (hyr.on q) hL hM)
  generalize R.eqRc L M = rb at HR hbb
  clear hxt hxr hyt hyr hcb hL hM hn
  have HBB := hid hbb
  clear hbb
  go_enter Tryz.func35, Tryz.ntmps35
  go_upto_region 1 with fail
  have Z1 := hid ((cb_new w [.int .i64 k, .string sh, .int .i64 row, .int .i64 col, .bool f, .int .i64 vk, .int .i64 vn, .string vt, .bool vb, .int .i64 ve, .int .i64 tk, .int .i64 tm, .string tt, .bool tb, .int .i64 te, .slice a1 l1 c1, .slice a2 l2 c2, .int .i64 lk, .int .i64 la, .int .i64 lt, .slice ra rl rc, .int .i64 fm, .string nm] 40).on ((Q.refl _).alloc (.cells #[.int .i64 k', .string sh', .int .i64 row', .int .i64 col', .bool f', .int .i64 vk', .int .i64 vn', .string vt', .bool vb', .int .i64 ve', .int .i64 tk', .int .i64 tm', .string tt', .bool tb', .int .i64 te', .slice a1' l1' c1', .slice a2' l2' c2', .int .i64 lk', .int .i64 la', .int .i64 lt', .slice ra' rl' rc', .int .i64 fm', .string nm'] 40)))
  have Z2 := hid (cb_new (w.alloc (.cells #[.int .i64 k, .string sh, .int .i64 row, .int .i64 col, .bool f, .int .i64 vk, .int .i64 vn, .string vt, .bool vb, .int .i64 ve, .int .i64 tk, .int .i64 tm, .string tt, .bool tb, .int .i64 te, .slice a1 l1 c1, .slice a2 l2 c2, .int .i64 lk, .int .i64 la, .int .i64 lt, .slice ra rl rc, .int .i64 fm, .string nm] 40)) [.int .i64 k', .string sh', .int .i64 row', .int .i64 col', .bool f', .int .i64 vk', .int .i64 vn', .string vt', .bool vb', .int .i64 ve', .int .i64 tk', .int .i64 tm', .string tt', .bool tb', .int .i64 te', .slice a1' l1' c1', .slice a2' l2' c2', .int .i64 lk', .int .i64 la', .int .i64 lt', .slice ra' rl' rc', .int .i64 fm', .string nm'] 40)
  have QA : Hid (Q w ((w.alloc (.cells #[.int .i64 k, .string sh, .int .i64 row, .int .i64 col, .bool f, .int .i64 vk, .int .i64 vn, .string vt, .bool vb, .int .i64 ve, .int .i64 tk, .int .i64 tm, .string tt, .bool tb, .int .i64 te, .slice a1 l1 c1, .slice a2 l2 c2, .int .i64 lk, .int .i64 la, .int .i64 lt, .slice ra rl rc, .int .i64 fm, .string nm] 40)).alloc (.cells #[.int .i64 k', .string sh', .int .i64 row', .int .i64 col', .bool f', .int .i64 vk', .int .i64 vn', .string vt', .bool vb', .int .i64 ve', .int .i64 tk', .int .i64 tm', .string tt', .bool tb', .int .i64 te', .slice a1' l1' c1', .slice a2' l2' c2', .int .i64 lk', .int .i64 la', .int .i64 lt', .slice ra' rl' rc', .int .i64 fm', .string nm'] 40))) := hid (((Q.refl w).alloc _).alloc _)
  rw [show ([.int .i64 k, .string sh, .int .i64 row, .int .i64 col, .bool f, .int .i64 vk, .int .i64 vn, .string vt, .bool vb, .int .i64 ve, .int .i64 tk, .int .i64 tm, .string tt, .bool tb, .int .i64 te, .slice a1 l1 c1, .slice a2 l2 c2, .int .i64 lk, .int .i64 la, .int .i64 lt, .slice ra rl rc, .int .i64 fm, .string nm] : List Value).toArray = #[.int .i64 k, .string sh, .int .i64 row, .int .i64 col, .bool f, .int .i64 vk, .int .i64 vn, .string vt, .bool vb, .int .i64 ve, .int .i64 tk, .int .i64 tm, .string tt, .bool tb, .int .i64 te, .slice a1 l1 c1, .slice a2 l2 c2, .int .i64 lk, .int .i64 la, .int .i64 lt, .slice ra rl rc, .int .i64 fm, .string nm] from rfl] at Z1
  rw [show ([.int .i64 k', .string sh', .int .i64 row', .int .i64 col', .bool f', .int .i64 vk', .int .i64 vn', .string vt', .bool vb', .int .i64 ve', .int .i64 tk', .int .i64 tm', .string tt', .bool tb', .int .i64 te', .slice a1' l1' c1', .slice a2' l2' c2', .int .i64 lk', .int .i64 la', .int .i64 lt', .slice ra' rl' rc', .int .i64 fm', .string nm'] : List Value).toArray = #[.int .i64 k', .string sh', .int .i64 row', .int .i64 col', .bool f', .int .i64 vk', .int .i64 vn', .string vt', .bool vb', .int .i64 ve', .int .i64 tk', .int .i64 tm', .string tt', .bool tb', .int .i64 te', .slice a1' l1' c1', .slice a2' l2' c2', .int .i64 lk', .int .i64 la', .int .i64 lt', .slice ra' rl' rc', .int .i64 fm', .string nm'] from rfl, show (w.alloc (.cells #[.int .i64 k, .string sh, .int .i64 row, .int .i64 col, .bool f, .int .i64 vk, .int .i64 vn, .string vt, .bool vb, .int .i64 ve, .int .i64 tk, .int .i64 tm, .string tt, .bool tb, .int .i64 te, .slice a1 l1 c1, .slice a2 l2 c2, .int .i64 lk, .int .i64 la, .int .i64 lt, .slice ra rl rc, .int .i64 fm, .string nm] 40)).heap.size = w.heap.size + 1 by simp] at Z2
  generalize ((w.alloc (.cells #[.int .i64 k, .string sh, .int .i64 row, .int .i64 col, .bool f, .int .i64 vk, .int .i64 vn, .string vt, .bool vb, .int .i64 ve, .int .i64 tk, .int .i64 tm, .string tt, .bool tb, .int .i64 te, .slice a1 l1 c1, .slice a2 l2 c2, .int .i64 lk, .int .i64 la, .int .i64 lt, .slice ra rl rc, .int .i64 fm, .string nm] 40)).alloc (.cells #[.int .i64 k', .string sh', .int .i64 row', .int .i64 col', .bool f', .int .i64 vk', .int .i64 vn', .string vt', .bool vb', .int .i64 ve', .int .i64 tk', .int .i64 tm', .string tt', .bool tb', .int .i64 te', .slice a1' l1' c1', .slice a2' l2' c2', .int .i64 lk', .int .i64 la', .int .i64 lt', .slice ra' rl' rc', .int .i64 fm', .string nm'] 40)) = w2 at Z1 Z2 QA ⊢
  generalize w.heap.size + 1 = b1 at Z2 ⊢
  generalize w.heap.size = b0 at Z1 ⊢
  have d0 := Z1.out.c 0 _ rfl
  have d1 := Z1.out.c 1 _ rfl
  have d2 := Z1.out.c 2 _ rfl
  have d3 := Z1.out.c 3 _ rfl
  have d4 := Z1.out.c 4 _ rfl
  have d5 := Z1.out.c 5 _ rfl
  have d6 := Z1.out.c 6 _ rfl
  have d7 := Z1.out.c 7 _ rfl
  have d8 := Z1.out.c 8 _ rfl
  have d9 := Z1.out.c 9 _ rfl
  have d10 := Z1.out.c 10 _ rfl
  have d11 := Z1.out.c 11 _ rfl
  have d12 := Z1.out.c 12 _ rfl
  have d13 := Z1.out.c 13 _ rfl
  have d14 := Z1.out.c 14 _ rfl
  have d15 := Z1.out.c 15 _ rfl
  have d16 := Z1.out.c 16 _ rfl
  have d17 := Z1.out.c 17 _ rfl
  have d18 := Z1.out.c 18 _ rfl
  have d19 := Z1.out.c 19 _ rfl
  have d20 := Z1.out.c 20 _ rfl
  have d21 := Z1.out.c 21 _ rfl
  have d22 := Z1.out.c 22 _ rfl
  have n0 := Z2.out.c 0 _ rfl
  have n1 := Z2.out.c 1 _ rfl
  have n2 := Z2.out.c 2 _ rfl
  have n3 := Z2.out.c 3 _ rfl
  have n4 := Z2.out.c 4 _ rfl
  have n5 := Z2.out.c 5 _ rfl
  have n6 := Z2.out.c 6 _ rfl
  have n7 := Z2.out.c 7 _ rfl
  have n8 := Z2.out.c 8 _ rfl
  have n9 := Z2.out.c 9 _ rfl
  have n10 := Z2.out.c 10 _ rfl
  have n11 := Z2.out.c 11 _ rfl
  have n12 := Z2.out.c 12 _ rfl
  have n13 := Z2.out.c 13 _ rfl
  have n14 := Z2.out.c 14 _ rfl
  have n15 := Z2.out.c 15 _ rfl
  have n16 := Z2.out.c 16 _ rfl
  have n17 := Z2.out.c 17 _ rfl
  have n18 := Z2.out.c 18 _ rfl
  have n19 := Z2.out.c 19 _ rfl
  have n20 := Z2.out.c 20 _ rfl
  have n21 := Z2.out.c 21 _ rfl
  have n22 := Z2.out.c 22 _ rfl
  have hbb := HBB.out
  clear HBB
  by_cases h_k : k = k'
  · rw [decide_eq_true h_k, Bool.true_and] at hbb
    have e_k : (k == k') = true := by simpa using h_k
    clear h_k
    by_cases h_sh : sh.data.toList = sh'.data.toList
    · rw [decide_eq_true h_sh, Bool.true_and] at hbb
      have e_sh : (sh.toList == sh'.toList) = true := by rw [Lib.toList_data, Lib.toList_data]; simpa using h_sh
      clear h_sh
      by_cases h_row : row = row'
      · rw [decide_eq_true h_row, Bool.true_and] at hbb
        have e_row : (row == row') = true := by simpa using h_row
        clear h_row
        by_cases h_col : col = col'
        · rw [decide_eq_true h_col, Bool.true_and] at hbb
          have e_col : (col == col') = true := by simpa using h_col
          clear h_col
          by_cases h_ln : lk = lk' ∧ la = la' ∧ lt = lt'
          · rw [decide_eq_true h_ln, Bool.true_and] at hbb
            obtain ⟨rfl, rfl, rfl⟩ := h_ln
            have e_ln : ∀ W, (binOp .eql 28 (.agg #[.int .i64 lk, .int .i64 la, .int .i64 lt]) (.agg #[.int .i64 lk, .int .i64 la, .int .i64 lt])).run Tryz.prog W = .ok (.bool true) W := fun W => by rw [line_eq]; simp
            by_cases h_fm : fm = fm'
            · rw [decide_eq_true h_fm, Bool.true_and] at hbb
              have e_fm : (fm == fm') = true := by simpa using h_fm
              clear h_fm
              by_cases h_nm : nm.data.toList = nm'.data.toList
              · rw [decide_eq_true h_nm, Bool.true_and] at hbb
                have e_nm : (nm.toList == nm'.toList) = true := by rw [Lib.toList_data, Lib.toList_data]; simpa using h_nm
                clear h_nm
                cases rb with
                | true =>
                  simp only [Bool.true_and, Bool.and_true] at hbb
                  have HB : Hid (b = cb) := hid (by rw [hbb])
                  clear hbb
                  go_wp2_with (first | (go_at_call 49; refine (HR.out _ QA.out).mono ?_; rintro e9 w10 ⟨rfl, q9⟩; have Q10 : Hid (Q w w10) := hid (QA.out.trans q9); have Z10 := hid (Z1.out.on q9); have Z20 := hid (Z2.out.on q9); clear q9; have p0_0 := Z10.out.c 0 _ rfl; have o0_0 := Z20.out.c 0 _ rfl; have p0_1 := Z10.out.c 1 _ rfl; have o0_1 := Z20.out.c 1 _ rfl; have p0_2 := Z10.out.c 2 _ rfl; have o0_2 := Z20.out.c 2 _ rfl; have p0_3 := Z10.out.c 3 _ rfl; have o0_3 := Z20.out.c 3 _ rfl; have p0_4 := Z10.out.c 4 _ rfl; have o0_4 := Z20.out.c 4 _ rfl; have p0_5 := Z10.out.c 5 _ rfl; have o0_5 := Z20.out.c 5 _ rfl; have p0_6 := Z10.out.c 6 _ rfl; have o0_6 := Z20.out.c 6 _ rfl; have p0_7 := Z10.out.c 7 _ rfl; have o0_7 := Z20.out.c 7 _ rfl; have p0_8 := Z10.out.c 8 _ rfl; have o0_8 := Z20.out.c 8 _ rfl; have p0_9 := Z10.out.c 9 _ rfl; have o0_9 := Z20.out.c 9 _ rfl; have p0_10 := Z10.out.c 10 _ rfl; have o0_10 := Z20.out.c 10 _ rfl; have p0_11 := Z10.out.c 11 _ rfl; have o0_11 := Z20.out.c 11 _ rfl; have p0_12 := Z10.out.c 12 _ rfl; have o0_12 := Z20.out.c 12 _ rfl; have p0_13 := Z10.out.c 13 _ rfl; have o0_13 := Z20.out.c 13 _ rfl; have p0_14 := Z10.out.c 14 _ rfl; have o0_14 := Z20.out.c 14 _ rfl; have p0_15 := Z10.out.c 15 _ rfl; have o0_15 := Z20.out.c 15 _ rfl; have p0_16 := Z10.out.c 16 _ rfl; have o0_16 := Z20.out.c 16 _ rfl; have p0_17 := Z10.out.c 17 _ rfl; have o0_17 := Z20.out.c 17 _ rfl; have p0_18 := Z10.out.c 18 _ rfl; have o0_18 := Z20.out.c 18 _ rfl; have p0_19 := Z10.out.c 19 _ rfl; have o0_19 := Z20.out.c 19 _ rfl; have p0_20 := Z10.out.c 20 _ rfl; have o0_20 := Z20.out.c 20 _ rfl; have p0_21 := Z10.out.c 21 _ rfl; have o0_21 := Z20.out.c 21 _ rfl; have p0_22 := Z10.out.c 22 _ rfl; have o0_22 := Z20.out.c 22 _ rfl) | (go_at_call 54; refine (HC.out _ Q10.out).mono ?_; rintro e9 w11 ⟨rfl, q9⟩; have Q11 : Hid (Q w w11) := hid (Q10.out.trans q9); have Z11 := hid (Z10.out.on q9); have Z21 := hid (Z20.out.on q9); clear q9))
                  go_ret
                  exact ⟨ret_bool HB.out.symm, Q11.out⟩
                | false =>
                  have HB : Hid (b = false) := hid (by rw [hbb]; simp)
                  clear hbb
                  go_wp2_with (first | (go_at_call 49; refine (HR.out _ QA.out).mono ?_; rintro e9 w10 ⟨rfl, q9⟩; have Q10 : Hid (Q w w10) := hid (QA.out.trans q9); have Z10 := hid (Z1.out.on q9); have Z20 := hid (Z2.out.on q9); clear q9; have p0_0 := Z10.out.c 0 _ rfl; have o0_0 := Z20.out.c 0 _ rfl; have p0_1 := Z10.out.c 1 _ rfl; have o0_1 := Z20.out.c 1 _ rfl; have p0_2 := Z10.out.c 2 _ rfl; have o0_2 := Z20.out.c 2 _ rfl; have p0_3 := Z10.out.c 3 _ rfl; have o0_3 := Z20.out.c 3 _ rfl; have p0_4 := Z10.out.c 4 _ rfl; have o0_4 := Z20.out.c 4 _ rfl; have p0_5 := Z10.out.c 5 _ rfl; have o0_5 := Z20.out.c 5 _ rfl; have p0_6 := Z10.out.c 6 _ rfl; have o0_6 := Z20.out.c 6 _ rfl; have p0_7 := Z10.out.c 7 _ rfl; have o0_7 := Z20.out.c 7 _ rfl; have p0_8 := Z10.out.c 8 _ rfl; have o0_8 := Z20.out.c 8 _ rfl; have p0_9 := Z10.out.c 9 _ rfl; have o0_9 := Z20.out.c 9 _ rfl; have p0_10 := Z10.out.c 10 _ rfl; have o0_10 := Z20.out.c 10 _ rfl; have p0_11 := Z10.out.c 11 _ rfl; have o0_11 := Z20.out.c 11 _ rfl; have p0_12 := Z10.out.c 12 _ rfl; have o0_12 := Z20.out.c 12 _ rfl; have p0_13 := Z10.out.c 13 _ rfl; have o0_13 := Z20.out.c 13 _ rfl; have p0_14 := Z10.out.c 14 _ rfl; have o0_14 := Z20.out.c 14 _ rfl; have p0_15 := Z10.out.c 15 _ rfl; have o0_15 := Z20.out.c 15 _ rfl; have p0_16 := Z10.out.c 16 _ rfl; have o0_16 := Z20.out.c 16 _ rfl; have p0_17 := Z10.out.c 17 _ rfl; have o0_17 := Z20.out.c 17 _ rfl; have p0_18 := Z10.out.c 18 _ rfl; have o0_18 := Z20.out.c 18 _ rfl; have p0_19 := Z10.out.c 19 _ rfl; have o0_19 := Z20.out.c 19 _ rfl; have p0_20 := Z10.out.c 20 _ rfl; have o0_20 := Z20.out.c 20 _ rfl; have p0_21 := Z10.out.c 21 _ rfl; have o0_21 := Z20.out.c 21 _ rfl; have p0_22 := Z10.out.c 22 _ rfl; have o0_22 := Z20.out.c 22 _ rfl))
                  go_ret
                  exact ⟨ret_bool HB.out.symm, Q10.out⟩
              · rw [decide_eq_false h_nm] at hbb
                have e_nm : (nm.toList == nm'.toList) = false := by rw [Lib.toList_data, Lib.toList_data]; simpa using h_nm
                clear h_nm
                have HB : Hid (b = false) := hid (by rw [hbb]; simp)
                clear hbb
                go_wp2_with fail
                go_ret
                exact ⟨ret_bool HB.out.symm, QA.out⟩
            · rw [decide_eq_false h_fm] at hbb
              have e_fm : (fm == fm') = false := by simpa using h_fm
              clear h_fm
              have HB : Hid (b = false) := hid (by rw [hbb]; simp)
              clear hbb
              go_wp2_with fail
              go_ret
              exact ⟨ret_bool HB.out.symm, QA.out⟩
          · rw [decide_eq_false h_ln] at hbb
            have e_ln : ∀ W, (binOp .eql 28 (.agg #[.int .i64 lk, .int .i64 la, .int .i64 lt]) (.agg #[.int .i64 lk', .int .i64 la', .int .i64 lt'])).run Tryz.prog W = .ok (.bool false) W := fun W => by rw [line_eq, decide_eq_false h_ln]
            clear h_ln
            have HB : Hid (b = false) := hid (by rw [hbb]; simp)
            clear hbb
            go_wp2_with fail
            go_ret
            exact ⟨ret_bool HB.out.symm, QA.out⟩
        · rw [decide_eq_false h_col] at hbb
          have e_col : (col == col') = false := by simpa using h_col
          clear h_col
          have HB : Hid (b = false) := hid (by rw [hbb]; simp)
          clear hbb
          go_wp2_with fail
          go_ret
          exact ⟨ret_bool HB.out.symm, QA.out⟩
      · rw [decide_eq_false h_row] at hbb
        have e_row : (row == row') = false := by simpa using h_row
        clear h_row
        have HB : Hid (b = false) := hid (by rw [hbb]; simp)
        clear hbb
        go_wp2_with fail
        go_ret
        exact ⟨ret_bool HB.out.symm, QA.out⟩
    · rw [decide_eq_false h_sh] at hbb
      have e_sh : (sh.toList == sh'.toList) = false := by rw [Lib.toList_data, Lib.toList_data]; simpa using h_sh
      clear h_sh
      have HB : Hid (b = false) := hid (by rw [hbb]; simp)
      clear hbb
      go_wp2_with fail
      go_ret
      exact ⟨ret_bool HB.out.symm, QA.out⟩
  · rw [decide_eq_false h_k] at hbb
    have e_k : (k == k') = false := by simpa using h_k
    clear h_k
    have HB : Hid (b = false) := hid (by rw [hbb]; simp)
    clear hbb
    go_wp2_with fail
    go_ret
    exact ⟨ret_bool HB.out.symm, QA.out⟩
end Go.Proofs.YthebfhdpofhmpaaGreatDoor
