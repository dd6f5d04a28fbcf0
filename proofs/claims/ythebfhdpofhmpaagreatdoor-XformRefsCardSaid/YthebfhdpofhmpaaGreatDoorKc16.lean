/- xform.each, walked: a list is asked, a list is told; What is. -/
import Derived.Test.YthebfhdpofhmpaaGreatDoorKc15
import Derived.Test.YthebfhdpofhmpaaGreatDoorKc14
import Derived.Test.YthebfhdpofhmpaaGreatDoorKc06
set_option linter.unusedVariables false
set_option linter.unusedSimpArgs false
set_option maxRecDepth 100000
set_option maxHeartbeats 8000000
namespace Go.Proofs.YthebfhdpofhmpaaGreatDoor
open Go.RowKit
theorem wpl_layt (w : World) (ty : TypeId) (z0 cells : Array Value) {ops : Array Oper} {rest : List Oper} {o : Oper} {a : Act} {Q : Exit → Act → World → Prop} (x y : Operand) (ho : o.op = .store ty x y) (hgd : o.guard = none)
    (hx : a.eval x = .pointer (some ⟨w.heap.size, 0, none⟩)) (hy : a.eval y = .agg cells) (hi : (Tryz.prog.info? ty).map (·.size) = some cells.size) (hs : z0.size = cells.size) (h1 : cells.all (·.oneCell') = true)
    {W : World} (hW : W = w.alloc (.cells z0 ty)) (h : wpList Tryz.prog ops Q rest (a.put o.dst undef) (w.alloc (.cells cells ty))) : wpList Tryz.prog ops Q (o :: rest) a W := by
  subst hW
  refine wpList_store_row hgd ty x y ho w.heap.size cells hx hy ty z0 (heap_alloc_last w _) hi hs h1 ?_
  rw [World.setRow_alloc_new]
  exact h
theorem info57x : (Tryz.prog.info? 57).map (fun i => (i.zero, i.size)) = some (some (.agg zero24), 24) := by kernel_rfl
theorem sl_flat1 {α : Type} (enc : α → List Value) (x : α) : (flat enc [x]).toArray = (enc x).toArray := by simp [flat]
set_option maxHeartbeats 8000000 in
theorem each_ask (v : Value) (xs : List Rv) (W0 w : World) (h : Sl Rv.L 23 W0 v xs) (ho : ∀ x ∈ xs, ∀ V, Q W0 V → Calls Tryz.prog 15 #[x.v] V fun e V' => e = .returned (.agg (aL x).toArray) ∧ Q V V') (hq0 : Q W0 w) (hn : xs.length ≤ 1000) :
    Calls Tryz.prog 14 #[v, .func (.func 15) #[] #[]] w fun e V' => ∃ u, e = .returned u ∧ Own aL 57 24 w.heap.size V' u xs ∧ Q w V' := by
  obtain ⟨i0, HI⟩ := inf_of info57y
  have HI := hid HI
  have HS := hid (h.on hq0)
  have HO := hid ho
  have HQ0 := hid hq0
  have HN := hid hn
  obtain ⟨ao, cap, rfl, h1, h2⟩ := h.len
  clear h ho hq0 hn
  have h3 : xs.length ≤ 9223372036854775807 := Nat.le_trans h1 (by unfold maxLen at h2; omega)
  go_enter Tryz.func14, Tryz.ntmps14
  go_wp2_with fail
  go_loopw [5, 10] (fun o s W => ∃ (n : Nat) (ys : List Rv), n ≤ xs.length ∧ s = .int .i64 n ∧ Hid (ys = xs.take n) ∧ Hid (Own aL 57 24 w.heap.size W o ys) ∧ Hid (Q w W)) (fun _ s _ => xs.length - (intOf s).toNat)
  case atStart => exact ⟨0, [], Nat.zero_le _, rfl, hid rfl, hid (own_nil _), hid (Q.refl _)⟩
  case round =>
    obtain ⟨n, ys, hn, rfl, HYL, HOW, HQ⟩ := hrel
    by_cases hlt : n < xs.length
    · have hlt' : (n : Int) < (xs.length : Int) := by omega
      obtain ⟨g, off, cap', e, _, _, hcc⟩ := (HS.out.on HQ.out).at hlt
      cases e
      have HX := hid (HO.out _ (List.getElem_mem hlt))
      have HRg : Hid (wr.rangeAt g (off + n * 23) (Rv.L xs[n])) := hid (fun j u hu => hcc j u hu)
      have HYS : Hid (ys.length = n) := hid (by rw [HYL.out, List.length_take, Nat.min_eq_left hn])
      have HYT : Hid (ys ++ [xs[n]] = xs.take (n + 1)) := hid (by rw [HYL.out, List.take_succ_eq_append_getElem hlt])
      clear hcc
      generalize xs[n] = x at HX HRg HYT
      have HB := hid (bk_new wr 40 (Rv.L x).toArray)
      have HX2 := hid (fun V (q : Q (wr.alloc (.cells (Rv.L x).toArray 40)) V) => HX.out V (HQ0.out.trans (HQ.out.trans (((Q.refl _).alloc _).trans q))))
      clear HX
      go_wp2_with (first
        | (with_reducible refine wpList_load_mid (by with_unfolding_all rfl) 40 _ (by with_unfolding_all rfl) g (off + n * 23) (by with_unfolding_all rfl) (Rv.L x) _ HRg.out Tryz.underlying40 (by with_unfolding_all rfl) (by with_unfolding_all exact info40) ?_)
        | (with_reducible refine wpl_layt wr 40 zero23 (Rv.L x).toArray _ _ (by with_unfolding_all rfl) (by with_unfolding_all rfl) (by with_unfolding_all rfl) (by with_unfolding_all rfl) (by with_unfolding_all exact info40) (by with_unfolding_all rfl) x.one (by with_unfolding_all rfl) ?_)
        | (with_reducible refine wpList_load_row (by with_unfolding_all rfl) 40 _ (by with_unfolding_all rfl) wr.heap.size (by with_unfolding_all rfl) 40 (Rv.L x).toArray (0, 0) _ HB.out.h Tryz.underlying40 (by with_unfolding_all rfl) (by with_unfolding_all exact info40) ?_)
        | (go_at_call 15; refine (HX2.out _ (Q.refl _)).mono ?_; rintro e9 V ⟨rfl, q9⟩; have QV := hid q9; clear q9)
        | (with_reducible refine wpl_bs1 54 57 24 zero24 (aL x).toArray Tryz.underlying54 info57x (by decide) _ (by with_unfolding_all rfl) (by with_unfolding_all rfl) (by with_unfolding_all kernel_rfl) ?_)
        | (at_builtin; refine wpList_append_lies (w := V.alloc (.cells (aL x).toArray 57)) rfl _ _ 54 rfl w.heap.size 57 i0 (.agg zero24) 24 272 Tryz.underlying54 HI.out.1 HI.out.2.1 HI.out.2.2.1 HI.out.2.2.2 rfl (by decide) _ _ _ rfl (((HOW.out.on ((Q.refl _).alloc _)).on QV.out).alloc _) _ 1 1 (aL x) rfl rfl ?c1 ?c2 (by decide) ?c3 ?c4 ?c5 (V.heap.size + 1) ?c6 ?_))
      case c1 => exact news_new V (aL x) 57
      case c2 => exact aL_ones x
      case c3 => unfold maxLen; have := HYS.out; have := HN.out; omega
      case c4 => have := HYS.out; have := HN.out; omega
      case c5 => have := HQ.out.size; have := QV.out.size; simp at this ⊢; omega
      case c6 => simp
      · intro g3 cap3 w3 hown3 hgrow hlies hlt3
        have HO3 := hid (own_snoc (enc := aL) (x := x) hown3)
        have HQ3 : Hid (Q w w3) := hid (Below.grown (((HQ.out.trans ((Q.refl _).alloc _)).trans QV.out).alloc _) hgrow (by have := HQ.out.size; have := QV.out.size; simp at this ⊢; omega) (HOW.out.blk))
        clear hown3 hgrow hlies hlt3 HOW HQ QV HX2 HRg HB
        go_wp2_with fail
        go_roundw
        case rel => exact ⟨n + 1, ys ++ [x], by omega, by go_num, hid (by rw [HYT.out]), HO3, HQ3⟩
        case measure => simp [intOf]; omega
    · have hn2 : n = xs.length := by omega
      have HF : Hid (ys = xs) := hid (by rw [HYL.out, hn2, List.take_length])
      have hl1 : ¬ (n : Int) < (xs.length : Int) := by omega
      go_wp2_with fail
      go_ret
      exact ⟨_, rfl, HF.out ▸ HOW.out, HQ.out⟩
set_option maxHeartbeats 8000000 in
theorem each_told (v : Value) (xs : List Rv) (W0 w : World) (h : Sl aL 24 W0 v xs) (ho : ∀ x ∈ xs, ∀ V, Q W0 V → Calls Tryz.prog 18 #[.agg (aL x).toArray] V fun e V' => e = .returned x.v ∧ Q V V') (hq0 : Q W0 w) (hn : xs.length ≤ 1000) :
    Calls Tryz.prog 17 #[v, .func (.func 18) #[] #[]] w fun e V' => ∃ u, e = .returned u ∧ Own Rv.L 40 23 w.heap.size V' u xs ∧ Q w V' := by
  obtain ⟨i0, HI⟩ := inf_of info35y
  have HI := hid HI
  have HS := hid (h.on hq0)
  have HO := hid ho
  have HQ0 := hid hq0
  have HN := hid hn
  obtain ⟨ao, cap, rfl, h1, h2⟩ := h.len
  clear h ho hq0 hn
  have h3 : xs.length ≤ 9223372036854775807 := Nat.le_trans h1 (by unfold maxLen at h2; omega)
  go_enter Tryz.func17, Tryz.ntmps17
  go_wp2_with fail
  go_loopw [5, 10] (fun o s W => ∃ (n : Nat) (ys : List Rv), n ≤ xs.length ∧ s = .int .i64 n ∧ Hid (ys = xs.take n) ∧ Hid (Own Rv.L 40 23 w.heap.size W o ys) ∧ Hid (Q w W)) (fun _ s _ => xs.length - (intOf s).toNat)
  case atStart => exact ⟨0, [], Nat.zero_le _, rfl, hid rfl, hid (own_nil _), hid (Q.refl _)⟩
  case round =>
    obtain ⟨n, ys, hn, rfl, HYL, HOW, HQ⟩ := hrel
    by_cases hlt : n < xs.length
    · have hlt' : (n : Int) < (xs.length : Int) := by omega
      obtain ⟨g, off, cap', e, _, _, hcc⟩ := (HS.out.on HQ.out).at hlt
      cases e
      have HX := hid (HO.out _ (List.getElem_mem hlt))
      have HRg : Hid (wr.rangeAt g (off + n * 24) (aL xs[n])) := hid (fun j u hu => hcc j u hu)
      have HYS : Hid (ys.length = n) := hid (by rw [HYL.out, List.length_take, Nat.min_eq_left hn])
      have HYT : Hid (ys ++ [xs[n]] = xs.take (n + 1)) := hid (by rw [HYL.out, List.take_succ_eq_append_getElem hlt])
      clear hcc
      generalize xs[n] = x at HX HRg HYT
      have HB := hid (bk_new wr 57 (aL x).toArray)
      have HX2 := hid (fun V (q : Q (wr.alloc (.cells (aL x).toArray 57)) V) => HX.out V (HQ0.out.trans (HQ.out.trans (((Q.refl _).alloc _).trans q))))
      clear HX
      go_wp2_with (first
        | (with_reducible refine wpList_load_mid (by with_unfolding_all rfl) 57 _ (by with_unfolding_all rfl) g (off + n * 24) (by with_unfolding_all rfl) (aL x) _ HRg.out Tryz.underlying57 (by with_unfolding_all rfl) (by with_unfolding_all exact info57) ?_)
        | (with_reducible refine wpl_layt wr 57 zero24 (aL x).toArray _ _ (by with_unfolding_all rfl) (by with_unfolding_all rfl) (by with_unfolding_all rfl) (by with_unfolding_all rfl) (by with_unfolding_all exact info57) (by with_unfolding_all rfl) (aL_one x) (by with_unfolding_all rfl) ?_)
        | (with_reducible refine wpList_load_row (by with_unfolding_all rfl) 57 _ (by with_unfolding_all rfl) wr.heap.size (by with_unfolding_all rfl) 57 (aL x).toArray (0, 0) _ HB.out.h Tryz.underlying57 (by with_unfolding_all rfl) (by with_unfolding_all exact info57) ?_)
        | (go_at_call 18; refine (HX2.out _ (Q.refl _)).mono ?_; rintro e9 V ⟨rfl, q9⟩; have QV := hid q9; clear q9)
        | (with_reducible refine wpl_bs1 25 40 23 zero23 (Rv.L x).toArray Tryz.underlying25 info35x (by decide) _ (by with_unfolding_all rfl) (by with_unfolding_all rfl) (by with_unfolding_all kernel_rfl) ?_)
        | (at_builtin; refine wpList_append_lies (w := V.alloc (.cells (Rv.L x).toArray 40)) rfl _ _ 25 rfl w.heap.size 40 i0 (.agg zero23) 23 264 Tryz.underlying25 HI.out.1 HI.out.2.1 HI.out.2.2.1 HI.out.2.2.2 rfl (by decide) _ _ _ rfl (((HOW.out.on ((Q.refl _).alloc _)).on QV.out).alloc _) _ 1 1 (Rv.L x) rfl rfl ?c1 ?c2 (by decide) ?c3 ?c4 ?c5 (V.heap.size + 1) ?c6 ?_))
      case c1 => exact news_new V (Rv.L x) 40
      case c2 => exact Rv.ones x
      case c3 => unfold maxLen; have := HYS.out; have := HN.out; omega
      case c4 => have := HYS.out; have := HN.out; omega
      case c5 => have := HQ.out.size; have := QV.out.size; simp at this ⊢; omega
      case c6 => simp
      · intro g3 cap3 w3 hown3 hgrow hlies hlt3
        have HO3 := hid (own_snoc (enc := Rv.L) (x := x) hown3)
        have HQ3 : Hid (Q w w3) := hid (Below.grown (((HQ.out.trans ((Q.refl _).alloc _)).trans QV.out).alloc _) hgrow (by have := HQ.out.size; have := QV.out.size; simp at this ⊢; omega) (HOW.out.blk))
        clear hown3 hgrow hlies hlt3 HOW HQ QV HX2 HRg HB
        go_wp2_with fail
        go_roundw
        case rel => exact ⟨n + 1, ys ++ [x], by omega, by go_num, hid (by rw [HYT.out]), HO3, HQ3⟩
        case measure => simp [intOf]; omega
    · have hn2 : n = xs.length := by omega
      have HF : Hid (ys = xs) := hid (by rw [HYL.out, hn2, List.take_length])
      have hl1 : ¬ (n : Int) < (xs.length : Int) := by omega
      go_wp2_with fail
      go_ret
      exact ⟨_, rfl, HF.out ▸ HOW.out, HQ.out⟩
theorem run_tail (W : World) (g n cap k : Nat) (hk : k ≤ n) (h1 : n ≤ cap) (h2 : cap ≤ maxLen) :
    (Instr.sliceAt 54 (.slice (some ⟨g, 0, none⟩) n cap) (some (.int .i64 (k : Int))) none none).run Tryz.prog W = .ok (.slice (some (if cap = k then ⟨g, 0, none⟩ else ⟨g, k * 24, none⟩)) (n - k) (cap - k)) W := by
  have hu : Tryz.prog.underlying 54 = some (.slice (Tryz.prog.elem 54)) := by kernel_rfl
  have he : Tryz.prog.elem 54 = 57 := by kernel_rfl
  rw [run_sliceAt_slice (h := hu), run_slice_l (ht := hu) (h0 := by omega) (h1 := by omega)]
  have hs : (sizeOf (Tryz.prog.elem 54)).run Tryz.prog W = .ok 24 W := by
    rw [he]
    have hi := info57
    unfold sizeOf typeInfo
    cases hq : Tryz.prog.info? 57 with
    | none => rw [hq] at hi; cases hi
    | some i =>
      rw [hq] at hi
      simp only [Option.map_some, Option.some.injEq] at hi
      simp [go_sem, hq, hi]
  rw [hs]
  simp only [Result.andThen_ok, sliced, Int.toNat_natCast]
  by_cases e : cap = k
  · rw [if_pos e, if_pos e]
  · rw [if_neg e, if_neg e]
    simp [Addr.add]
    omega
theorem wpl_app1 {α : Type} {enc : α → List Value} {k B : Nat} {te t : TypeId} (hk : ∀ x, (enc x).length = k) {W0 V : World} {g cap i : Nat} {L : List α} (hO : Own enc te k B W0 (.slice (some ⟨g, 0, none⟩) L.length cap) L) (q : Q W0 V) (hi : i < L.length) (y : α) (hy : L[i] = y)
    {ops : Array Oper} {rest : List Oper} {o : Oper} {a : Act} {Q' : Exit → Act → World → Prop} (hgd : o.guard = none) (x z : Operand)
    (ho : o.op = .call { callee := .builtin .append, args := #[x, z], argTypes := #[t, t] }) (ht : Tryz.prog.underlying t = some (.slice te)) (i0 : TypeInfo) (hin : Tryz.prog.info? te = some i0) (hsz : i0.size = k)
    (hx : a.eval x = .slice (some ⟨g, 0, none⟩) i cap) (b : Nat) (hb : b = V.heap.size) (hz : a.eval z = .slice (some ⟨b, 0, none⟩) 1 1) (h1 : ∀ u ∈ enc y, u.oneCell' = true)
    {W : World} (hW : W = V.alloc (.cells (enc y).toArray te))
    (h : wpList Tryz.prog ops Q' rest (a.put o.dst (.slice (some ⟨g, 0, none⟩) (i + 1) cap)) W) : wpList Tryz.prog ops Q' (o :: rest) a W := by
  subst hW hb
  obtain ⟨cur, hc, hs, hle, hsame⟩ := own_same hk ((hO.on q).alloc (.cells (enc y).toArray te))
  have hsm := hsame i 1 (by omega)
  have e1 : (L.drop i).take 1 = [y] := by
    rw [List.drop_eq_getElem_cons hi, List.take_succ_cons, List.take_zero, hy]
  rw [e1, show flat enc [y] = enc y by simp [flat]] at hsm
  exact wpl_append_same _ hgd x z t ho te i0 k ht hin hsz g i cap cur hx hc ⟨V.heap.size, 0, none⟩ 1 1 (enc y) hz (by rw [hk, Nat.one_mul]) (news_new V (enc y) te) h1 (by omega) hsm.1 hsm.2 h
theorem wpl_app2 {α : Type} {enc : α → List Value} {k B : Nat} {te t : TypeId} (hk : ∀ x, (enc x).length = k) (h1k : ∀ x, ∀ u ∈ enc x, u.oneCell' = true) {W0 V : World} {g cap i : Nat} {L : List α} (hO : Own enc te k B W0 (.slice (some ⟨g, 0, none⟩) L.length cap) L) (q : Q W0 V) (hi : i ≤ L.length) (hp : 0 < k)
    {ops : Array Oper} {rest : List Oper} {o : Oper} {a : Act} {Q' : Exit → Act → World → Prop} (hgd : o.guard = none) (x z : Operand)
    (ho : o.op = .call { callee := .builtin .append, args := #[x, z], argTypes := #[t, t] }) (ht : Tryz.prog.underlying t = some (.slice te)) (i0 : TypeInfo) (hin : Tryz.prog.info? te = some i0) (hsz : i0.size = k)
    (hx : a.eval x = .slice (some ⟨g, 0, none⟩) i cap) (hz : a.eval z = .slice (some (if cap = i then ⟨g, 0, none⟩ else ⟨g, i * k, none⟩)) (L.length - i) (cap - i))
    (h : wpList Tryz.prog ops Q' rest (a.put o.dst (.slice (some ⟨g, 0, none⟩) L.length cap)) V) : wpList Tryz.prog ops Q' (o :: rest) a V := by
  have hOV := hO.on q
  obtain ⟨cur, hc, hs, hle, hsame⟩ := own_same hk hOV
  have hsm := hsame i (L.length - i) (by omega)
  have e1 : (L.drop i).take (L.length - i) = L.drop i := List.take_of_length_le (by simp)
  rw [e1] at hsm
  have hl : (flat enc (L.drop i)).length = (L.length - i) * k := by rw [flat_len enc hk, List.length_drop]
  refine wpl_append_same _ hgd x z t ho te i0 k ht hin hsz g i cap cur hx hc _ (L.length - i) (cap - i) (flat enc (L.drop i)) hz hl ?_ ?_ (by omega) hsm.1 hsm.2 (by rw [show i + (L.length - i) = L.length by omega]; exact h)
  · intro j u hu
    have hj : j < (flat enc (L.drop i)).length := (List.getElem?_eq_some_iff.1 hu).1
    rw [hl] at hj
    have hne : ¬ cap = i := by
      intro e
      rw [show L.length - i = 0 by omega, Nat.zero_mul] at hj
      omega
    rw [if_neg hne]
    have hadd : (⟨g, i * k, none⟩ : Addr).add j = ⟨g, i * k + j, none⟩ := by unfold Addr.add; split <;> simp_all
    rw [hadd, cell_of_row V g _ cur te (0, 0) hc]
    have := hsm.2 j (by rw [hl]; exact hj)
    rw [hu] at this
    simpa using this
  · intro u hu
    unfold flat at hu
    rw [List.mem_flatMap] at hu
    obtain ⟨x, _, hx⟩ := hu
    exact h1k x u hx
def pas (st : Rv → Rv → Rv × Bool) : Rv → List Rv → Rv × Bool
  | x, [] => (x, true)
  | x, y :: ys => if (st x y).2 then pas st (st x y).1 ys else (x, false)
theorem pas_cons {st : Rv → Rv → Rv × Bool} {x y : Rv} {ys : List Rv} (h : (st x y).2 = true) : pas st x (y :: ys) = pas st (st x y).1 ys := by rw [pas, if_pos h]
theorem pas_no {st : Rv → Rv → Rv × Bool} {x y : Rv} {ys : List Rv} (h : (st x y).2 = false) : pas st x (y :: ys) = (x, false) := by rw [pas, h]; rfl
theorem zero24_one : zero24.all (·.oneCell') = true := by kernel_rfl
def pasV (r : Rv × Bool) : Array Value := if r.2 then (aL r.1).toArray else zero24
structure Ps (w W : World) (b3 b6 : Nat) (x : Rv) : Prop where
  a : Bk W 57 b3 (aL x).toArray
  r : Bk W 57 b6 zero24
  n : b3 ≠ b6
  l : w.heap.size ≤ b3
  l6 : w.heap.size ≤ b6
  q : Q w W
theorem Ps.on {w W W' : World} {b3 b6 : Nat} {x : Rv} (h : Ps w W b3 b6 x) (q : Q W W') : Ps w W' b3 b6 x := ⟨h.a.on q, h.r.on q, h.n, h.l, h.l6, h.q.trans q⟩
theorem Ps.go {w W : World} {b3 b6 : Nat} {x : Rv} (h : Ps w W b3 b6 x) (z : Rv) : Ps w (W.setRow b3 (aL z).toArray) b3 b6 z := ⟨h.a.row _, h.r.orow (Ne.symm h.n) _, h.n, h.l, h.l6, h.q.row h.l _⟩
set_option maxHeartbeats 16000000 in
theorem pass_some (st : Rv → Rv → Rv × Bool) (R : Rv → Prop) (x : Rv) (ys : List Rv) (g cap B : Nat) (p : Bool) (w : World) (hO : Own aL 57 24 B w (.slice (some ⟨g, 0, none⟩) ys.length cap) ys) (hn : ys.length ≤ 1000) (hx : R x)
    (hR : ∀ x, R x → ∀ y ∈ ys, (st x y).2 = true → R (st x y).1)
    (hB : ∀ x, R x → ∀ y ∈ ys, ∀ V, Q w V → Calls Tryz.prog 20 #[.agg (aL x).toArray, .agg (aL y).toArray, .bool p] V fun e V' => e = .returned (.tuple #[.agg (aB (st x y).1 (st x y).2).toArray, .bool (st x y).2]) ∧ Q V V')
    (hK : ∀ x, R x → ∀ y ∈ ys, ∀ V, Q w V → Calls Tryz.prog 20 #[.agg (aL y).toArray, .agg (aL x).toArray, .bool (!p)] V fun e V' => e = .returned (.tuple #[.agg (aL y).toArray, .bool true]) ∧ Q V V') :
    Calls Tryz.prog 16 #[.agg (aL x).toArray, .slice (some ⟨g, 0, none⟩) ys.length cap, .bool p] w fun e V' => e = .returned (.tuple #[.agg (pasV (pas st x ys)), .slice (some ⟨g, 0, none⟩) ys.length cap, .bool (pas st x ys).2]) ∧ Q w V' := by
  obtain ⟨i0, HI⟩ := inf_of info57y
  have HI := hid HI
  have HO := hid hO
  have HR := hid hR
  have HB := hid hB
  have HK := hid hK
  have HX := hid hx
  obtain ⟨_, cap', hcc, h1, h2⟩ := (hO.sl aL_len (by decide)).len
  cases hcc
  have hlen : ys.length ≤ 9223372036854775807 := by omega
  have HN : Hid (ys.length ≤ cap ∧ cap ≤ maxLen) := hid ⟨h1, h2⟩
  have hc0 : (0 : Int) ≤ (cap : Int) := by omega
  clear hO hn hx hR hB hK h2
  have HT := hid (t2_new w 57 57 (aL x).toArray zero24)
  unfold zero24 at HT
  generalize hP : pas st x ys = P
  have HP := hid hP
  clear hP
  go_enter Tryz.func16, Tryz.ntmps16
  go_upto_region 1 with fail
  generalize (w.alloc _).alloc _ = w1 at HT ⊢
  generalize w.heap.size + 1 = b6 at HT ⊢
  obtain ⟨b3, hb3⟩ : ∃ b3, w.heap.size = b3 := ⟨_, rfl⟩
  have HT9 : Hid (Ps w w1 b3 b6 x) := hid (by have := HT.out; rw [hb3] at this; exact ⟨this.a, this.r, this.n1, by omega, this.l6, this.q⟩)
  clear HT
  rw [hb3]
  clear hb3
  go_wp2_with fail
  go_loopw [9, 20] (fun k s W => ∃ (n : Nat) (x' : Rv), n ≤ ys.length ∧ s = .int .i64 n ∧ k = .slice (some ⟨g, 0, none⟩) n cap ∧ Hid (R x') ∧ Hid (P = pas st x' (ys.drop n)) ∧ Hid (Ps w W b3 b6 x')) (fun _ s _ => ys.length - (intOf s).toNat)
  case atStart => exact ⟨0, x, Nat.zero_le _, rfl, rfl, HX, hid HP.out.symm, HT9⟩
  case round =>
    obtain ⟨n, x', hn, rfl, rfl, HR1, HP1, HS⟩ := hrel
    clear HT9 HX HP
    by_cases hlt : n < ys.length
    · have hlt' : (n : Int) < (ys.length : Int) := by omega
      have HOr := hid (HO.out.on HS.out.q)
      have HRg : Hid (wr.rangeAt g (n * 24) (aL ys[n])) := hid (fun j u hu => HOr.out.cell aL_len hlt j u hu)
      have HMem := hid (List.getElem_mem hlt)
      have HY := hid (List.drop_eq_getElem_cons hlt)
      obtain ⟨y, hy⟩ : ∃ y, ys[n] = y := ⟨_, rfl⟩
      have HYN := hid hy
      rw [hy] at HRg HMem HY
      clear hy
      obtain ⟨⟨z, b⟩, hzb⟩ : ∃ r : Rv × Bool, st x' y = r := ⟨_, rfl⟩
      have HB1 := hid (fun V (q : Q w V) => HB.out x' HR1.out y HMem.out V q)
      have HK1 := hid (fun V (q : Q w V) => HK.out x' HR1.out y HMem.out V q)
      have HRz := hid (HR.out x' HR1.out y HMem.out)
      have HPc := HP1.out
      rw [HY.out] at HPc
      have HPn := hid (fun (h : (st x' y).2 = false) => HPc.trans (pas_no h))
      have HPy := hid (fun (h : (st x' y).2 = true) => HPc.trans (pas_cons h))
      rw [hzb] at HB1 HRz HPn HPy
      simp only at HB1 HRz HPn HPy
      clear hzb HPc HP1 HY
      go_upto_region 5 with (first
        | (with_reducible refine wpList_load_mid (by with_unfolding_all rfl) 57 _ (by with_unfolding_all rfl) g (n * 24) (by with_unfolding_all rfl) (aL y) _ HRg.out Tryz.underlying57 (by with_unfolding_all rfl) (by with_unfolding_all exact info57) ?_)
        | (with_reducible refine wpl_layt wr 57 zero24 (aL y).toArray _ _ (by with_unfolding_all rfl) (by with_unfolding_all rfl) (by with_unfolding_all rfl) (by with_unfolding_all rfl) (by with_unfolding_all exact info57) (by with_unfolding_all rfl) (aL_one y) (by with_unfolding_all rfl) ?_))
      have H11 := hid (bk_new wr 57 (aL y).toArray)
      have HS1 := hid (HS.out.on ((Q.refl wr).alloc (.cells (aL y).toArray 57)))
      clear HS HRg HOr
      generalize wr.alloc (.cells (aL y).toArray 57) = w2 at H11 HS1 ⊢
      generalize wr.heap.size = b11 at H11 ⊢
      go_upto_region 6 with (first
        | (with_reducible refine wpList_load_row (by with_unfolding_all rfl) 57 _ (by with_unfolding_all rfl) b3 (by with_unfolding_all rfl) 57 (aL x').toArray (0, 0) _ HS1.out.a.h Tryz.underlying57 (by with_unfolding_all rfl) (by with_unfolding_all exact info57) ?_)
        | (with_reducible refine wpList_load_row (by with_unfolding_all rfl) 57 _ (by with_unfolding_all rfl) b11 (by with_unfolding_all rfl) 57 (aL y).toArray (0, 0) _ H11.out.h Tryz.underlying57 (by with_unfolding_all rfl) (by with_unfolding_all exact info57) ?_)
        | (go_at_call 20; refine (HB1.out _ HS1.out.q).mono ?_; rintro e9 w3 ⟨rfl, q9⟩; have HS2 := hid (HS1.out.on q9); have H12 := hid (H11.out.on q9); clear q9)
        | (with_reducible refine wpl_layt w3 57 zero24 (aB z b).toArray _ _ (by with_unfolding_all rfl) (by with_unfolding_all rfl) (by with_unfolding_all rfl) (by with_unfolding_all rfl) (by with_unfolding_all exact info57) (by with_unfolding_all rfl) (aB_one z b) (by with_unfolding_all rfl) ?_))
      have H13 := hid (H12.out.on ((Q.refl w3).alloc (.cells (aB z b).toArray 57)))
      have HZ3 := hid (bk_new w3 57 (aB z b).toArray)
      have HS3 := hid (HS2.out.on ((Q.refl w3).alloc (.cells (aB z b).toArray 57)))
      clear HS1 H11 HS2 H12 HB1
      generalize w3.alloc (.cells (aB z b).toArray 57) = w4 at H13 HZ3 HS3 ⊢
      generalize w3.heap.size = b12 at HZ3 ⊢
      go_upto_region 7 with (first
        | (with_reducible refine wpList_load_row (by with_unfolding_all rfl) 57 _ (by with_unfolding_all rfl) b11 (by with_unfolding_all rfl) 57 (aL y).toArray (0, 0) _ H13.out.h Tryz.underlying57 (by with_unfolding_all rfl) (by with_unfolding_all exact info57) ?_)
        | (with_reducible refine wpList_load_row (by with_unfolding_all rfl) 57 _ (by with_unfolding_all rfl) b3 (by with_unfolding_all rfl) 57 (aL x').toArray (0, 0) _ HS3.out.a.h Tryz.underlying57 (by with_unfolding_all rfl) (by with_unfolding_all exact info57) ?_)
        | (go_at_call 20; refine (HK1.out _ HS3.out.q).mono ?_; rintro e9 w5 ⟨rfl, q9⟩; have HS4 := hid (HS3.out.on q9); have HZ4 := hid (HZ3.out.on q9); clear q9)
        | (with_reducible refine wpl_layt w5 57 zero24 (aL y).toArray _ _ (by with_unfolding_all rfl) (by with_unfolding_all rfl) (by with_unfolding_all rfl) (by with_unfolding_all rfl) (by with_unfolding_all exact info57) (by with_unfolding_all rfl) (aL_one y) (by with_unfolding_all rfl) ?_))
      have H14 := hid (bk_new w5 57 (aL y).toArray)
      have HZ5 := hid (HZ4.out.on ((Q.refl w5).alloc (.cells (aL y).toArray 57)))
      have HS5 := hid (HS4.out.on ((Q.refl w5).alloc (.cells (aL y).toArray 57)))
      clear HS3 H13 HZ3 HS4 HZ4 HK1
      generalize w5.alloc (.cells (aL y).toArray 57) = w6 at H14 HZ5 HS5 ⊢
      generalize w5.heap.size = b14 at H14 ⊢
      go_upto_region 9 with (first
        | (with_reducible refine wpList_load_row (by with_unfolding_all rfl) 57 _ (by with_unfolding_all rfl) b14 (by with_unfolding_all rfl) 57 (aL y).toArray (0, 0) _ H14.out.h Tryz.underlying57 (by with_unfolding_all rfl) (by with_unfolding_all exact info57) ?_)
        | (with_reducible refine wpl_bs1 54 57 24 zero24 (aL y).toArray Tryz.underlying54 info57x (by decide) _ (by with_unfolding_all rfl) (by with_unfolding_all rfl) (by with_unfolding_all kernel_rfl) ?_)
        | (at_builtin; refine wpl_app1 (k := 24) (te := 57) aL_len HO.out HS5.out.q hlt y HYN.out rfl _ _ (t := 54) rfl Tryz.underlying54 i0 HI.out.1 HI.out.2.2.1 rfl w6.heap.size rfl rfl (aL_ones y) rfl ?_))
      have HZ7 := hid (HZ5.out.on ((Q.refl w6).alloc (.cells (aL y).toArray 57)))
      have HS7 := hid (HS5.out.on ((Q.refl w6).alloc (.cells (aL y).toArray 57)))
      clear HS5 HZ5 H14
      generalize w6.alloc (.cells (aL y).toArray 57) = w7 at HZ7 HS7 ⊢
      cases b with
      | false =>
        have HTl : ∀ W, (Instr.sliceAt 54 (.slice (some ⟨g, 0, none⟩) ys.length cap) (some (.int .i64 ((n : Int) + 1))) none none).run Tryz.prog W = .ok (.slice (some (if cap = n + 1 then ⟨g, 0, none⟩ else ⟨g, (n + 1) * 24, none⟩)) (ys.length - (n + 1)) (cap - (n + 1))) W := fun W => run_tail W g ys.length cap (n + 1) (by omega) HN.out.1 HN.out.2
        have hle : n + 1 ≤ ys.length := by omega
        go_wp2_with (first
          | (with_reducible refine wpl_buildt 57 _ (by with_unfolding_all rfl) (by with_unfolding_all rfl) zero24 (by with_unfolding_all kernel_rfl) ?_)
          | (at_builtin; refine wpl_app2 (k := 24) (te := 57) aL_len aL_ones HO.out HS7.out.q hle (by decide) rfl _ _ (t := 54) rfl Tryz.underlying54 i0 HI.out.1 HI.out.2.2.1 rfl rfl ?_)
          | (with_reducible refine wpList_store_row (by with_unfolding_all rfl) 57 _ _ (by with_unfolding_all rfl) b6 zero24 (by with_unfolding_all rfl) (by with_unfolding_all rfl) 57 _ HS7.out.r.h (by with_unfolding_all exact info57) (by with_unfolding_all rfl) zero24_one ?_))
        all_goals refine bodyPost_ret (v := .tuple #[.agg zero24, .slice (some ⟨g, 0, none⟩) ys.length _, .bool false]) (results_cell3 Tryz.results16 _ _ b6 57 _ (0, 0) _ (by rfl) (HS7.out.r.row _).h Tryz.underlying57 rfl info57) rfl ?_
        all_goals exact ⟨by rw [HPn.out (by first | rfl | trivial)]; rfl, HS7.out.q.row HS7.out.l6 _⟩
      | true =>
        go_wp2_with (first
          | (with_reducible refine wpList_load_row (by with_unfolding_all rfl) 57 _ (by with_unfolding_all rfl) b12 (by with_unfolding_all rfl) 57 (aB z true).toArray (0, 0) _ HZ7.out.h Tryz.underlying57 (by with_unfolding_all rfl) (by with_unfolding_all exact info57) ?_)
          | (with_reducible refine wpList_store_row (by with_unfolding_all rfl) 57 _ _ (by with_unfolding_all rfl) b3 (aL z).toArray (by with_unfolding_all rfl) (by with_unfolding_all rfl) 57 _ HS7.out.a.h (by with_unfolding_all exact info57) (by with_unfolding_all rfl) (aL_one z) ?_))
        have HS8 := hid (HS7.out.go z)
        go_roundw
        case rel => exact ⟨n + 1, z, by omega, by go_num, by go_num, hid (HRz.out rfl), hid (HPy.out rfl), HS8⟩
        case measure => simp [intOf]; omega
    · have hn2 : n = ys.length := by omega
      subst hn2
      have HPE : Hid (P = (x', true)) := hid (by have := HP1.out; rw [List.drop_length] at this; exact this)
      have hl1 : ¬ (ys.length : Int) < (ys.length : Int) := by omega
      go_wp2_with (first
        | (with_reducible refine wpList_load_row (by with_unfolding_all rfl) 57 _ (by with_unfolding_all rfl) b3 (by with_unfolding_all rfl) 57 (aL x').toArray (0, 0) _ HS.out.a.h Tryz.underlying57 (by with_unfolding_all rfl) (by with_unfolding_all exact info57) ?_)
        | (with_reducible refine wpList_store_row (by with_unfolding_all rfl) 57 _ _ (by with_unfolding_all rfl) b6 (aL x').toArray (by with_unfolding_all rfl) (by with_unfolding_all rfl) 57 _ HS.out.r.h (by with_unfolding_all exact info57) (by with_unfolding_all rfl) (aL_one x') ?_))
      refine bodyPost_ret (v := .tuple #[.agg (aL x').toArray, .slice (some ⟨g, 0, none⟩) ys.length cap, .bool true]) (results_cell3 Tryz.results16 _ _ b6 57 _ (0, 0) _ (by rfl) (HS.out.r.row _).h Tryz.underlying57 rfl info57) rfl ?_
      exact ⟨by rw [HPE.out]; rfl, HS.out.q.row HS.out.l6 _⟩
set_option maxHeartbeats 4000000 in
theorem pass_nil (x : Rv) (p : Bool) (w : World) :
    Calls Tryz.prog 16 #[.agg (aL x).toArray, .slice none 0 0, .bool p] w fun e V' => e = .returned (.tuple #[.agg (aL x).toArray, .slice none 0 0, .bool true]) ∧ Q w V' := by
  have HT := hid (t2_new w 57 57 (aL x).toArray zero24)
  unfold zero24 at HT
  go_enter Tryz.func16, Tryz.ntmps16
  go_upto_region 1 with fail
  generalize (w.alloc _).alloc _ = w1 at HT ⊢
  generalize w.heap.size + 1 = b6 at HT ⊢
  obtain ⟨b3, hb3⟩ : ∃ b3, w.heap.size = b3 := ⟨_, rfl⟩
  have HT9 : Hid (Ps w w1 b3 b6 x) := hid (by have := HT.out; rw [hb3] at this; exact ⟨this.a, this.r, this.n1, by omega, this.l6, this.q⟩)
  clear HT
  rw [hb3]
  clear hb3
  go_wp2_with fail
  go_loopw [9, 20] (fun k s W => s = .int .i64 0 ∧ k = .slice none 0 0 ∧ Hid (Ps w W b3 b6 x)) (fun _ _ _ => 0)
  case atStart => exact ⟨rfl, rfl, HT9⟩
  case round =>
    obtain ⟨rfl, rfl, HS⟩ := hrel
    clear HT9
    go_wp2_with (first
      | (with_reducible refine wpList_load_row (by with_unfolding_all rfl) 57 _ (by with_unfolding_all rfl) b3 (by with_unfolding_all rfl) 57 (aL x).toArray (0, 0) _ HS.out.a.h Tryz.underlying57 (by with_unfolding_all rfl) (by with_unfolding_all exact info57) ?_)
      | (with_reducible refine wpList_store_row (by with_unfolding_all rfl) 57 _ _ (by with_unfolding_all rfl) b6 (aL x).toArray (by with_unfolding_all rfl) (by with_unfolding_all rfl) 57 _ HS.out.r.h (by with_unfolding_all exact info57) (by with_unfolding_all rfl) (aL_one x) ?_))
    refine bodyPost_ret (v := .tuple #[.agg (aL x).toArray, .slice none 0 0, .bool true]) (results_cell3 Tryz.results16 _ _ b6 57 _ (0, 0) _ (by rfl) (HS.out.r.row _).h Tryz.underlying57 rfl info57) rfl ?_
    exact ⟨rfl, HS.out.q.row HS.out.l6 _⟩
theorem pass_any (st : Rv → Rv → Rv × Bool) (R : Rv → Prop) (x : Rv) (ys : List Rv) (v : Value) (B : Nat) (p : Bool) (w : World) (hO : Own aL 57 24 B w v ys) (hn : ys.length ≤ 1000) (hx : R x)
    (hR : ∀ x, R x → ∀ y ∈ ys, (st x y).2 = true → R (st x y).1)
    (hB : ∀ x, R x → ∀ y ∈ ys, ∀ V, Q w V → Calls Tryz.prog 20 #[.agg (aL x).toArray, .agg (aL y).toArray, .bool p] V fun e V' => e = .returned (.tuple #[.agg (aB (st x y).1 (st x y).2).toArray, .bool (st x y).2]) ∧ Q V V')
    (hK : ∀ x, R x → ∀ y ∈ ys, ∀ V, Q w V → Calls Tryz.prog 20 #[.agg (aL y).toArray, .agg (aL x).toArray, .bool (!p)] V fun e V' => e = .returned (.tuple #[.agg (aL y).toArray, .bool true]) ∧ Q V V') :
    Calls Tryz.prog 16 #[.agg (aL x).toArray, v, .bool p] w fun e V' => e = .returned (.tuple #[.agg (pasV (pas st x ys)), v, .bool (pas st x ys).2]) ∧ Q w V' := by
  have h0 := hO
  obtain ⟨_, h⟩ := hO
  rcases h with ⟨rfl, h⟩ | ⟨g, cap, cur, rfl, _⟩
  · obtain rfl := List.eq_nil_of_length_eq_zero h
    exact pass_nil x p w
  · exact pass_some st R x ys g cap B p w h0 hn hx hR hB hK
def bat (st : Rv → Rv → Rv × Bool) (xs bs : List Rv) : List Rv := xs.filterMap fun x => if (pas st x bs).2 then some (pas st x bs).1 else none
theorem bat_take (st : Rv → Rv → Rv × Bool) (xs bs : List Rv) (n : Nat) (h : n < xs.length) : bat st (xs.take (n + 1)) bs = bat st (xs.take n) bs ++ (if (pas st xs[n] bs).2 then [(pas st xs[n] bs).1] else []) := by
  unfold bat
  rw [List.take_succ_eq_append_getElem h, List.filterMap_append]
  congr 1
  rw [List.filterMap_cons]
  split
  · rename_i h1
    split at h1
    · cases h1
    · rw [if_neg (by assumption)]; rfl
  · rename_i h1
    split at h1
    · cases h1
      rw [if_pos (by assumption)]; rfl
    · cases h1
theorem bat_len (st : Rv → Rv → Rv × Bool) (xs bs : List Rv) : (bat st xs bs).length ≤ xs.length := List.length_filterMap_le _ _
theorem bat_mem {st : Rv → Rv → Rv × Bool} {xs bs : List Rv} {z : Rv} (h : z ∈ bat st xs bs) : ∃ x ∈ xs, (pas st x bs).2 = true ∧ z = (pas st x bs).1 := by
  unfold bat at h
  rw [List.mem_filterMap] at h
  obtain ⟨x, hx, hz⟩ := h
  split at hz
  · cases hz
    exact ⟨x, hx, by assumption, rfl⟩
  · cases hz
theorem pas_R {st : Rv → Rv → Rv × Bool} {R : Rv → Prop} : ∀ {bs : List Rv} {x : Rv}, (∀ x, R x → ∀ y ∈ bs, (st x y).2 = true → R (st x y).1) → R x → (pas st x bs).2 = true → R (pas st x bs).1
  | [], x, _, hx, _ => hx
  | y :: ys, x, hR, hx, h => by
    cases hb : (st x y).2 with
    | false => rw [pas_no hb] at h; cases h
    | true =>
      rw [pas_cons hb] at h ⊢
      exact pas_R (fun x hx y' hy => hR x hx y' (List.mem_cons_of_mem _ hy)) (hR x hx y (List.mem_cons_self ..) hb) h
set_option maxHeartbeats 16000000 in
theorem batches_any (st : Rv → Rv → Rv × Bool) (R : Rv → Prop) (xs bs : List Rv) (va vb : Value) (p : Bool) (W0 w : World) (ha : Sl Rv.L 23 W0 va xs) (hb : Sl Rv.L 23 W0 vb bs) (hq0 : Q W0 w) (hna : xs.length ≤ 1000) (hnb : bs.length ≤ 1000)
    (hma : ∀ x ∈ xs, ∀ V, Q W0 V → Calls Tryz.prog 22 #[x.v] V fun e V' => e = .returned (.bool true) ∧ Q V V')
    (hmb : ∀ x ∈ bs, ∀ V, Q W0 V → Calls Tryz.prog 22 #[x.v] V fun e V' => e = .returned (.bool true) ∧ Q V V')
    (hRa : ∀ x ∈ xs, R x) (hR : ∀ x, R x → ∀ y ∈ bs, (st x y).2 = true → R (st x y).1)
    (hB : ∀ x, R x → ∀ y ∈ bs, ∀ V, Q W0 V → Calls Tryz.prog 20 #[.agg (aL x).toArray, .agg (aL y).toArray, .bool p] V fun e V' => e = .returned (.tuple #[.agg (aB (st x y).1 (st x y).2).toArray, .bool (st x y).2]) ∧ Q V V')
    (hK : ∀ x, R x → ∀ y ∈ bs, ∀ V, Q W0 V → Calls Tryz.prog 20 #[.agg (aL y).toArray, .agg (aL x).toArray, .bool (!p)] V fun e V' => e = .returned (.tuple #[.agg (aL y).toArray, .bool true]) ∧ Q V V')
    (hC : ∀ x, R x → ∀ V, Q W0 V → Calls Tryz.prog 21 #[x.v] V fun e V' => e = .returned x.v ∧ Q V V')
    (hC2 : ∀ x ∈ bs, ∀ V, Q W0 V → Calls Tryz.prog 21 #[x.v] V fun e V' => e = .returned x.v ∧ Q V V') :
    Calls Tryz.prog 9 #[va, vb, .bool p] w fun e V' => ∃ u1 u2, e = .returned (.tuple #[u1, u2]) ∧ Sl Rv.L 23 V' u1 (bat st xs bs) ∧ Sl Rv.L 23 V' u2 bs ∧ Q w V' := by
  obtain ⟨i0, HI⟩ := inf_of info57y
  have HI := hid HI
  have HA := hid (ha.on hq0)
  have HE := hid (fun V (q : Q W0 V) => each_ask vb bs W0 V hb (fun x hx V' q' => ask_any x V' (fun V2 q2 => hmb x hx V2 (q'.trans q2))) q hnb)
  have HAsk := hid (fun x hx V (q : Q W0 V) => ask_any x V (fun V2 q2 => hma x hx V2 (q.trans q2)))
  have HP := hid (fun x (hx : R x) V v B (q : Q W0 V) (hO : Own aL 57 24 B V v bs) => pass_any st R x bs v B p V hO hnb hx hR (fun x hx y hy V' q' => hB x hx y hy V' (q.trans q')) (fun x hx y hy V' q' => hK x hx y hy V' (q.trans q')))
  have HT1 := hid (fun V v (q : Q W0 V) (h : Sl aL 24 V v (bat st xs bs)) => each_told v (bat st xs bs) V V h (fun x hx V' q' => told_any x V' (fun V2 q2 => by
    obtain ⟨y, hy, hyb, rfl⟩ := bat_mem hx
    exact hC _ (pas_R hR (hRa y hy) hyb) V2 (q.trans (q'.trans q2)))) (Q.refl _) (Nat.le_trans (bat_len st xs bs) hna))
  have HT2 := hid (fun V v (q : Q W0 V) (h : Sl aL 24 V v bs) => each_told v bs V V h (fun x hx V' q' => told_any x V' (fun V2 q2 => hC2 x hx V2 (q.trans (q'.trans q2)))) (Q.refl _) hnb)
  have HQ0 := hid hq0
  have HRa := hid hRa
  have HNa := hid hna
  obtain ⟨ao, cap, rfl, h1, h2⟩ := ha.len
  clear ha hb hq0 hna hnb hma hmb hRa hR hB hK hC hC2
  have h3 : xs.length ≤ 9223372036854775807 := Nat.le_trans h1 (by unfold maxLen at h2; omega)
  go_enter Tryz.func9, Tryz.ntmps9
  go_wp2_with (go_at_call 14; refine (HE.out _ HQ0.out).mono ?_; rintro e9 w2 ⟨vr, rfl, hO9, q9⟩; have HO := hid hO9; have Q2 := hid q9; clear hO9 q9)
  go_loopw [8, 9, 19] (fun o r s W => ∃ (n : Nat) (ds : List Rv), n ≤ xs.length ∧ s = .int .i64 n ∧ r = vr ∧ Hid (ds = bat st (xs.take n) bs) ∧ Hid (Own aL 57 24 w2.heap.size W o ds) ∧ Hid (Q w2 W)) (fun _ _ s _ => xs.length - (intOf s).toNat)
  case atStart => exact ⟨0, [], Nat.zero_le _, rfl, rfl, hid rfl, hid (own_nil _), hid (Q.refl _)⟩
  case round =>
    obtain ⟨n, ds, hn, rfl, rfl, HD, HW, HQ⟩ := hrel
    have HOr := hid (HO.out.on HQ.out)
    by_cases hlt : n < xs.length
    · have hlt' : (n : Int) < (xs.length : Int) := by omega
      obtain ⟨g, off, cap', e, _, _, hcc⟩ := (HA.out.on (Q2.out.trans HQ.out)).at hlt
      cases e
      have HMem := hid (List.getElem_mem hlt)
      have HRg : Hid (wr.rangeAt g (off + n * 23) xs[n].L) := hid (fun j u hu => hcc j u hu)
      have HD1 : Hid (ds ++ (if (pas st xs[n] bs).2 then [(pas st xs[n] bs).1] else []) = bat st (xs.take (n + 1)) bs) := hid (by rw [HD.out, bat_take st xs bs n hlt])
      have HDL : Hid (ds.length ≤ n) := hid (by rw [HD.out]; exact Nat.le_trans (bat_len _ _ _) (by simp; omega))
      clear hcc
      generalize xs[n] = x at HMem HRg HD1
      have HX := hid (HRa.out x HMem.out)
      have HAx := hid (HAsk.out x HMem.out)
      have HPx := hid (HP.out x HX.out)
      obtain ⟨⟨z, b⟩, hzb⟩ : ∃ r : Rv × Bool, pas st x bs = r := ⟨_, rfl⟩
      rw [hzb] at HPx HD1
      simp only at HPx HD1
      clear hzb
      go_upto_region 6 with (first
        | (with_reducible refine wpList_load_mid (by with_unfolding_all rfl) 40 _ (by with_unfolding_all rfl) g (off + n * 23) (by with_unfolding_all rfl) x.L _ HRg.out Tryz.underlying40 (by with_unfolding_all rfl) (by with_unfolding_all exact info40) ?_)
        | (with_reducible refine wpl_layt wr 40 zero23 x.L.toArray _ _ (by with_unfolding_all rfl) (by with_unfolding_all rfl) (by with_unfolding_all rfl) (by with_unfolding_all rfl) (by with_unfolding_all exact info40) (by with_unfolding_all rfl) x.one (by with_unfolding_all rfl) ?_))
      have H11 := hid (bk_new wr 40 x.L.toArray)
      have HQ1 : Hid (Q w2 (wr.alloc (.cells x.L.toArray 40))) := hid (HQ.out.alloc _)
      have HW1 := hid (HW.out.alloc (.cells x.L.toArray 40))
      have HOr1 := hid (HOr.out.alloc (.cells x.L.toArray 40))
      clear HQ HW HOr HRg
      generalize wr.alloc (.cells x.L.toArray 40) = w3 at H11 HQ1 HW1 HOr1 ⊢
      generalize wr.heap.size = b11 at H11 ⊢
      cases b
      all_goals
        simp only [pasV, if_true, if_false, Bool.false_eq_true] at HPx HD1
        go_upto_region 7 with (first
          | (with_reducible refine wpList_load_row (by with_unfolding_all rfl) 40 _ (by with_unfolding_all rfl) b11 (by with_unfolding_all rfl) 40 x.L.toArray (0, 0) _ H11.out.h Tryz.underlying40 (by with_unfolding_all rfl) (by with_unfolding_all exact info40) ?_)
          | (go_at_call 15; refine (HAx.out _ (HQ0.out.trans (Q2.out.trans HQ1.out))).mono ?_; rintro e9 w4 ⟨rfl, q9⟩; have HQ3 := hid (HQ1.out.trans q9); have HW3 := hid (HW1.out.on q9); have HOr3 := hid (HOr1.out.on q9); clear q9)
          | (go_at_call 16; refine (HPx.out _ _ _ (HQ0.out.trans (Q2.out.trans HQ3.out)) HOr3.out).mono ?_; rintro e9 w5 ⟨rfl, q9⟩; have HQ4 := hid (HQ3.out.trans q9); have HW4 := hid (HW3.out.on q9); clear q9)
          | (with_reducible refine wpl_layt w5 57 zero24 (aL z).toArray _ _ (by with_unfolding_all rfl) (by with_unfolding_all rfl) (by with_unfolding_all rfl) (by with_unfolding_all rfl) (by with_unfolding_all exact info57) (by with_unfolding_all rfl) (aL_one z) (by with_unfolding_all rfl) ?_)
          | (with_reducible refine wpl_layt w5 57 zero24 zero24 _ _ (by with_unfolding_all rfl) (by with_unfolding_all rfl) (by with_unfolding_all rfl) (by with_unfolding_all rfl) (by with_unfolding_all exact info57) (by with_unfolding_all rfl) zero24_one (by with_unfolding_all rfl) ?_))
      · have HQ5 : Hid (Q w2 (w5.alloc (.cells zero24 57))) := hid (HQ4.out.alloc _)
        have HW5 := hid (HW4.out.alloc (.cells zero24 57))
        clear HQ1 HQ3 HQ4 HW1 HW3 HW4 HOr1 HOr3 H11 HPx HAx
        generalize w5.alloc (.cells zero24 57) = w6 at HQ5 HW5 ⊢
        go_wp2_with fail
        go_roundw
        case rel => exact ⟨n + 1, ds, by omega, by go_num, rfl, hid (by rw [← HD1.out, List.append_nil]), HW5, HQ5⟩
        case measure => simp [intOf]; omega
      · have HQ5 : Hid (Q w2 (w5.alloc (.cells (aL z).toArray 57))) := hid (HQ4.out.alloc _)
        have HW5 := hid (HW4.out.alloc (.cells (aL z).toArray 57))
        have H12 := hid (bk_new w5 57 (aL z).toArray)
        clear HQ1 HQ3 HQ4 HW1 HW3 HW4 HOr1 HOr3 H11 HPx HAx
        generalize w5.alloc (.cells (aL z).toArray 57) = w6 at HQ5 HW5 H12 ⊢
        generalize w5.heap.size = b12 at H12 ⊢
        go_wp2_with (first
          | (with_reducible refine wpList_load_row (by with_unfolding_all rfl) 57 _ (by with_unfolding_all rfl) b12 (by with_unfolding_all rfl) 57 (aL z).toArray (0, 0) _ H12.out.h Tryz.underlying57 (by with_unfolding_all rfl) (by with_unfolding_all exact info57) ?_)
          | (with_reducible refine wpl_bs1 54 57 24 zero24 (aL z).toArray Tryz.underlying54 info57x (by decide) _ (by with_unfolding_all rfl) (by with_unfolding_all rfl) (by with_unfolding_all kernel_rfl) ?_)
          | (at_builtin; refine wpList_append_lies (w := w6.alloc (.cells (aL z).toArray 57)) rfl _ _ 54 rfl w2.heap.size 57 i0 (.agg zero24) 24 272 Tryz.underlying54 HI.out.1 HI.out.2.1 HI.out.2.2.1 HI.out.2.2.2 rfl (by decide) _ _ _ rfl (HW5.out.alloc _) _ 1 1 (aL z) rfl rfl ?c1 ?c2 (by decide) ?c3 ?c4 ?c5 (w6.heap.size + 1) ?c6 ?_))
        case c1 => exact news_new w6 (aL z) 57
        case c2 => exact aL_ones z
        case c3 => unfold maxLen; have := HDL.out; have := HNa.out; omega
        case c4 => have := HDL.out; have := HNa.out; omega
        case c5 => have := HQ5.out.size; simp at this ⊢; omega
        case c6 => simp
        · intro g3 cap3 w7 hown3 hgrow hlies hlt3
          have HO3 := hid (own_snoc (enc := aL) (x := z) hown3)
          have HQ7 : Hid (Q w2 w7) := hid (Below.grown (HQ5.out.alloc _) hgrow (by have := HQ5.out.size; simp at this ⊢; omega) (HW5.out.blk))
          clear hown3 hgrow hlies hlt3 HW5 HQ5 H12
          go_wp2_with fail
          go_roundw
          case rel => exact ⟨n + 1, ds ++ [z], by omega, by go_num, rfl, hid HD1.out, HO3, HQ7⟩
          case measure => simp [intOf]; omega
    · have hn2 : n = xs.length := by omega
      have HF : Hid (ds = bat st xs bs) := hid (by rw [HD.out, hn2, List.take_length])
      have hl1 : ¬ (n : Int) < (xs.length : Int) := by omega
      have HS1 : Hid (Sl aL 24 wr u8 (bat st xs bs)) := hid (by have := HW.out.sl aL_len (by decide); rw [HF.out] at this; exact this)
      go_wp2_with (first
        | (go_at_call 17; with_reducible refine (HT1.out wr u8 (HQ0.out.trans (Q2.out.trans HQ.out)) HS1.out).mono ?_; rintro e9 w8 ⟨u1, rfl, hO9, q9⟩; have HU1 := hid (hO9.sl Rv.len (by decide)); have Q8 := hid q9; clear hO9 q9)
        | (go_at_call 17; with_reducible refine (HT2.out w8 u9 (HQ0.out.trans (Q2.out.trans (HQ.out.trans Q8.out))) ((HOr.out.on Q8.out).sl aL_len (by decide))).mono ?_; rintro e9 w9 ⟨u2, rfl, hO9, q9⟩; have HU2 := hid (hO9.sl Rv.len (by decide)); have Q9 := hid q9; clear hO9 q9))
      go_ret2
      exact ⟨u1, u2, rfl, HU1.out.on Q9.out, HU2.out, Q2.out.trans (HQ.out.trans (Q8.out.trans Q9.out))⟩
structure GK {α : Type} (G : (Nat → Prop) → World → α → Rv → Prop) : Prop where
  kp : ∀ p W W' a x, G p W a x → W.heap.size ≤ W'.heap.size → (∀ i, p i → i < W.heap.size → W'.heap[i]? = W.heap[i]?) → G p W' a x
  mo : ∀ p p' W a x, G p W a x → (∀ i, p i → i < W.heap.size → p' i) → G p' W a x
theorem GK.kq {α : Type} {G : (Nat → Prop) → World → α → Rv → Prop} (h : GK G) {p : Nat → Prop} {W W' : World} {a : α} {x : Rv} (k : G p W a x) (q : Q W W') : G p W' a x := h.kp _ _ _ _ _ k q.size (fun i _ hi => Below.block q i hi)
def pasO {α : Type} (st : α → Rv → Option α) : α → List Rv → Option α
  | a, [] => some a
  | a, y :: ys => (st a y).bind fun a' => pasO st a' ys
theorem pasO_cons {α : Type} {st : α → Rv → Option α} {a a' : α} {y : Rv} {ys : List Rv} (h : st a y = some a') : pasO st a (y :: ys) = pasO st a' ys := by rw [pasO, h]; rfl
theorem pasO_no {α : Type} {st : α → Rv → Option α} {a : α} {y : Rv} {ys : List Rv} (h : st a y = none) : pasO st a (y :: ys) = none := by rw [pasO, h]; rfl
def pasW {α : Type} (z : Rv) (o : Option α) : Array Value := if o.isSome then (aL z).toArray else zero24
set_option maxHeartbeats 16000000 in
theorem pass_ex {α : Type} (G : (Nat → Prop) → World → α → Rv → Prop) (hG : GK G) (st : α → Rv → Option α) (a : α) (x : Rv) (ys : List Rv) (g cap B : Nat) (p : Bool) (w : World) (hO : Own aL 57 24 B w (.slice (some ⟨g, 0, none⟩) ys.length cap) ys) (hn : ys.length ≤ 1000) (hx : G (fun i => i < w.heap.size) w a x)
    (hB : ∀ a x P V, Q w V → G P V a x → ∀ y ∈ ys, Calls Tryz.prog 20 #[.agg (aL x).toArray, .agg (aL y).toArray, .bool p] V fun e V' => ∃ z, e = .returned (.tuple #[.agg (aB z (st a y).isSome).toArray, .bool (st a y).isSome]) ∧ Q V V' ∧ ∀ a', st a y = some a' → G (fun i => V.heap.size ≤ i) V' a' z)
    (hK : ∀ a x P V, Q w V → G P V a x → ∀ y ∈ ys, Calls Tryz.prog 20 #[.agg (aL y).toArray, .agg (aL x).toArray, .bool (!p)] V fun e V' => e = .returned (.tuple #[.agg (aL y).toArray, .bool true]) ∧ Q V V') :
    Calls Tryz.prog 16 #[.agg (aL x).toArray, .slice (some ⟨g, 0, none⟩) ys.length cap, .bool p] w fun e V' => ∃ z, e = .returned (.tuple #[.agg (pasW z (pasO st a ys)), .slice (some ⟨g, 0, none⟩) ys.length cap, .bool (pasO st a ys).isSome]) ∧ Q w V' ∧ ∀ a', pasO st a ys = some a' → G (fun i => i < w.heap.size ∨ w.heap.size + 1 < i) V' a' z := by
  obtain ⟨i0, HI⟩ := inf_of info57y
  have HI := hid HI
  have HO := hid hO
  have HGK := hid hG
  have HB := hid hB
  have HK := hid hK
  have HX := hid hx
  obtain ⟨_, cap', hcc, h1, h2⟩ := (hO.sl aL_len (by decide)).len
  cases hcc
  have hlen : ys.length ≤ 9223372036854775807 := by omega
  have HN : Hid (ys.length ≤ cap ∧ cap ≤ maxLen) := hid ⟨h1, h2⟩
  have hc0 : (0 : Int) ≤ (cap : Int) := by omega
  clear hO hn hx hB hK h2 hG
  have HT := hid (t2_new w 57 57 (aL x).toArray zero24)
  unfold zero24 at HT
  generalize hP : pasO st a ys = P
  have HP := hid hP
  clear hP
  go_enter Tryz.func16, Tryz.ntmps16
  go_upto_region 1 with fail
  generalize (w.alloc _).alloc _ = w1 at HT ⊢
  obtain ⟨b6, hb6⟩ : ∃ b6, w.heap.size + 1 = b6 := ⟨_, rfl⟩
  rw [hb6] at HT ⊢
  obtain ⟨b3, hb3⟩ : ∃ b3, w.heap.size = b3 := ⟨_, rfl⟩
  have HBB : Hid (w.heap.size = b3 ∧ w.heap.size + 1 = b6) := hid ⟨hb3, hb6⟩
  have HT9 : Hid (Ps w w1 b3 b6 x) := hid (by have := HT.out; rw [hb3] at this; exact ⟨this.a, this.r, this.n1, by omega, this.l6, this.q⟩)
  clear HT
  have HG0 : Hid (G (fun i => i ≠ b3 ∧ i ≠ b6) w1 a x) := hid (HGK.out.mo _ _ _ _ _ (HGK.out.kp _ _ _ _ _ HX.out HT9.out.q.size (fun i _ hi => Below.block HT9.out.q i hi)) (fun i hi _ => by have := HBB.out; omega))
  rw [hb3]
  clear hb3 hb6
  go_wp2_with fail
  go_loopw [9, 20] (fun k s W => ∃ (n : Nat) (a' : α) (x' : Rv), n ≤ ys.length ∧ s = .int .i64 n ∧ k = .slice (some ⟨g, 0, none⟩) n cap ∧ Hid (G (fun i => i ≠ b3 ∧ i ≠ b6) W a' x') ∧ Hid (P = pasO st a' (ys.drop n)) ∧ Hid (Ps w W b3 b6 x')) (fun _ s _ => ys.length - (intOf s).toNat)
  case atStart => exact ⟨0, a, x, Nat.zero_le _, rfl, rfl, HG0, hid HP.out.symm, HT9⟩
  case round =>
    obtain ⟨n, a', x', hn, rfl, rfl, HG1, HP1, HS⟩ := hrel
    clear HT9 HX HP HG0
    by_cases hlt : n < ys.length
    · have hlt' : (n : Int) < (ys.length : Int) := by omega
      have HOr := hid (HO.out.on HS.out.q)
      have HRg : Hid (wr.rangeAt g (n * 24) (aL ys[n])) := hid (fun j u hu => HOr.out.cell aL_len hlt j u hu)
      have HMem := hid (List.getElem_mem hlt)
      have HY := hid (List.drop_eq_getElem_cons hlt)
      obtain ⟨y, hy⟩ : ∃ y, ys[n] = y := ⟨_, rfl⟩
      have HYN := hid hy
      rw [hy] at HRg HMem HY
      clear hy
      obtain ⟨o, ho⟩ : ∃ o, st a' y = o := ⟨_, rfl⟩
      have HB1 := hid (fun V (q : Q w V) (h : G (fun i => i ≠ b3 ∧ i ≠ b6) V a' x') => HB.out a' x' _ V q h y HMem.out)
      have HK1 := hid (fun V (q : Q w V) (h : G (fun i => i ≠ b3 ∧ i ≠ b6) V a' x') => HK.out a' x' _ V q h y HMem.out)
      have HPc := HP1.out
      rw [HY.out] at HPc
      have HPn := hid (fun (h : o = none) => HPc.trans (pasO_no (ho.trans h)))
      have HPy := hid (fun a2 (h : o = some a2) => HPc.trans (pasO_cons (ho.trans h)))
      rw [ho] at HB1
      obtain ⟨b, hb⟩ : ∃ b, o.isSome = b := ⟨_, rfl⟩
      have HOB := hid hb
      rw [hb] at HB1
      clear hb ho HPc HP1 HY
      go_upto_region 5 with (first
        | (with_reducible refine wpList_load_mid (by with_unfolding_all rfl) 57 _ (by with_unfolding_all rfl) g (n * 24) (by with_unfolding_all rfl) (aL y) _ HRg.out Tryz.underlying57 (by with_unfolding_all rfl) (by with_unfolding_all exact info57) ?_)
        | (with_reducible refine wpl_layt wr 57 zero24 (aL y).toArray _ _ (by with_unfolding_all rfl) (by with_unfolding_all rfl) (by with_unfolding_all rfl) (by with_unfolding_all rfl) (by with_unfolding_all exact info57) (by with_unfolding_all rfl) (aL_one y) (by with_unfolding_all rfl) ?_))
      have H11 := hid (bk_new wr 57 (aL y).toArray)
      have HS1 := hid (HS.out.on ((Q.refl wr).alloc (.cells (aL y).toArray 57)))
      have HG2 : Hid (G (fun i => i ≠ b3 ∧ i ≠ b6) (wr.alloc (.cells (aL y).toArray 57)) a' x') := hid (HGK.out.kq HG1.out ((Q.refl wr).alloc _))
      clear HS HRg HOr HG1
      generalize wr.alloc (.cells (aL y).toArray 57) = w2 at H11 HS1 HG2 ⊢
      generalize wr.heap.size = b11 at H11 ⊢
      go_upto_region 6 with (first
        | (with_reducible refine wpList_load_row (by with_unfolding_all rfl) 57 _ (by with_unfolding_all rfl) b3 (by with_unfolding_all rfl) 57 (aL x').toArray (0, 0) _ HS1.out.a.h Tryz.underlying57 (by with_unfolding_all rfl) (by with_unfolding_all exact info57) ?_)
        | (with_reducible refine wpList_load_row (by with_unfolding_all rfl) 57 _ (by with_unfolding_all rfl) b11 (by with_unfolding_all rfl) 57 (aL y).toArray (0, 0) _ H11.out.h Tryz.underlying57 (by with_unfolding_all rfl) (by with_unfolding_all exact info57) ?_)
        | (go_at_call 20; refine (HB1.out _ HS1.out.q HG2.out).mono ?_; rintro e9 w3 ⟨z, rfl, q9, t9⟩; have HS2 := hid (HS1.out.on q9); have H12 := hid (H11.out.on q9); have HG3 := hid (HGK.out.kq HG2.out q9); have HZ9 := hid t9; clear q9 t9)
        | (with_reducible refine wpl_layt w3 57 zero24 (aB z b).toArray _ _ (by with_unfolding_all rfl) (by with_unfolding_all rfl) (by with_unfolding_all rfl) (by with_unfolding_all rfl) (by with_unfolding_all exact info57) (by with_unfolding_all rfl) (aB_one z b) (by with_unfolding_all rfl) ?_))
      have H13 := hid (H12.out.on ((Q.refl w3).alloc (.cells (aB z b).toArray 57)))
      have HZ3 := hid (bk_new w3 57 (aB z b).toArray)
      have HS3 := hid (HS2.out.on ((Q.refl w3).alloc (.cells (aB z b).toArray 57)))
      have HG4 := hid (HGK.out.kq HG3.out ((Q.refl w3).alloc (.cells (aB z b).toArray 57)))
      have HZ10 := hid (fun a2 h => HGK.out.kq (HZ9.out a2 h) ((Q.refl w3).alloc (.cells (aB z b).toArray 57)))
      have HLW2 : Hid (b3 < w2.heap.size ∧ b6 < w2.heap.size) := hid ⟨HS1.out.a.l, HS1.out.r.l⟩
      clear HS1 H11 HS2 H12 HB1 HG2 HG3 HZ9
      generalize w3.alloc (.cells (aB z b).toArray 57) = w4 at H13 HZ3 HS3 HG4 HZ10 ⊢
      generalize w3.heap.size = b12 at HZ3 ⊢
      go_upto_region 7 with (first
        | (with_reducible refine wpList_load_row (by with_unfolding_all rfl) 57 _ (by with_unfolding_all rfl) b11 (by with_unfolding_all rfl) 57 (aL y).toArray (0, 0) _ H13.out.h Tryz.underlying57 (by with_unfolding_all rfl) (by with_unfolding_all exact info57) ?_)
        | (with_reducible refine wpList_load_row (by with_unfolding_all rfl) 57 _ (by with_unfolding_all rfl) b3 (by with_unfolding_all rfl) 57 (aL x').toArray (0, 0) _ HS3.out.a.h Tryz.underlying57 (by with_unfolding_all rfl) (by with_unfolding_all exact info57) ?_)
        | (go_at_call 20; refine (HK1.out _ HS3.out.q HG4.out).mono ?_; rintro e9 w5 ⟨rfl, q9⟩; have HS4 := hid (HS3.out.on q9); have HZ4 := hid (HZ3.out.on q9); have HZ11 := hid (fun a2 h => HGK.out.kq (HZ10.out a2 h) q9); clear q9)
        | (with_reducible refine wpl_layt w5 57 zero24 (aL y).toArray _ _ (by with_unfolding_all rfl) (by with_unfolding_all rfl) (by with_unfolding_all rfl) (by with_unfolding_all rfl) (by with_unfolding_all exact info57) (by with_unfolding_all rfl) (aL_one y) (by with_unfolding_all rfl) ?_))
      have H14 := hid (bk_new w5 57 (aL y).toArray)
      have HZ5 := hid (HZ4.out.on ((Q.refl w5).alloc (.cells (aL y).toArray 57)))
      have HS5 := hid (HS4.out.on ((Q.refl w5).alloc (.cells (aL y).toArray 57)))
      have HZ12 := hid (fun a2 h => HGK.out.kq (HZ11.out a2 h) ((Q.refl w5).alloc (.cells (aL y).toArray 57)))
      clear HS3 H13 HZ3 HS4 HZ4 HK1 HG4 HZ10 HZ11
      generalize w5.alloc (.cells (aL y).toArray 57) = w6 at H14 HZ5 HS5 HZ12 ⊢
      generalize w5.heap.size = b14 at H14 ⊢
      go_upto_region 9 with (first
        | (with_reducible refine wpList_load_row (by with_unfolding_all rfl) 57 _ (by with_unfolding_all rfl) b14 (by with_unfolding_all rfl) 57 (aL y).toArray (0, 0) _ H14.out.h Tryz.underlying57 (by with_unfolding_all rfl) (by with_unfolding_all exact info57) ?_)
        | (with_reducible refine wpl_bs1 54 57 24 zero24 (aL y).toArray Tryz.underlying54 info57x (by decide) _ (by with_unfolding_all rfl) (by with_unfolding_all rfl) (by with_unfolding_all kernel_rfl) ?_)
        | (at_builtin; refine wpl_app1 (k := 24) (te := 57) aL_len HO.out HS5.out.q hlt y HYN.out rfl _ _ (t := 54) rfl Tryz.underlying54 i0 HI.out.1 HI.out.2.2.1 rfl w6.heap.size rfl rfl (aL_ones y) rfl ?_))
      have HZ7 := hid (HZ5.out.on ((Q.refl w6).alloc (.cells (aL y).toArray 57)))
      have HS7 := hid (HS5.out.on ((Q.refl w6).alloc (.cells (aL y).toArray 57)))
      have HZ13 := hid (fun a2 h => HGK.out.kq (HZ12.out a2 h) ((Q.refl w6).alloc (.cells (aL y).toArray 57)))
      clear HS5 HZ5 H14 HZ12
      generalize w6.alloc (.cells (aL y).toArray 57) = w7 at HZ7 HS7 HZ13 ⊢
      cases b with
      | false =>
        have HTl : ∀ W, (Instr.sliceAt 54 (.slice (some ⟨g, 0, none⟩) ys.length cap) (some (.int .i64 ((n : Int) + 1))) none none).run Tryz.prog W = .ok (.slice (some (if cap = n + 1 then ⟨g, 0, none⟩ else ⟨g, (n + 1) * 24, none⟩)) (ys.length - (n + 1)) (cap - (n + 1))) W := fun W => run_tail W g ys.length cap (n + 1) (by omega) HN.out.1 HN.out.2
        have hle : n + 1 ≤ ys.length := by omega
        go_wp2_with (first
          | (with_reducible refine wpl_buildt 57 _ (by with_unfolding_all rfl) (by with_unfolding_all rfl) zero24 (by with_unfolding_all kernel_rfl) ?_)
          | (at_builtin; refine wpl_app2 (k := 24) (te := 57) aL_len aL_ones HO.out HS7.out.q hle (by decide) rfl _ _ (t := 54) rfl Tryz.underlying54 i0 HI.out.1 HI.out.2.2.1 rfl rfl ?_)
          | (with_reducible refine wpList_store_row (by with_unfolding_all rfl) 57 _ _ (by with_unfolding_all rfl) b6 zero24 (by with_unfolding_all rfl) (by with_unfolding_all rfl) 57 _ HS7.out.r.h (by with_unfolding_all exact info57) (by with_unfolding_all rfl) zero24_one ?_))
        all_goals refine bodyPost_ret (v := .tuple #[.agg zero24, .slice (some ⟨g, 0, none⟩) ys.length _, .bool false]) (results_cell3 Tryz.results16 _ _ b6 57 _ (0, 0) _ (by rfl) (HS7.out.r.row _).h Tryz.underlying57 rfl info57) rfl ?_
        all_goals exact ⟨z, by rw [HPn.out (by cases o with | none => rfl | some _ => exact absurd HOB.out (by simp))]; rfl, HS7.out.q.row HS7.out.l6 _, fun a2 h => by rw [HPn.out (by cases o with | none => rfl | some _ => exact absurd HOB.out (by simp))] at h; cases h⟩
      | true =>
        go_wp2_with (first
          | (with_reducible refine wpList_load_row (by with_unfolding_all rfl) 57 _ (by with_unfolding_all rfl) b12 (by with_unfolding_all rfl) 57 (aB z true).toArray (0, 0) _ HZ7.out.h Tryz.underlying57 (by with_unfolding_all rfl) (by with_unfolding_all exact info57) ?_)
          | (with_reducible refine wpList_store_row (by with_unfolding_all rfl) 57 _ _ (by with_unfolding_all rfl) b3 (aL z).toArray (by with_unfolding_all rfl) (by with_unfolding_all rfl) 57 _ HS7.out.a.h (by with_unfolding_all exact info57) (by with_unfolding_all rfl) (aL_one z) ?_))
        have HS8 := hid (HS7.out.go z)
        go_roundw
        case rel =>
          obtain ⟨a2, ha2⟩ : ∃ a2, o = some a2 := by cases o with | none => exact absurd HOB.out (by simp) | some a2 => exact ⟨a2, rfl⟩
          exact ⟨n + 1, a2, z, by omega, by go_num, by go_num, hid (HGK.out.mo _ _ _ _ _ (HGK.out.kp _ _ _ _ _ (HZ13.out a2 ha2) (by simp) (fun i hi _ => setRow_other _ _ _ _ (by have := HLW2.out; omega))) (fun i hi _ => by have := HLW2.out; omega)), hid (HPy.out a2 ha2), HS8⟩
        case measure => simp [intOf]; omega
    · have hn2 : n = ys.length := by omega
      subst hn2
      have HPE : Hid (P = some a') := hid (by have := HP1.out; rw [List.drop_length] at this; exact this)
      have hl1 : ¬ (ys.length : Int) < (ys.length : Int) := by omega
      go_wp2_with (first
        | (with_reducible refine wpList_load_row (by with_unfolding_all rfl) 57 _ (by with_unfolding_all rfl) b3 (by with_unfolding_all rfl) 57 (aL x').toArray (0, 0) _ HS.out.a.h Tryz.underlying57 (by with_unfolding_all rfl) (by with_unfolding_all exact info57) ?_)
        | (with_reducible refine wpList_store_row (by with_unfolding_all rfl) 57 _ _ (by with_unfolding_all rfl) b6 (aL x').toArray (by with_unfolding_all rfl) (by with_unfolding_all rfl) 57 _ HS.out.r.h (by with_unfolding_all exact info57) (by with_unfolding_all rfl) (aL_one x') ?_))
      refine bodyPost_ret (v := .tuple #[.agg (aL x').toArray, .slice (some ⟨g, 0, none⟩) ys.length cap, .bool true]) (results_cell3 Tryz.results16 _ _ b6 57 _ (0, 0) _ (by rfl) (HS.out.r.row _).h Tryz.underlying57 rfl info57) rfl ?_
      exact ⟨x', by rw [HPE.out]; rfl, HS.out.q.row HS.out.l6 _, fun a2 h => by
        rw [HPE.out] at h
        cases h
        exact HGK.out.mo _ _ _ _ _ (HGK.out.kp _ _ _ _ _ HG1.out (by simp) (fun i hi _ => setRow_other _ _ _ _ hi.2)) (fun i hi _ => by have := HBB.out; omega)⟩
end Go.Proofs.YthebfhdpofhmpaaGreatDoor
namespace Go.Proofs.YthebfhdpofhmpaaGreatDoor
open Go.RowKit
open IV
set_option maxHeartbeats 4000000 in
theorem copied_form (x : Rv) (X : Ex) (w : World) (hsh : x.sh.size ≤ 1000) (hnm : x.nm.size ≤ 1000) (hvt : x.vt.size ≤ 1000)
    (hS : ∀ V, Q w V → Calls Tryz.prog 26 #[.agg (tr7 x).toArray, .string x.sh, .string ⟨#[]⟩] V fun e V' => ∃ q : Rv, e = .returned (.agg (tr7 q).toArray) ∧ Q V V' ∧ Tr V V' X q)
    (hR : ∀ V, Q w V → Calls Tryz.prog 27 #[.slice x.ra x.rl x.rc] V fun e V' => e = .returned (.slice x.ra x.rl x.rc) ∧ Q V V') :
    Calls Tryz.prog 21 #[x.v] w fun e V' => ∃ q : Rv, e = .returned (x.wt q).v ∧ Q w V' ∧ Tr w V' X q := by
  rw [Rv.v_eq]
  have HS := hid hS
  have HR := hid hR
  have HC1 := hid (fun V => clone_any x.sh V (by omega))
  have HC2 := hid (fun V => clone_any x.nm V (by omega))
  have HC3 := hid (fun V => clone_any x.vt V (by omega))
  have HT := hid (t2_new w 40 40 x.L.toArray zero23)
  unfold zero23 at HT
  clear hS hR hsh hnm hvt
  go_enter Tryz.func21, Tryz.ntmps21
  go_upto_region 1 with fail
  generalize (w.alloc (.cells x.L.toArray 40)).alloc _ = w1 at HT ⊢
  generalize w.heap.size + 1 = b2 at HT ⊢
  obtain ⟨b1, hb1⟩ : ∃ b1, w.heap.size = b1 := ⟨_, rfl⟩
  have HL : Hid (w.heap.size ≤ b1) := hid (Nat.le_of_eq hb1)
  have HT9 : Hid (T2 w w1 40 40 x.L.toArray zero23 b1 b2) := hid (by have := HT.out; rw [hb1] at this; exact this)
  clear HT
  rw [hb1]
  refine wp_region_invw (by kernel_rfl) [3, 4, 5, 6, 7, 8, 9, 10] (SI w (fun W => Bk W 40 b1 x.L.toArray ∧ Bk W 40 b2 zero23) (fun W => True) (fun W => True) 11 iCop [3, 4, 5, 6, 7, 8, 9, 10] (vCop x b1)) (by kernel_rfl) (steps_list ⟨?o0, ?o1, ?o2, ?o3, ?o4, ?o5, ?o6, ?o7, ?o8, ?o9, trivial⟩)
    ⟨fun W W' q => ⟨fun h => ⟨h.1.on q, h.2.on q⟩, id, id⟩, by decide, HT9.out.q.drew, ⟨HT9.out.a.on (Q.refl _).drew, HT9.out.r.on (Q.refl _).drew⟩, fun _ => trivial, fun _ => trivial, fun _ _ h => absurd h Bool.false_ne_true⟩ ?rest
  case o0 =>
    intro L v W J hL hd
    refine opw_val rfl rfl rfl (by decide) (by simp only [frm, List.foldl_cons, List.foldl_nil, List.setIfInBounds_toArray, List.set_cons_zero, List.set_cons_succ]; (go_simp) <;> (first | exact ⟨⟨rfl, rfl⟩, rfl⟩ | exact ⟨rfl, rfl⟩ | with_reducible rfl)) ?_
    exact J.m (Q.refl _) 0 3 (by decide) (by decide)
  case o1 =>
    intro L v W J hL hd
    have h0 : v 3 = .pointer (some ⟨b1, 1, none⟩) := J.mv 3 (by decide) (hd 0 (by decide))
    have c0 := J.p.1.c 1 (.string x.sh) rfl
    refine opw_val rfl rfl rfl (by decide) (by simp only [frm, List.foldl_cons, List.foldl_nil, List.setIfInBounds_toArray, List.set_cons_zero, List.set_cons_succ]; (go_simp) <;> (first | exact ⟨⟨rfl, rfl⟩, rfl⟩ | exact ⟨rfl, rfl⟩ | with_reducible rfl)) ?_
    exact J.m (Q.refl _) 1 4 (by decide) (by decide)
  case o2 =>
    intro L v W J hL hd
    have h0 : v 4 = .string x.sh := J.mv 4 (by decide) (hd 1 (by decide))
    refine opw_call rfl rfl rfl (by decide) (by simp only [frm, List.foldl_cons, List.foldl_nil, List.setIfInBounds_toArray, List.set_cons_zero, List.set_cons_succ]; (go_simp) <;> (first | exact ⟨⟨rfl, rfl⟩, rfl⟩ | exact ⟨rfl, rfl⟩ | with_reducible rfl)) ?_
    refine (HC1.out _).mono ?_
    rintro e W1 ⟨rfl, q1⟩
    exact ⟨_, rfl, J.m q1 2 5 (by decide) (by decide)⟩
  case o3 =>
    intro L v W J hL hd
    refine opw_val rfl rfl rfl (by decide) (by simp only [frm, List.foldl_cons, List.foldl_nil, List.setIfInBounds_toArray, List.set_cons_zero, List.set_cons_succ]; (go_simp) <;> (first | exact ⟨⟨rfl, rfl⟩, rfl⟩ | exact ⟨rfl, rfl⟩ | with_reducible rfl)) ?_
    exact J.m (Q.refl _) 3 6 (by decide) (by decide)
  case o4 =>
    intro L v W J hL hd
    have h0 : v 6 = .pointer (some ⟨b1, 22, none⟩) := J.mv 6 (by decide) (hd 3 (by decide))
    have c0 := J.p.1.c 22 (.string x.nm) rfl
    refine opw_val rfl rfl rfl (by decide) (by simp only [frm, List.foldl_cons, List.foldl_nil, List.setIfInBounds_toArray, List.set_cons_zero, List.set_cons_succ]; (go_simp) <;> (first | exact ⟨⟨rfl, rfl⟩, rfl⟩ | exact ⟨rfl, rfl⟩ | with_reducible rfl)) ?_
    exact J.m (Q.refl _) 4 7 (by decide) (by decide)
  case o5 =>
    intro L v W J hL hd
    have h0 : v 7 = .string x.nm := J.mv 7 (by decide) (hd 4 (by decide))
    refine opw_call rfl rfl rfl (by decide) (by simp only [frm, List.foldl_cons, List.foldl_nil, List.setIfInBounds_toArray, List.set_cons_zero, List.set_cons_succ]; (go_simp) <;> (first | exact ⟨⟨rfl, rfl⟩, rfl⟩ | exact ⟨rfl, rfl⟩ | with_reducible rfl)) ?_
    refine (HC2.out _).mono ?_
    rintro e W1 ⟨rfl, q1⟩
    exact ⟨_, rfl, J.m q1 5 8 (by decide) (by decide)⟩
  case o6 =>
    intro L v W J hL hd
    refine opw_val rfl rfl rfl (by decide) (by simp only [frm, List.foldl_cons, List.foldl_nil, List.setIfInBounds_toArray, List.set_cons_zero, List.set_cons_succ]; (go_simp) <;> (first | exact ⟨⟨rfl, rfl⟩, rfl⟩ | exact ⟨rfl, rfl⟩ | with_reducible rfl)) ?_
    exact J.m (Q.refl _) 6 9 (by decide) (by decide)
  case o7 =>
    intro L v W J hL hd
    have h0 : v 9 = .pointer (some ⟨b1, 1, none⟩) := J.mv 9 (by decide) (hd 6 (by decide))
    have h1 : v 5 = .string x.sh := J.mv 5 (by decide) (hd 2 (by decide))
    have c0 := J.p.1.c 1 (.string x.sh) rfl
    have f0 := J.p.1.f 1
    refine opw_non rfl rfl rfl (by simp only [frm, List.foldl_cons, List.foldl_nil, List.setIfInBounds_toArray, List.set_cons_zero, List.set_cons_succ]; (go_simp) <;> (first | exact ⟨⟨rfl, rfl⟩, rfl⟩ | exact ⟨rfl, rfl⟩ | with_reducible rfl)) ?_
    exact J.same 7 (by decide) (by decide) (J.q.setCell HL.out _) ⟨J.p.1.same 1 _ rfl, J.p.2.oth (Ne.symm HT9.out.n1) _ _⟩ id id
  case o8 =>
    intro L v W J hL hd
    refine opw_val rfl rfl rfl (by decide) (by simp only [frm, List.foldl_cons, List.foldl_nil, List.setIfInBounds_toArray, List.set_cons_zero, List.set_cons_succ]; (go_simp) <;> (first | exact ⟨⟨rfl, rfl⟩, rfl⟩ | exact ⟨rfl, rfl⟩ | with_reducible rfl)) ?_
    exact J.m (Q.refl _) 8 10 (by decide) (by decide)
  case o9 =>
    intro L v W J hL hd
    have h0 : v 10 = .pointer (some ⟨b1, 22, none⟩) := J.mv 10 (by decide) (hd 8 (by decide))
    have h1 : v 8 = .string x.nm := J.mv 8 (by decide) (hd 5 (by decide))
    have c0 := J.p.1.c 22 (.string x.nm) rfl
    have f0 := J.p.1.f 22
    refine opw_non rfl rfl rfl (by simp only [frm, List.foldl_cons, List.foldl_nil, List.setIfInBounds_toArray, List.set_cons_zero, List.set_cons_succ]; (go_simp) <;> (first | exact ⟨⟨rfl, rfl⟩, rfl⟩ | exact ⟨rfl, rfl⟩ | with_reducible rfl)) ?_
    exact J.same 9 (by decide) (by decide) (J.q.setCell HL.out _) ⟨J.p.1.same 22 _ rfl, J.p.2.oth (Ne.symm HT9.out.n1) _ _⟩ id id
  intro L v w3 hall J
  have HT3 : Hid (T2 w w3 40 40 x.L.toArray zero23 b1 b2) := hid ⟨J.p.1, J.p.2, HT9.out.n1, by omega, HT9.out.l6, J.q⟩
  simp only [frm, List.foldl_cons, List.foldl_nil, List.setIfInBounds_toArray, List.set_cons_zero, List.set_cons_succ]
  clear hall J HT9
  have c7 := HT3.out.a.c 7 (.string x.vt) rfl
  have f7 := HT3.out.a.f 7
  go_upto_region 3 with (go_at_call 25; refine (HC3.out _).mono ?_; rintro e9 w4 ⟨rfl, q9⟩; have HT4 := hid (HT3.out.on q9); clear q9; have d7 := HT4.out.a.c 7 (.string x.vt) rfl; have g7 := HT4.out.a.f 7)
  have HT5 : Hid (T2 w (w4.setCell ⟨b1, 7, none⟩ (.string x.vt)) 40 40 x.L.toArray zero23 b1 b2) := hid ⟨HT4.out.a.same 7 _ rfl, HT4.out.r.oth (Ne.symm HT4.out.n1) _ _, HT4.out.n1, HT4.out.l, HT4.out.l6, HT4.out.q.setCell HT4.out.l _⟩
  clear HT3 HT4 c7 f7 d7 g7
  generalize w4.setCell ⟨b1, 7, none⟩ (.string x.vt) = w5 at HT5 ⊢
  have c1 := HT5.out.a.c 1 (.string x.sh) rfl
  go_upto_region 4 with (first
    | (with_reducible refine wpList_load_mid (by with_unfolding_all rfl) 35 _ (by with_unfolding_all rfl) b1 10 (by with_unfolding_all rfl) (tr7 x) _ (HT5.out.a.range 10 (tr7 x) (x_tr7 x)) Tryz.underlying35 (by with_unfolding_all rfl) (by with_unfolding_all exact info35e) ?_)
    | (go_at_call 26; refine (HS.out _ HT5.out.q).mono ?_; rintro e9 w6 ⟨q, rfl, q9, t9⟩; have HT6 := hid (HT5.out.on q9); have HTr := hid t9; clear q9 t9)
    | (with_reducible refine wpList_store_mid (by with_unfolding_all rfl) 35 _ _ (by with_unfolding_all rfl) b1 10 (tr7 q).toArray (by with_unfolding_all rfl) (by with_unfolding_all rfl) (by with_unfolding_all exact HT6.out.a.there 10 7 (by show 17 ≤ 23; decide)) (by with_unfolding_all exact info35e) (by with_unfolding_all rfl) ?_))
  have hl1 : b1 < w5.heap.size := HT5.out.a.l
  have HT7 : Hid (T2 w (w6.setCells b1 10 (tr7 q)) 40 40 (x.wt q).L.toArray zero23 b1 b2) := hid ⟨(by have h9 := Bk.puts (tr7 q) 10 w6 _ HT6.out.a; rw [wt_setA] at h9; exact h9), Bk.othL (W := w6) (Ne.symm HT6.out.n1) (tr7 q) 10 w6 HT6.out.r, HT6.out.n1, HT6.out.l, HT6.out.l6, Q.cells HT6.out.l _ _ HT6.out.q⟩
  have HTr7 := hid (Tr.sets hl1 (tr7 q) 10 w6 HTr.out)
  have HB1 := hid hl1
  have HB2 : Hid (b2 < w5.heap.size) := hid HT5.out.r.l
  have HW5 : Hid (w.heap.size ≤ w5.heap.size) := hid HT5.out.q.size
  clear HT5 HT6 c1 HTr hl1
  generalize w6.setCells b1 10 _ = w7 at HT7 HTr7 ⊢
  have c20 := HT7.out.a.c 20 (.slice x.ra x.rl x.rc) rfl
  go_upto_region 5 with (go_at_call 27; refine (HR.out _ HT7.out.q).mono ?_; rintro e9 w8 ⟨rfl, q9⟩; have HT8 := hid (HT7.out.on q9); have HTr8 := hid (HTr7.out.on q9); clear q9; have d20 := HT8.out.a.c 20 (.slice x.ra x.rl x.rc) rfl; have g20 := HT8.out.a.f 20)
  have HT10 : Hid (T2 w (w8.setCell ⟨b1, 20, none⟩ (.slice x.ra x.rl x.rc)) 40 40 (x.wt q).L.toArray zero23 b1 b2) := hid ⟨HT8.out.a.same 20 _ rfl, HT8.out.r.oth (Ne.symm HT8.out.n1) _ _, HT8.out.n1, HT8.out.l, HT8.out.l6, HT8.out.q.setCell HT8.out.l _⟩
  have HTr10 := hid (HTr8.out.set HB1.out 20 (.slice x.ra x.rl x.rc))
  clear HT7 HT8 c20 d20 g20 HTr7 HTr8
  generalize w8.setCell ⟨b1, 20, none⟩ _ = w10 at HT10 HTr10 ⊢
  go_wp2_with (first
    | (with_reducible refine wpList_load_row (by with_unfolding_all rfl) 40 _ (by with_unfolding_all rfl) b1 (by with_unfolding_all rfl) 40 (x.wt q).L.toArray (0, 0) _ HT10.out.a.h Tryz.underlying40 (by with_unfolding_all rfl) (by with_unfolding_all exact info40) ?_)
    | (with_reducible refine wpList_store_row (by with_unfolding_all rfl) 40 _ _ (by with_unfolding_all rfl) b2 (x.wt q).L.toArray (by with_unfolding_all rfl) (by with_unfolding_all rfl) 40 _ HT10.out.r.h (by with_unfolding_all exact info40) (by with_unfolding_all rfl) (x.wt q).one ?_))
  refine bodyPost_ret (v := .agg (x.wt q).L.toArray) (results_cell_row Tryz.results21 _ _ b2 40 (x.wt q).L.toArray (0, 0) _ (by rfl) (HT10.out.r.row _).h Tryz.underlying40 rfl info40) rfl ?_
  exact ⟨q, rfl, HT10.out.q.row HT10.out.l6 _, (HTr10.out.row HB2.out _).mono HW5.out⟩
set_option maxHeartbeats 4000000 in
theorem behind_ex (x y : Rv) (Z : Rv → Rv) (p b : Bool) (X : Ex) (w : World) (hy : y.k = 2 ∨ y.k = 3)
    (hS : ∀ V, Q w V → Calls Tryz.prog 37 #[x.v, y.v, .bool p] V fun e V' => ∃ q, e = .returned (.tuple #[(Z q).v, .bool b]) ∧ Q V V' ∧ Tr V V' X q) :
    Calls Tryz.prog 24 #[x.v, y.v, .bool p] w fun e V' => ∃ q, e = .returned (.tuple #[(Z q).v, .bool b]) ∧ Q w V' ∧ Tr w V' X q := by
  simp only [Rv.v_eq] at hS ⊢
  have HS := hid hS
  have HT := hid (t3_new w 40 40 40 x.L.toArray y.L.toArray zero23)
  unfold zero23 at HT
  clear hS
  rcases hy with hy | hy
  all_goals
    go_enter Tryz.func24, Tryz.ntmps24
    go_upto_region 1 with fail
    generalize ((w.alloc (.cells x.L.toArray 40)).alloc (.cells y.L.toArray 40)).alloc _ = w3 at HT ⊢
    generalize w.heap.size + 1 + 1 = b6 at HT ⊢
    generalize w.heap.size + 1 = b4 at HT ⊢
    obtain ⟨b3, hb3⟩ : ∃ b3, w.heap.size = b3 := ⟨_, rfl⟩
    have HT9 : Hid (T3 w w3 40 40 40 x.L.toArray y.L.toArray zero23 b3 b4 b6) := hid (by have := HT.out; rw [hb3] at this; exact this)
    clear HT
    have HT := HT9
    clear HT9
    rw [hb3]
    have k4 := HT.out.b.c 0 (.int .i64 y.k) rfl
    rw [hy] at k4
    have HB6 : Hid (b6 < w3.heap.size) := hid HT.out.r.l
    have HW3 : Hid (w.heap.size ≤ w3.heap.size) := hid HT.out.q.size
    go_wp2_with (first
      | (with_reducible refine wpList_load_row (by with_unfolding_all rfl) 40 _ (by with_unfolding_all rfl) b3 (by with_unfolding_all rfl) 40 x.L.toArray (0, 0) _ HT.out.a.h Tryz.underlying40 (by with_unfolding_all rfl) (by with_unfolding_all exact info40) ?_)
      | (with_reducible refine wpList_load_row (by with_unfolding_all rfl) 40 _ (by with_unfolding_all rfl) b4 (by with_unfolding_all rfl) 40 y.L.toArray (0, 0) _ HT.out.b.h Tryz.underlying40 (by with_unfolding_all rfl) (by with_unfolding_all exact info40) ?_)
      | (go_at_call 37; refine (HS.out _ HT.out.q).mono ?_; rintro e9 w5 ⟨q, rfl, q9, t9⟩; have HT5 := hid (HT.out.on q9); have HTr := hid t9; clear q9 t9)
      | (with_reducible refine wpList_store_row (by with_unfolding_all rfl) 40 _ _ (by with_unfolding_all rfl) b6 (Z q).L.toArray (by with_unfolding_all rfl) (by with_unfolding_all rfl) 40 _ HT5.out.r.h (by with_unfolding_all exact info40) (by with_unfolding_all rfl) (Z q).one ?_))
    refine bodyPost_ret (v := .tuple #[.agg _, .bool _]) (results_cell2 Tryz.results24 _ _ b6 40 _ (0, 0) _ (by rfl) (HT5.out.r.row _).h Tryz.underlying40 rfl info40) rfl ?_
    exact ⟨q, rfl, HT5.out.q.row HT5.out.l6 _, (HTr.out.row HB6.out _).mono HW3.out⟩
set_option maxHeartbeats 4000000 in
theorem abehind_ex (x y : Rv) (Z : Rv → Rv) (p b : Bool) (X : Ex) (w : World) (hB : ∀ V, Q w V → Calls Tryz.prog 24 #[x.v, y.v, .bool p] V fun e V' => ∃ q, e = .returned (.tuple #[(Z q).v, .bool b]) ∧ Q V V' ∧ Tr V V' X q) :
    Calls Tryz.prog 20 #[.agg (aL x).toArray, .agg (aL y).toArray, .bool p] w fun e V' => ∃ q, e = .returned (.tuple #[.agg (aB (Z q) b).toArray, .bool b]) ∧ Q w V' ∧ Tr w V' X q := by
  simp only [Rv.v_eq] at hB
  have HB := hid hB
  have HT := hid (t3_new w 57 57 57 (aL x).toArray (aL y).toArray zero24)
  unfold zero24 at HT
  clear hB
  go_enter Tryz.func20, Tryz.ntmps20
  go_upto_region 1 with fail
  generalize ((w.alloc _).alloc _).alloc _ = w3 at HT ⊢
  generalize w.heap.size + 1 + 1 = b6 at HT ⊢
  generalize w.heap.size + 1 = b4 at HT ⊢
  obtain ⟨b3, hb3⟩ : ∃ b3, w.heap.size = b3 := ⟨_, rfl⟩
  have HT9 : Hid (T3 w w3 57 57 57 (aL x).toArray (aL y).toArray zero24 b3 b4 b6) := hid (by have := HT.out; rw [hb3] at this; exact this)
  clear HT
  rw [hb3]
  have c3 := HT9.out.a.c 23 (.bool true) rfl
  have c4 := HT9.out.b.c 23 (.bool true) rfl
  go_upto_region 4 with (first
    | (with_reducible refine wpList_load_mid (by with_unfolding_all rfl) 40 _ (by with_unfolding_all rfl) b3 0 (by with_unfolding_all rfl) x.L _ (HT9.out.a.range 0 x.L (fun j u hu => by rw [Nat.zero_add]; exact aL_get hu)) Tryz.underlying40 (by with_unfolding_all rfl) (by with_unfolding_all exact info40) ?_)
    | (with_reducible refine wpList_load_mid (by with_unfolding_all rfl) 40 _ (by with_unfolding_all rfl) b4 0 (by with_unfolding_all rfl) y.L _ (HT9.out.b.range 0 y.L (fun j u hu => by rw [Nat.zero_add]; exact aL_get hu)) Tryz.underlying40 (by with_unfolding_all rfl) (by with_unfolding_all exact info40) ?_)
    | (go_at_call 24; refine (HB.out _ HT9.out.q).mono ?_; rintro e w4 ⟨q, rfl, q1, t9⟩; have HT1 := hid (HT9.out.on q1); have HTr := hid t9; clear q1 t9)
    | (with_reducible refine wpl_lay w4 _ _ (by with_unfolding_all rfl) (by with_unfolding_all rfl) (Z q) (by with_unfolding_all rfl) (by with_unfolding_all rfl) (by with_unfolding_all rfl) ?_))
  have HC := hid (bk_new w4 40 (Z q).L.toArray)
  have HT2 := hid (HT1.out.on ((Q.refl w4).alloc (.cells (Z q).L.toArray 40)))
  have HTr2 := hid (HTr.out.on ((Q.refl w4).alloc (.cells (Z q).L.toArray 40)))
  have HB6 : Hid (b6 < w3.heap.size) := hid HT9.out.r.l
  have HW3 : Hid (w.heap.size ≤ w3.heap.size) := hid HT9.out.q.size
  clear HT1 HT9 c3 c4 hb3 HTr
  generalize w4.alloc (.cells (Z q).L.toArray 40) = w5 at HC HT2 HTr2 ⊢
  generalize w4.heap.size = b8 at HC ⊢
  go_wp2_with (first
    | (with_reducible refine wpList_load_row (by with_unfolding_all rfl) 40 _ (by with_unfolding_all rfl) b8 (by with_unfolding_all rfl) 40 _ (0, 0) _ HC.out.h Tryz.underlying40 (by with_unfolding_all rfl) (by with_unfolding_all exact info40) ?_)
    | (with_reducible refine wpl_buildt 57 _ (by with_unfolding_all rfl) (by with_unfolding_all rfl) (aB (Z q) b).toArray (by with_unfolding_all exact built_b (Z q) b) ?_)
    | (with_reducible refine wpList_store_row (by with_unfolding_all rfl) 57 _ _ (by with_unfolding_all rfl) b6 (aB (Z q) b).toArray (by with_unfolding_all rfl) (by with_unfolding_all rfl) 57 _ HT2.out.r.h (by with_unfolding_all exact info57) (by with_unfolding_all rfl) (aB_one (Z q) b) ?_))
  refine bodyPost_ret (v := .tuple #[.agg _, .bool _]) (results_cell2 Tryz.results20 _ _ b6 57 _ (0, 0) _ (by rfl) (HT2.out.r.row _).h Tryz.underlying57 rfl info57) rfl ?_
  exact ⟨q, rfl, HT2.out.q.row HT2.out.l6 _, (HTr2.out.row HB6.out _).mono HW3.out⟩
set_option maxHeartbeats 4000000 in
theorem told_ex (x : Rv) (X : Ex) (w : World) (hC : ∀ V, Q w V → Calls Tryz.prog 21 #[x.v] V fun e V' => ∃ q, e = .returned (x.wt q).v ∧ Q V V' ∧ Tr V V' X q) :
    Calls Tryz.prog 18 #[.agg (aL x).toArray] w fun e V' => ∃ q, e = .returned (x.wt q).v ∧ Q w V' ∧ Tr w V' X q := by
  simp only [Rv.v_eq] at hC ⊢
  have HC := hid hC
  have HT := hid (t2_new w 57 40 (aL x).toArray zero23)
  unfold zero23 at HT
  clear hC
  go_enter Tryz.func18, Tryz.ntmps18
  go_upto_region 1 with fail
  generalize (w.alloc _).alloc _ = w1 at HT ⊢
  generalize w.heap.size + 1 = b2 at HT ⊢
  obtain ⟨b1, hb1⟩ : ∃ b1, w.heap.size = b1 := ⟨_, rfl⟩
  have HT9 : Hid (T2 w w1 57 40 (aL x).toArray zero23 b1 b2) := hid (by have := HT.out; rw [hb1] at this; exact this)
  clear HT
  rw [hb1]
  have HB2 : Hid (b2 < w1.heap.size) := hid HT9.out.r.l
  have HW3 : Hid (w.heap.size ≤ w1.heap.size) := hid HT9.out.q.size
  go_wp2_with (first
    | (with_reducible refine wpList_load_mid (by with_unfolding_all rfl) 40 _ (by with_unfolding_all rfl) b1 0 (by with_unfolding_all rfl) x.L _ (HT9.out.a.range 0 x.L (fun j u hu => by rw [Nat.zero_add]; exact aL_get hu)) Tryz.underlying40 (by with_unfolding_all rfl) (by with_unfolding_all exact info40) ?_)
    | (go_at_call 21; refine (HC.out _ HT9.out.q).mono ?_; rintro e w2 ⟨q, rfl, q1, t9⟩; have HT1 := hid (HT9.out.on q1); have HTr := hid t9; clear q1 t9)
    | (with_reducible refine wpList_store_row (by with_unfolding_all rfl) 40 _ _ (by with_unfolding_all rfl) b2 (x.wt q).L.toArray (by with_unfolding_all rfl) (by with_unfolding_all rfl) 40 _ HT1.out.r.h (by with_unfolding_all exact info40) (by with_unfolding_all rfl) (x.wt q).one ?_))
  refine bodyPost_ret (v := .agg _) (results_cell_row Tryz.results18 _ _ b2 40 _ (0, 0) _ (by rfl) (HT1.out.r.row _).h Tryz.underlying40 rfl info40) rfl ?_
  exact ⟨q, rfl, HT1.out.q.row HT1.out.l6 _, (HTr.out.row HB2.out _).mono HW3.out⟩
end Go.Proofs.YthebfhdpofhmpaaGreatDoor
namespace Go.Proofs.YthebfhdpofhmpaaGreatDoor
open Go.RowKit
def zR : Rv := so 0 ⟨#[]⟩ 0 0 0 0 0
def RC (sh : ByteArray) (x : Rv) : Prop := ∃ r c, x = so 1 sh r c 0 0 0 ∧ lnB r = true ∧ lnB c = true
def RL (sh : ByteArray) (y : Rv) : Prop := ∃ k lk la lt, y = so k sh 0 0 lk la lt ∧ (k = 2 ∨ k = 3) ∧ L.mayB lk la lt = true
def mvd (x y : Rv) : Rv := x.mv (decide (y.k = 2)) (L.ix y.lk y.la y.lt (x.at (decide (y.k = 2))))
def stp (same : Bool) (x y : Rv) : Rv × Bool := if same then (if lnB (mvd x y).row && lnB (mvd x y).col then (mvd x y, true) else (zR, false)) else (x, true)
theorem mvd_so (sh : ByteArray) (r c : Int) (y : Rv) : mvd (so 1 sh r c 0 0 0) y = so 1 sh (if y.k = 2 then L.ix y.lk y.la y.lt r else r) (if y.k = 2 then c else L.ix y.lk y.la y.lt c) 0 0 0 := by
  unfold mvd Rv.mv Rv.at
  by_cases h : y.k = 2
  · simp [h, so]
  · simp [h, so]
theorem may_RC {sh : ByteArray} {x : Rv} {V : World} (hx : RC sh x) (hg : Gd V) (hs : sh.size ≤ 100) (hi : idB sh.data.toList = true) : Calls Tryz.prog 22 #[x.v] V fun e V' => e = .returned (.bool true) ∧ Q V V' := by
  obtain ⟨r, c, rfl, h1, h2⟩ := hx
  refine (may_set sh r c V hg (by omega)).mono ?_
  rintro e V' ⟨rfl, q⟩
  exact ⟨by simp [h1, h2, hi], q⟩
theorem may_RL {sh : ByteArray} {y : Rv} {V : World} (hy : RL sh y) (hg : Gd V) (hs : sh.size ≤ 100) (hi : idB sh.data.toList = true) : Calls Tryz.prog 22 #[y.v] V fun e V' => e = .returned (.bool true) ∧ Q V V' := by
  obtain ⟨k, lk, la, lt, rfl, rfl | rfl, h1⟩ := hy
  · refine (may_row sh lk la lt V hg (by omega)).mono ?_
    rintro e V' ⟨rfl, q⟩
    exact ⟨by simp [h1, hi], q⟩
  · refine (may_col sh lk la lt V hg (by omega)).mono ?_
    rintro e V' ⟨rfl, q⟩
    exact ⟨by simp [h1, hi], q⟩
theorem stp_R {same : Bool} {sh sh2 : ByteArray} (x : Rv) (hx : RC sh x) (y : Rv) (hy : RL sh2 y) (h : (stp same x y).2 = true) : RC sh (stp same x y).1 := by
  obtain ⟨r, c, rfl, h1, h2⟩ := hx
  unfold stp at h ⊢
  cases same with
  | false => exact ⟨r, c, rfl, h1, h2⟩
  | true =>
    have e : stp true (so 1 sh r c 0 0 0) y = if (lnB (mvd (so 1 sh r c 0 0 0) y).row && lnB (mvd (so 1 sh r c 0 0 0) y).col) = true then (mvd (so 1 sh r c 0 0 0) y, true) else (zR, false) := rfl
    have h' : (stp true (so 1 sh r c 0 0 0) y).2 = true := h
    show RC sh (stp true (so 1 sh r c 0 0 0) y).1
    rw [e] at h' ⊢
    by_cases hb : (lnB (mvd (so 1 sh r c 0 0 0) y).row && lnB (mvd (so 1 sh r c 0 0 0) y).col) = true
    · rw [if_pos hb]
      rw [Bool.and_eq_true] at hb
      exact ⟨(mvd (so 1 sh r c 0 0 0) y).row, (mvd (so 1 sh r c 0 0 0) y).col, by rw [mvd_so]; rfl, hb.1, hb.2⟩
    · rw [if_neg hb] at h'
      cases h'
theorem beh_cl {same : Bool} {sh sh2 : ByteArray} (hsm : same = true → sh = sh2) (hdf : same = false → sh ≠ sh2) (hs : sh.size ≤ 100) (hi : idB sh.data.toList = true) (x y : Rv) (hx : RC sh x) (hy : RL sh2 y) (p : Bool) (V : World) (hg : Gd V) :
    Calls Tryz.prog 24 #[x.v, y.v, .bool p] V fun e V' => e = .returned (.tuple #[(stp same x y).1.v, .bool (stp same x y).2]) ∧ Q V V' := by
  have hM := fun V' (q : Q V V') => may_RC (V := V') hx (hg.on q) hs hi
  obtain ⟨k, lk, la, lt, hye, hk, hl⟩ := hy
  have hyk : y.k = 2 ∨ y.k = 3 := by rw [hye]; exact hk
  have hysh : y.sh = sh2 := by rw [hye]; rfl
  obtain ⟨r, c, hxe, h1, h2⟩ := hx
  have hxsh : x.sh = sh := by rw [hxe]; rfl
  cases same with
  | false =>
    refine behind_line x y x p true V hyk (fun V' q => shifted_far x y p V' (by rw [hxe]; rfl) (by rw [hxsh, hysh]; exact hdf rfl) (fun V2 q2 => hM V2 (q.trans q2)))
  | true =>
    have hstp : stp true x y = if lnB (mvd x y).row && lnB (mvd x y).col then (mvd x y, true) else (zR, false) := rfl
    have hmv : mvd x y = so 1 sh (mvd x y).row (mvd x y).col 0 0 0 := by rw [hxe, mvd_so]; rfl
    have hm2 : ∀ V', Q V V' → Calls Tryz.prog 22 #[(mvd x y).v] V' fun e V2 => e = .returned (.bool (lnB (mvd x y).row && lnB (mvd x y).col)) ∧ Q V' V2 := fun V' q => by
      rw [hmv]
      refine (may_set sh (mvd x y).row (mvd x y).col V' (hg.on q) (by omega)).mono ?_
      rintro e V2 ⟨rfl, q2⟩
      exact ⟨by simp [hi, so], q2⟩
    have hrows : y.k = if decide (y.k = 2) then 2 else 3 := by
      rcases hyk with h | h <;> simp [h]
    refine behind_line x y (stp true x y).1 p (stp true x y).2 V hyk (fun V' q => (shifted_same x y p (decide (y.k = 2)) (lnB (mvd x y).row && lnB (mvd x y).col) V' (by rw [hxe]; rfl) (by rw [hxe]; rfl) hrows (by rw [hxsh, hysh]; exact hsm rfl) (fun V2 q2 => hm2 V2 (q.trans q2))).mono ?_)
    rintro e V2 ⟨rfl, q2⟩
    refine ⟨?_, q2⟩
    rw [hstp]
    cases hb : (lnB (mvd x y).row && lnB (mvd x y).col) with
    | false => rfl
    | true => rfl
theorem beh_lc {sh sh2 : ByteArray} (x y : Rv) (hx : RC sh x) (hy : RL sh2 y) (p : Bool) (V : World) :
    Calls Tryz.prog 24 #[y.v, x.v, .bool p] V fun e V' => e = .returned (.tuple #[y.v, .bool true]) ∧ Q V V' := by
  obtain ⟨k, lk, la, lt, rfl, hk, hl⟩ := hy
  obtain ⟨r, c, rfl, h1, h2⟩ := hx
  refine behind_keep _ _ p V rfl rfl rfl ?_
  rcases hk with rfl | rfl <;> rfl
theorem cop_RC {sh : ByteArray} {x : Rv} (V : World) (hx : RC sh x) (hs : sh.size ≤ 100) : Calls Tryz.prog 21 #[x.v] V fun e V' => e = .returned x.v ∧ Q V V' := by
  obtain ⟨r, c, rfl, _⟩ := hx
  exact so_copied _ _ _ _ _ _ _ V (by omega)
theorem cop_RL {sh : ByteArray} {x : Rv} (V : World) (hx : RL sh x) (hs : sh.size ≤ 100) : Calls Tryz.prog 21 #[x.v] V fun e V' => e = .returned x.v ∧ Q V V' := by
  obtain ⟨k, lk, la, lt, rfl, _⟩ := hx
  exact so_copied _ _ _ _ _ _ _ V (by omega)
theorem bat_so {same : Bool} {sh sh2 : ByteArray} (hsm : same = true → sh = sh2) (hdf : same = false → sh ≠ sh2) (hs : sh.size ≤ 100) (hs2 : sh2.size ≤ 100) (hi : idB sh.data.toList = true) (hi2 : idB sh2.data.toList = true)
    (xs bs : List Rv) (va vb : Value) (p : Bool) (W0 w : World) (hg : Gd W0) (ha : Sl Rv.L 23 W0 va xs) (hb : Sl Rv.L 23 W0 vb bs) (hq0 : Q W0 w) (hna : xs.length ≤ 1000) (hnb : bs.length ≤ 1000) (hx : ∀ x ∈ xs, RC sh x) (hy : ∀ y ∈ bs, RL sh2 y) :
    Calls Tryz.prog 9 #[va, vb, .bool p] w fun e V' => ∃ u1 u2, e = .returned (.tuple #[u1, u2]) ∧ Sl Rv.L 23 V' u1 (bat (stp same) xs bs) ∧ Sl Rv.L 23 V' u2 bs ∧ Q w V' :=
  batches_any (stp same) (RC sh) xs bs va vb p W0 w ha hb hq0 hna hnb (fun x h V q => may_RC (hx x h) (hg.on q) hs hi) (fun y h V q => may_RL (hy y h) (hg.on q) hs2 hi2) hx (fun x h y h2 h3 => stp_R x h y (hy y h2) h3)
    (fun x h y h2 V q => abehind_any x y _ p _ V (fun V' q' => beh_cl hsm hdf hs hi x y h (hy y h2) p V' (hg.on (q.trans q'))))
    (fun x h y h2 V q => abehind_any y x y (!p) true V (fun V' q' => beh_lc x y h (hy y h2) (!p) V'))
    (fun x h V q => cop_RC V h hs) (fun y h V q => cop_RL V (hy y h) hs2)
theorem op_so {same : Bool} {sh sh2 : ByteArray} (hsm : same = true → sh = sh2) (hdf : same = false → sh ≠ sh2) (hs : sh.size ≤ 100) (hs2 : sh2.size ≤ 100) (hi : idB sh.data.toList = true) (hi2 : idB sh2.data.toList = true)
    (x y : Rv) (p : Bool) (w : World) (hg : Gd w) (hx : RC sh x) (hy : RL sh2 y) (hb : (stp same x y).2 = true) :
    Calls Tryz.prog 11 #[x.v, y.v, .bool p] w fun e V' => e = .returned (.tuple #[(stp same x y).1.v, .bool true]) ∧ Q w V' := by
  have h := op_any x y (stp same x y).1 p (stp same x y).2 w (fun V q => may_RC hx (hg.on q) hs hi) (fun V q => may_RL hy (hg.on q) hs2 hi2) (fun V q => beh_cl hsm hdf hs hi x y hx hy p V (hg.on q)) (fun V q => cop_RC V (stp_R x hx y hy hb) hs)
  rw [hb] at h
  exact h
theorem op_rem {sh : ByteArray} (hs : sh.size ≤ 100) (hi : idB sh.data.toList = true) (x : Rv) (p : Bool) (w : World) (hg : Gd w) (hx : RC sh x) :
    Calls Tryz.prog 11 #[x.v, (so 7 sh 0 0 0 0 0).v, .bool p] w fun e V' => e = .returned (.tuple #[zR.v, .bool false]) ∧ Q w V' :=
  op_any x (so 7 sh 0 0 0 0 0) zR p false w (fun V q => may_RC hx (hg.on q) hs hi) (fun V q => (may_rem sh V (hg.on q) (by omega)).mono fun e V' h => ⟨by rw [h.1, hi]; rfl, h.2⟩)
    (fun V q => by
      have := behind_rem x (so 7 sh 0 0 0 0 0) p V rfl (by obtain ⟨r, c, rfl, _⟩ := hx; rfl)
      exact this)
    (fun V q => so_copied _ _ _ _ _ _ _ V (by decide))
def S0 : ByteArray := ⟨#[99, 48, 110, 48]⟩
def x0 : Rv := so 1 S0 3 0 0 0 0
def y0 : Rv := so 2 S0 0 0 1 1 0
def z0 : Rv := so 1 S0 4 0 0 0 0
theorem id_S0 : idB S0.data.toList = true := by decide
theorem rc_x0 : RC S0 x0 := ⟨3, 0, rfl, by decide, by decide⟩
theorem rl_y0 : RL S0 y0 := ⟨2, 1, 1, 0, rfl, .inl rfl, by decide⟩
theorem stp_0 : stp true x0 y0 = (z0, true) := by
  have h : mvd x0 y0 = z0 := by
    unfold x0
    rw [mvd_so]
    have : L.ix 1 1 0 3 = 4 := by decide
    show so 1 S0 (L.ix 1 1 0 3) 0 0 0 0 = z0
    rw [this]
    rfl
  unfold stp
  rw [h]
  rfl
theorem bat_0 : bat (stp true) [x0] [y0] = [z0] := by
  have h : pas (stp true) x0 [y0] = (z0, true) := by
    rw [pas_cons (by rw [stp_0]), stp_0]
    rfl
  unfold bat
  simp [h]
theorem sl_cell {W : World} {v : Value} {xs : List Rv} (h : Sl Rv.L 23 W v xs) (hl : 0 < xs.length) : ∃ b off cap, v = .slice (some ⟨b, off, none⟩) xs.length cap ∧ xs.length ≤ cap ∧ cap ≤ maxLen ∧ ∀ i (hi : i < xs.length) j u, (xs[i]).L[j]? = some u → W.cell? ⟨b, off + i * 23 + j, none⟩ = some u := by
  obtain ⟨ao, cap, hv, h1, h2, h⟩ := h
  obtain ⟨b, off, ha, hc⟩ := h hl
  subst ha
  exact ⟨b, off, cap, hv, h1, h2, fun i hi j u hu => hc i hi j u hu⟩
theorem sl_one (W : World) (x : Rv) : Sl Rv.L 23 (W.alloc (.cells x.L.toArray 40)) (.slice (some ⟨W.heap.size, 0, none⟩) 1 1) [x] := by
  have := sl_lit23 W [x] (by simp)
  rwa [sl_flat1] at this
theorem fill_x (x : Rv) : Instr.fill (fun i => some (i * 23, 23)) ((Array.range (1 * 23)).map (zero23[· % zero23.size]!)) [(0, .agg x.L.toArray)] = some x.L.toArray := by
  cases x
  unfold Rv.L
  kernel_rfl
theorem wpl_bs23 {w : World} {ops : Array Oper} {rest : List Oper} {o : Oper} {a : Act} {Q : Exit → Act → World → Prop} (x : Rv) (p : Operand) (ho : o.op = .buildSlice 25 1 #[(0, p)]) (hw : Region.wanted o (yielded ops a.tmps) = true) (hp : a.eval p = .agg x.L.toArray)
    (h : wpList Tryz.prog ops Q rest (a.put o.dst (.slice (some ⟨w.heap.size, 0, none⟩) 1 1)) (w.alloc (.cells x.L.toArray 40))) : wpList Tryz.prog ops Q (o :: rest) a w :=
  wpl_bs1 25 40 23 zero23 x.L.toArray Tryz.underlying25 info35x (by decide) _ ho hw (by
    simp only [List.map_toArray, List.map_cons, List.map_nil]
    rw [hp]
    exact fill_x x) h
set_option maxHeartbeats 8000000 in
theorem begun_any (w : World) (hg : Gd w) : Calls Tryz.prog 6 #[] w fun e V' => e = .returned (.bool true) ∧ Q w V' := by
  have HG := hid hg
  have HOp := hid (fun V (q : Q w V) => op_so (same := true) (fun _ => rfl) (fun h => absurd h (by decide)) (by decide) (by decide) id_S0 id_S0 x0 y0 true V (hg.on q) rc_x0 rl_y0 (by rw [stp_0]))
  rw [stp_0] at HOp
  simp only [Rv.v_eq] at HOp
  have HRm := hid (fun V (q : Q w V) => op_rem (sh := S0) (by decide) id_S0 x0 true V (hg.on q) rc_x0)
  simp only [Rv.v_eq] at HRm
  have HBt := hid (fun V va vb (q : Q w V) (ha : Sl Rv.L 23 V va [x0]) (hb : Sl Rv.L 23 V vb [y0]) => bat_so (same := true) (fun _ => rfl) (fun h => absurd h (by decide)) (by decide) (by decide) id_S0 id_S0 [x0] [y0] va vb true V V (hg.on q) ha hb (Q.refl _) (by decide) (by decide) (fun x h => by rw [List.mem_singleton.1 h]; exact rc_x0) (fun y h => by rw [List.mem_singleton.1 h]; exact rl_y0))
  rw [bat_0] at HBt
  clear hg
  go_enter Tryz.func6, Tryz.ntmps6
  go_upto_region 2 with (first
    | (with_reducible refine wpl_buildt 40 _ (by with_unfolding_all rfl) (by with_unfolding_all rfl) x0.L.toArray (by with_unfolding_all kernel_rfl) ?_)
    | (with_reducible refine wpl_layt w 40 zero23 x0.L.toArray _ _ (by with_unfolding_all rfl) (by with_unfolding_all rfl) (by with_unfolding_all rfl) (by with_unfolding_all rfl) (by with_unfolding_all exact info40) (by with_unfolding_all rfl) x0.one (by with_unfolding_all rfl) ?_))
  have H1 := hid (bk_new w 40 x0.L.toArray)
  have Q1 : Hid (Q w (w.alloc (.cells x0.L.toArray 40))) := hid ((Q.refl w).alloc _)
  generalize w.alloc (.cells x0.L.toArray 40) = w1 at H1 Q1 ⊢
  generalize w.heap.size = b1 at H1 ⊢
  go_upto_region 3 with (first
    | (with_reducible refine wpl_buildt 40 _ (by with_unfolding_all rfl) (by with_unfolding_all rfl) y0.L.toArray (by with_unfolding_all kernel_rfl) ?_)
    | (with_reducible refine wpl_layt w1 40 zero23 y0.L.toArray _ _ (by with_unfolding_all rfl) (by with_unfolding_all rfl) (by with_unfolding_all rfl) (by with_unfolding_all rfl) (by with_unfolding_all exact info40) (by with_unfolding_all rfl) y0.one (by with_unfolding_all rfl) ?_))
  have H2 := hid (bk_new w1 40 y0.L.toArray)
  have H12 := hid (H1.out.on ((Q.refl w1).alloc (.cells y0.L.toArray 40)))
  have Q2 : Hid (Q w (w1.alloc (.cells y0.L.toArray 40))) := hid (Q1.out.alloc _)
  clear H1 Q1
  generalize w1.alloc (.cells y0.L.toArray 40) = w2 at H2 H12 Q2 ⊢
  generalize w1.heap.size = b2 at H2 ⊢
  generalize x0 = x at HOp HRm HBt H12 ⊢
  generalize y0 = y at HOp HBt H2 ⊢
  go_upto_region 4 with (first
    | (with_reducible refine wpList_load_row (by with_unfolding_all rfl) 40 _ (by with_unfolding_all rfl) b1 (by with_unfolding_all rfl) 40 x.L.toArray (0, 0) _ H12.out.h Tryz.underlying40 (by with_unfolding_all rfl) (by with_unfolding_all exact info40) ?_)
    | (with_reducible refine wpList_load_row (by with_unfolding_all rfl) 40 _ (by with_unfolding_all rfl) b2 (by with_unfolding_all rfl) 40 y.L.toArray (0, 0) _ H2.out.h Tryz.underlying40 (by with_unfolding_all rfl) (by with_unfolding_all exact info40) ?_)
    | (go_at_call 11; with_reducible refine (HOp.out w2 Q2.out).mono ?_; rintro e9 w3 ⟨rfl, q9⟩; have Q3 := hid (Q2.out.trans q9); have H13 := hid (H12.out.on q9); have H23 := hid (H2.out.on q9); clear q9)
    | (with_reducible refine wpl_layt w3 40 zero23 z0.L.toArray _ _ (by with_unfolding_all rfl) (by with_unfolding_all rfl) (by with_unfolding_all rfl) (by with_unfolding_all rfl) (by with_unfolding_all exact info40) (by with_unfolding_all rfl) z0.one (by with_unfolding_all rfl) ?_))
  have H14 := hid (H13.out.on ((Q.refl w3).alloc (.cells z0.L.toArray 40)))
  have H24 := hid (H23.out.on ((Q.refl w3).alloc (.cells z0.L.toArray 40)))
  have H3 := hid (bk_new w3 40 z0.L.toArray)
  have Q4 : Hid (Q w (w3.alloc (.cells z0.L.toArray 40))) := hid (Q3.out.alloc _)
  clear H12 H13 H2 H23 Q2 Q3 HOp
  generalize w3.alloc (.cells z0.L.toArray 40) = w4 at H14 H24 H3 Q4 ⊢
  generalize w3.heap.size = b3 at H3 ⊢
  go_upto_region 5 with (first
    | (with_reducible refine wpList_load_row (by with_unfolding_all rfl) 40 _ (by with_unfolding_all rfl) b1 (by with_unfolding_all rfl) 40 x.L.toArray (0, 0) _ H14.out.h Tryz.underlying40 (by with_unfolding_all rfl) (by with_unfolding_all exact info40) ?_)
    | (with_reducible refine wpl_buildt 40 _ (by with_unfolding_all rfl) (by with_unfolding_all rfl) (so 7 S0 0 0 0 0 0).L.toArray (by with_unfolding_all kernel_rfl) ?_)
    | (go_at_call 11; with_reducible refine (HRm.out w4 Q4.out).mono ?_; rintro e9 w5 ⟨rfl, q9⟩; have Q5 := hid (Q4.out.trans q9); have H15 := hid (H14.out.on q9); have H25 := hid (H24.out.on q9); have H35 := hid (H3.out.on q9); clear q9)
    | (with_reducible refine wpl_layt w5 40 zero23 zR.L.toArray _ _ (by with_unfolding_all rfl) (by with_unfolding_all rfl) (by with_unfolding_all rfl) (by with_unfolding_all rfl) (by with_unfolding_all exact info40) (by with_unfolding_all rfl) zR.one (by with_unfolding_all rfl) ?_))
  have H16 := hid (H15.out.on ((Q.refl w5).alloc (.cells zR.L.toArray 40)))
  have H26 := hid (H25.out.on ((Q.refl w5).alloc (.cells zR.L.toArray 40)))
  have H36 := hid (H35.out.on ((Q.refl w5).alloc (.cells zR.L.toArray 40)))
  have Q6 : Hid (Q w (w5.alloc (.cells zR.L.toArray 40))) := hid (Q5.out.alloc _)
  clear H14 H15 H24 H25 H3 H35 Q4 Q5 HRm
  generalize w5.alloc (.cells zR.L.toArray 40) = w6 at H16 H26 H36 Q6 ⊢
  generalize w5.heap.size = b5
  have HS1 := hid (sl_one w6 x)
  have H27 := hid (H26.out.on ((Q.refl w6).alloc (.cells x.L.toArray 40)))
  have HS2 := hid (sl_one (w6.alloc (.cells x.L.toArray 40)) y)
  rw [show (w6.alloc (.cells x.L.toArray 40)).heap.size = w6.heap.size + 1 by simp] at HS2
  have HS12 := hid (HS1.out.on ((Q.refl _).alloc (.cells y.L.toArray 40)))
  have Q8 : Hid (Q w ((w6.alloc (.cells x.L.toArray 40)).alloc (.cells y.L.toArray 40))) := hid ((Q6.out.alloc _).alloc _)
  have H38 := hid (H36.out.on (((Q.refl w6).alloc (.cells x.L.toArray 40)).alloc (.cells y.L.toArray 40)))
  go_upto_region 6 with (first
    | (with_reducible refine wpList_load_row (by with_unfolding_all rfl) 40 _ (by with_unfolding_all rfl) b1 (by with_unfolding_all rfl) 40 x.L.toArray (0, 0) _ H16.out.h Tryz.underlying40 (by with_unfolding_all rfl) (by with_unfolding_all exact info40) ?_)
    | (with_reducible refine wpList_load_row (by with_unfolding_all rfl) 40 _ (by with_unfolding_all rfl) b2 (by with_unfolding_all rfl) 40 y.L.toArray (0, 0) _ H27.out.h Tryz.underlying40 (by with_unfolding_all rfl) (by with_unfolding_all exact info40) ?_)
    | (with_reducible refine wpl_bs23 x _ (by with_unfolding_all rfl) (by with_unfolding_all rfl) (by with_unfolding_all rfl) ?_)
    | (with_reducible refine wpl_bs23 y _ (by with_unfolding_all rfl) (by with_unfolding_all rfl) (by with_unfolding_all rfl) ?_)
    | (go_at_call 9; with_reducible refine (HBt.out ((w6.alloc (.cells x.L.toArray 40)).alloc (.cells y.L.toArray 40)) (.slice (some ⟨w6.heap.size, 0, none⟩) 1 1) (.slice (some ⟨w6.heap.size + 1, 0, none⟩) 1 1) Q8.out HS12.out HS2.out).mono ?_; rintro e9 w9 ⟨u1, u2, rfl, k1, k2, q9⟩; have HU1 := hid k1; have HU2 := hid k2; have Q9 := hid (Q8.out.trans q9); have H39 := hid (H38.out.on q9); clear k1 k2 q9))
  obtain ⟨g1, o1, c1, rfl, _, _, hc1⟩ := sl_cell HU1.out (by decide)
  have cz := hc1 0 (by decide) 2 (.int .i64 4) rfl
  simp only [Nat.zero_mul, Nat.add_zero] at cz
  obtain ⟨a2, c2, rfl, _, _⟩ := HU2.out.len
  simp only [List.length_singleton]
  have d3 := H39.out.c 2 (.int .i64 4) rfl
  clear HU1 HU2 hc1 HS1 HS2 HS12 H16 H26 H27 H36 H38 HBt HG
  go_wp2_with fail
  go_ret
  exact ⟨rfl, Q9.out⟩
set_option maxHeartbeats 8000000 in
theorem each_told1 (v : Value) (z : Rv) (X : Ex) (W0 w : World) (h : Sl aL 24 W0 v [z]) (ho : ∀ V, Q W0 V → Calls Tryz.prog 18 #[.agg (aL z).toArray] V fun e V' => ∃ q, e = .returned (z.wt q).v ∧ Q V V' ∧ Tr V V' X q) (hq0 : Q W0 w) :
    Calls Tryz.prog 17 #[v, .func (.func 18) #[] #[]] w fun e V' => ∃ u q, e = .returned u ∧ Sl Rv.L 23 V' u [z.wt q] ∧ Q w V' ∧ Tr w V' X q := by
  obtain ⟨i0, HI⟩ := inf_of info35y
  have HI := hid HI
  have HS := hid (h.on hq0)
  have HO := hid ho
  have HQ0 := hid hq0
  obtain ⟨ao, cap, rfl, h1, h2⟩ := h.len
  clear h ho hq0
  have h3 : [z].length ≤ 9223372036854775807 := Nat.le_trans h1 (by unfold maxLen at h2; omega)
  go_enter Tryz.func17, Tryz.ntmps17
  go_wp2_with fail
  go_loopw [5, 10] (fun o s W => ∃ (n : Nat), n ≤ 1 ∧ s = .int .i64 n ∧ Hid (n = 0 → o = .slice none 0 0) ∧ Hid (n = 1 → ∃ q, Own Rv.L 40 23 w.heap.size W o [z.wt q] ∧ Tr w W X q) ∧ Hid (Q w W)) (fun _ s _ => 1 - (intOf s).toNat)
  case atStart => exact ⟨0, Nat.zero_le _, rfl, hid (fun _ => rfl), hid (fun h => absurd h (by decide)), hid (Q.refl _)⟩
  case round =>
    obtain ⟨n, hn, rfl, HO0, HO1, HQ⟩ := hrel
    simp only [List.length_singleton] at HS ⊢
    by_cases hlt : n < 1
    · obtain rfl : n = 0 := by omega
      obtain rfl := HO0.out rfl
      obtain ⟨g, off, cap', e, _, _, hcc⟩ := (HS.out.on HQ.out).at (i := 0) (by simp)
      simp only [List.length_singleton] at e
      cases e
      have HRg : Hid (wr.rangeAt g (off + 0 * 24) (aL z)) := hid (fun j u hu => hcc j u hu)
      clear hcc
      simp only [Nat.zero_mul, Nat.add_zero] at HRg
      have HB := hid (bk_new wr 57 (aL z).toArray)
      have HX2 := hid (HO.out (wr.alloc (.cells (aL z).toArray 57)) (HQ0.out.trans (HQ.out.trans ((Q.refl _).alloc _))))
      clear HO0 HO1
      go_wp2_with (first
        | (with_reducible refine wpList_load_mid (by with_unfolding_all rfl) 57 _ (by with_unfolding_all rfl) g off (by with_unfolding_all rfl) (aL z) _ HRg.out Tryz.underlying57 (by with_unfolding_all rfl) (by with_unfolding_all exact info57) ?_)
        | (with_reducible refine wpl_layt wr 57 zero24 (aL z).toArray _ _ (by with_unfolding_all rfl) (by with_unfolding_all rfl) (by with_unfolding_all rfl) (by with_unfolding_all rfl) (by with_unfolding_all exact info57) (by with_unfolding_all rfl) (aL_one z) (by with_unfolding_all rfl) ?_)
        | (with_reducible refine wpList_load_row (by with_unfolding_all rfl) 57 _ (by with_unfolding_all rfl) wr.heap.size (by with_unfolding_all rfl) 57 (aL z).toArray (0, 0) _ HB.out.h Tryz.underlying57 (by with_unfolding_all rfl) (by with_unfolding_all exact info57) ?_)
        | (go_at_call 18; refine HX2.out.mono ?_; rintro e9 V ⟨q, rfl, q9, t9⟩; have QV := hid q9; have HTr := hid t9; clear q9 t9)
        | (with_reducible refine wpl_bs23 (z.wt q) _ (by with_unfolding_all rfl) (by with_unfolding_all rfl) (by with_unfolding_all rfl) ?_)
        | (at_builtin; refine wpList_append_lies (w := V.alloc (.cells (z.wt q).L.toArray 40)) rfl _ _ 25 rfl w.heap.size 40 i0 (.agg zero23) 23 264 Tryz.underlying25 HI.out.1 HI.out.2.1 HI.out.2.2.1 HI.out.2.2.2 rfl (by decide) _ 0 [] rfl (World.ownsRow_nil _ _ _ _) _ 1 1 (z.wt q).L rfl rfl ?c1 ?c2 (by decide) ?c3 ?c4 ?c5 (V.heap.size + 1) ?c6 ?_))
      case c1 => exact news_new V (z.wt q).L 40
      case c2 => exact (z.wt q).ones
      case c3 => decide
      case c4 => decide
      case c5 => have := HQ.out.size; have := QV.out.size; simp at this ⊢; omega
      case c6 => simp
      · intro g3 cap3 w3 hown3 hgrow hlies hlt3
        have HO3 : Hid (Own Rv.L 40 23 w.heap.size w3 (.slice (some ⟨g3, 0, none⟩) 1 cap3) [z.wt q]) := hid (by
          unfold Own
          have h9 := hown3
          simpa [flat] using h9)
        have HQa : Hid (Q w (V.alloc (.cells (z.wt q).L.toArray 40))) := hid (((HQ.out.trans ((Q.refl _).alloc _)).trans QV.out).alloc _)
        have HQ3 : Hid (Q w w3) := hid (Below.grown HQa.out hgrow (by have := HQa.out.size; omega) (fun j e => by cases e))
        have HT3 : Hid (Tr w w3 X q) := hid (((HTr.out.on ((Q.refl V).alloc (.cells (z.wt q).L.toArray 40))).blk hgrow.size (fun i _ hi => hgrow.block i hi (fun e => by cases e))).mono (by have := HQ.out.size; simp; omega))
        clear hown3 hgrow hlies hlt3 HQ QV HX2 HRg HB HQa HTr
        go_wp2_with fail
        go_roundw
        case rel => exact ⟨1, by omega, by go_num, hid (fun h => absurd h (by decide)), hid (fun _ => ⟨q, HO3.out, HT3.out⟩), HQ3⟩
        case measure => simp [intOf]
    · obtain rfl : n = 1 := by omega
      obtain ⟨q, h8, h9⟩ := HO1.out rfl
      have H8 := hid (h8.sl Rv.len (by decide))
      have H9 := hid h9
      clear h8 h9 HO1 HO0
      go_wp2_with fail
      go_ret
      exact ⟨_, q, rfl, H8.out, HQ.out, H9.out⟩
abbrev L3 := Int × Int × Int
def le (x : L3) : List Value := [.int .i64 x.1, .int .i64 x.2.1, .int .i64 x.2.2]
def be (b : Bool) : List Value := [.bool b]
def lop (ro : Bool) (l : L3) : Rv := so (if ro then 2 else 3) S0 0 0 l.1 l.2.1 l.2.2
theorem lop_rl (ro : Bool) (l : L3) (h : L.mayB l.1 l.2.1 l.2.2 = true) : RL S0 (lop ro l) := ⟨_, _, _, _, rfl, by cases ro <;> simp, h⟩
theorem sl_len2 {W : World} {v : Value} {xs : List Rv} (h : Sl Rv.L 23 W v xs) : ∃ ao c, v = .slice ao xs.length c := by
  obtain ⟨ao, c, e, _⟩ := h
  exact ⟨ao, c, e⟩
theorem le_len (x : L3) : (le x).length = 3 := rfl
theorem ref_may (l : L3) (V : World) : Calls Tryz.prog 7 #[.agg (le l).toArray] V fun e V' => e = .returned (.bool (L.mayB l.1 l.2.1 l.2.2)) ∧ Q V V' :=
  (L.rmay_any l.1 l.2.1 l.2.2 V).mono fun e V' h => ⟨h.1, h.2 ▸ (Q.refl _).alloc _⟩
theorem ref_ix (l : L3) (i : Int) (V : World) : Calls Tryz.prog 8 #[.agg (le l).toArray, .int .i64 i] V fun e V' => e = .returned (.int .i64 (L.ix l.1 l.2.1 l.2.2 i)) ∧ Q V V' := L.rindex_any l.1 l.2.1 l.2.2 i V
end Go.Proofs.YthebfhdpofhmpaaGreatDoor
