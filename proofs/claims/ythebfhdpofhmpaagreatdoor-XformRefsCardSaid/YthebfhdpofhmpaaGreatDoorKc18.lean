/- Batches of one operation behind a list, walked: what is answ. -/
import Derived.Test.YthebfhdpofhmpaaGreatDoorKc16
import Derived.Test.YthebfhdpofhmpaaGreatDoorKc17
set_option linter.unusedVariables false
set_option linter.unusedSimpArgs false
set_option maxRecDepth 100000
set_option maxHeartbeats 8000000
namespace Go.Proofs.YthebfhdpofhmpaaGreatDoor
open Go.RowKit
theorem pass_exa {α : Type} (G : (Nat → Prop) → World → α → Rv → Prop) (hG : GK G) (st : α → Rv → Option α) (a : α) (x : Rv) (ys : List Rv) (v : Value) (B : Nat) (p : Bool) (w : World) (hO : Own aL 57 24 B w v ys) (hn : ys.length ≤ 1000) (hx : G (fun i => i < w.heap.size) w a x)
    (hB : ∀ a x P V, Q w V → G P V a x → ∀ y ∈ ys, Calls Tryz.prog 20 #[.agg (aL x).toArray, .agg (aL y).toArray, .bool p] V fun e V' => ∃ z, e = .returned (.tuple #[.agg (aB z (st a y).isSome).toArray, .bool (st a y).isSome]) ∧ Q V V' ∧ ∀ a', st a y = some a' → G (fun i => V.heap.size ≤ i) V' a' z)
    (hK : ∀ a x P V, Q w V → G P V a x → ∀ y ∈ ys, Calls Tryz.prog 20 #[.agg (aL y).toArray, .agg (aL x).toArray, .bool (!p)] V fun e V' => e = .returned (.tuple #[.agg (aL y).toArray, .bool true]) ∧ Q V V') :
    Calls Tryz.prog 16 #[.agg (aL x).toArray, v, .bool p] w fun e V' => ∃ z, e = .returned (.tuple #[.agg (pasW z (pasO st a ys)), v, .bool (pasO st a ys).isSome]) ∧ Q w V' ∧ ∀ a', pasO st a ys = some a' → ∃ P, G P V' a' z := by
  have h0 := hO
  obtain ⟨_, h⟩ := hO
  rcases h with ⟨rfl, h⟩ | ⟨g, cap, cur, rfl, _⟩
  · obtain rfl := List.eq_nil_of_length_eq_zero h
    refine (pass_nil x p w).mono ?_
    rintro e V' ⟨rfl, q⟩
    exact ⟨x, rfl, q, fun a' h => by cases h; exact ⟨_, hG.kq hx q⟩⟩
  · refine (pass_ex G hG st a x ys g cap B p w h0 hn hx hB hK).mono ?_
    rintro e V' ⟨z, rfl, q, k⟩
    exact ⟨z, rfl, q, fun a' h => ⟨_, k a' h⟩⟩
set_option maxHeartbeats 16000000 in
theorem batches_ex {α : Type} (G : (Nat → Prop) → World → α → Rv → Prop) (hG : GK G) (T : α → Ex) (st : α → Rv → Option α) (a0 : α) (x : Rv) (bs : List Rv) (va vb : Value) (p : Bool) (W0 w : World) (ha : Sl Rv.L 23 W0 va [x]) (hb : Sl Rv.L 23 W0 vb bs) (hq0 : Q W0 w) (hnb : bs.length ≤ 1000)
    (hmx : ∀ V, Q W0 V → Calls Tryz.prog 22 #[x.v] V fun e V' => e = .returned (.bool true) ∧ Q V V')
    (hmb : ∀ x ∈ bs, ∀ V, Q W0 V → Calls Tryz.prog 22 #[x.v] V fun e V' => e = .returned (.bool true) ∧ Q V V')
    (hx : G (fun i => i < W0.heap.size) W0 a0 x)
    (hB : ∀ a x P V, Q W0 V → G P V a x → ∀ y ∈ bs, Calls Tryz.prog 20 #[.agg (aL x).toArray, .agg (aL y).toArray, .bool p] V fun e V' => ∃ z, e = .returned (.tuple #[.agg (aB z (st a y).isSome).toArray, .bool (st a y).isSome]) ∧ Q V V' ∧ ∀ a', st a y = some a' → G (fun i => V.heap.size ≤ i) V' a' z)
    (hK : ∀ a x P V, Q W0 V → G P V a x → ∀ y ∈ bs, Calls Tryz.prog 20 #[.agg (aL y).toArray, .agg (aL x).toArray, .bool (!p)] V fun e V' => e = .returned (.tuple #[.agg (aL y).toArray, .bool true]) ∧ Q V V')
    (hC : ∀ a z P V, Q W0 V → G P V a z → Calls Tryz.prog 18 #[.agg (aL z).toArray] V fun e V' => ∃ q, e = .returned (z.wt q).v ∧ Q V V' ∧ Tr V V' (T a) q)
    (hC2 : ∀ x ∈ bs, ∀ V, Q W0 V → Calls Tryz.prog 21 #[x.v] V fun e V' => e = .returned x.v ∧ Q V V') :
    Calls Tryz.prog 9 #[va, vb, .bool p] w fun e V' => ∃ u1 u2, e = .returned (.tuple #[u1, u2]) ∧ Sl Rv.L 23 V' u2 bs ∧ Q w V' ∧ (pasO st a0 bs = none → Sl Rv.L 23 V' u1 []) ∧ ∀ a', pasO st a0 bs = some a' → ∃ z q, (∃ P V, G P V a' z) ∧ Sl Rv.L 23 V' u1 [z.wt q] ∧ Tr w V' (T a') q := by
  obtain ⟨i0, HI⟩ := inf_of info57y
  have HI := hid HI
  have HA := hid (ha.on hq0)
  have HE := hid (fun V (q : Q W0 V) => each_ask vb bs W0 V hb (fun x hx V' q' => ask_any x V' (fun V2 q2 => hmb x hx V2 (q'.trans q2))) q hnb)
  have HAx := hid (fun V (q : Q W0 V) => ask_any x V (fun V2 q2 => hmx V2 (q.trans q2)))
  have HGK := hid hG
  have HP := hid (fun V v B (q : Q W0 V) (hO : Own aL 57 24 B V v bs) => pass_exa G hG st a0 x bs v B p V hO hnb (hG.mo _ _ _ _ _ (hG.kq hx q) (fun i hi _ => Nat.lt_of_lt_of_le hi q.size)) (fun a x P V' q' => hB a x P V' (q.trans q')) (fun a x P V' q' => hK a x P V' (q.trans q')))
  have HT1 := hid (fun a z P V v (q : Q W0 V) (k : G P V a z) (h : Sl aL 24 V v [z]) => each_told1 v z (T a) V V h (fun V2 q2 => hC a z P V2 (q.trans q2) (hG.kq k q2)) (Q.refl _))
  have HT0 := hid (fun V v (h : Sl aL 24 V v []) => each_told v [] V V h (fun x h => absurd h (by simp)) (Q.refl _) (by decide))
  have HT2 := hid (fun V v (q : Q W0 V) (h : Sl aL 24 V v bs) => each_told v bs V V h (fun x hx V' q' => told_any x V' (fun V2 q2 => hC2 x hx V2 (q.trans (q'.trans q2)))) (Q.refl _) hnb)
  have HQ0 := hid hq0
  obtain ⟨ao, cap, rfl, h1, h2⟩ := ha.len
  simp only [List.length_singleton] at h1 HA ⊢
  clear ha hb hq0 hnb hmx hmb hx hB hK hC hC2 hG
  generalize hP : pasO st a0 bs = PO at HP
  clear hP
  go_enter Tryz.func9, Tryz.ntmps9
  go_wp2_with (go_at_call 14; refine (HE.out _ HQ0.out).mono ?_; rintro e9 w2 ⟨vr, rfl, hO9, q9⟩; have HO := hid hO9; have Q2 := hid q9; clear hO9 q9)
  go_loopw [8, 9, 19] (fun o r s W => ∃ (n : Nat), n ≤ 1 ∧ s = .int .i64 n ∧ r = vr ∧ Hid (n = 0 → o = .slice none 0 0) ∧ Hid (n = 1 → (PO = none → o = .slice none 0 0) ∧ ∀ a', PO = some a' → ∃ z P, Own aL 57 24 w2.heap.size W o [z] ∧ G P W a' z) ∧ Hid (Q w2 W)) (fun _ _ s _ => 1 - (intOf s).toNat)
  case atStart => exact ⟨0, Nat.zero_le _, rfl, rfl, hid (fun _ => rfl), hid (fun h => absurd h (by decide)), hid (Q.refl _)⟩
  case round =>
    obtain ⟨n, hn, rfl, rfl, HO0, HO1, HQ⟩ := hrel
    have HOr := hid (HO.out.on HQ.out)
    by_cases hlt : n < 1
    · obtain rfl : n = 0 := by omega
      obtain rfl := HO0.out rfl
      obtain ⟨g, off, cap', e, _, _, hcc⟩ := (HA.out.on (Q2.out.trans HQ.out)).at (i := 0) (by simp)
      simp only [List.length_singleton] at e
      cases e
      have HRg : Hid (wr.rangeAt g (off + 0 * 23) x.L) := hid (fun j u hu => hcc j u hu)
      clear hcc
      simp only [Nat.zero_mul, Nat.add_zero] at HRg
      clear HO0 HO1
      go_upto_region 6 with (first
        | (with_reducible refine wpList_load_mid (by with_unfolding_all rfl) 40 _ (by with_unfolding_all rfl) g off (by with_unfolding_all rfl) x.L _ HRg.out Tryz.underlying40 (by with_unfolding_all rfl) (by with_unfolding_all exact info40) ?_)
        | (with_reducible refine wpl_layt wr 40 zero23 x.L.toArray _ _ (by with_unfolding_all rfl) (by with_unfolding_all rfl) (by with_unfolding_all rfl) (by with_unfolding_all rfl) (by with_unfolding_all exact info40) (by with_unfolding_all rfl) x.one (by with_unfolding_all rfl) ?_))
      have H11 := hid (bk_new wr 40 x.L.toArray)
      have HQ1 : Hid (Q w2 (wr.alloc (.cells x.L.toArray 40))) := hid (HQ.out.alloc _)
      have HOr1 := hid (HOr.out.alloc (.cells x.L.toArray 40))
      clear HQ HOr HRg
      generalize wr.alloc (.cells x.L.toArray 40) = w3 at H11 HQ1 HOr1 ⊢
      generalize wr.heap.size = b11 at H11 ⊢
      cases PO with
      | none =>
        go_upto_region 7 with (first
          | (with_reducible refine wpList_load_row (by with_unfolding_all rfl) 40 _ (by with_unfolding_all rfl) b11 (by with_unfolding_all rfl) 40 x.L.toArray (0, 0) _ H11.out.h Tryz.underlying40 (by with_unfolding_all rfl) (by with_unfolding_all exact info40) ?_)
          | (go_at_call 15; refine (HAx.out _ (HQ0.out.trans (Q2.out.trans HQ1.out))).mono ?_; rintro e9 w4 ⟨rfl, q9⟩; have HQ3 := hid (HQ1.out.trans q9); have HOr3 := hid (HOr1.out.on q9); clear q9)
          | (go_at_call 16; refine (HP.out _ _ _ (HQ0.out.trans (Q2.out.trans HQ3.out)) HOr3.out).mono ?_; rintro e9 w5 ⟨z, rfl, q9, t9⟩; have HQ4 := hid (HQ3.out.trans q9); clear q9 t9)
          | (with_reducible refine wpl_layt w5 57 zero24 zero24 _ _ (by with_unfolding_all rfl) (by with_unfolding_all rfl) (by with_unfolding_all rfl) (by with_unfolding_all rfl) (by with_unfolding_all exact info57) (by with_unfolding_all rfl) zero24_one (by with_unfolding_all rfl) ?_))
        have HQ5 : Hid (Q w2 (w5.alloc (.cells zero24 57))) := hid (HQ4.out.alloc _)
        clear HQ1 HQ3 HQ4 HOr1 HOr3 H11
        generalize w5.alloc (.cells zero24 57) = w6 at HQ5 ⊢
        go_wp2_with fail
        go_roundw
        case rel => exact ⟨1, by omega, by go_num, rfl, hid (fun h => absurd h (by decide)), hid (fun _ => ⟨fun _ => rfl, fun a' h => by cases h⟩), HQ5⟩
        case measure => simp [intOf]
      | some a' =>
        go_upto_region 7 with (first
          | (with_reducible refine wpList_load_row (by with_unfolding_all rfl) 40 _ (by with_unfolding_all rfl) b11 (by with_unfolding_all rfl) 40 x.L.toArray (0, 0) _ H11.out.h Tryz.underlying40 (by with_unfolding_all rfl) (by with_unfolding_all exact info40) ?_)
          | (go_at_call 15; refine (HAx.out _ (HQ0.out.trans (Q2.out.trans HQ1.out))).mono ?_; rintro e9 w4 ⟨rfl, q9⟩; have HQ3 := hid (HQ1.out.trans q9); have HOr3 := hid (HOr1.out.on q9); clear q9)
          | (go_at_call 16; refine (HP.out _ _ _ (HQ0.out.trans (Q2.out.trans HQ3.out)) HOr3.out).mono ?_; rintro e9 w5 ⟨z, rfl, q9, t9⟩; have HQ4 := hid (HQ3.out.trans q9); have HZ4 := hid (t9 a' rfl); clear q9 t9)
          | (with_reducible refine wpl_layt w5 57 zero24 (aL z).toArray _ _ (by with_unfolding_all rfl) (by with_unfolding_all rfl) (by with_unfolding_all rfl) (by with_unfolding_all rfl) (by with_unfolding_all exact info57) (by with_unfolding_all rfl) (aL_one z) (by with_unfolding_all rfl) ?_))
        have HQ5 : Hid (Q w2 (w5.alloc (.cells (aL z).toArray 57))) := hid (HQ4.out.alloc _)
        have HZ5 : Hid (∃ P, G P (w5.alloc (.cells (aL z).toArray 57)) a' z) := hid (by obtain ⟨P, h⟩ := HZ4.out; exact ⟨P, HGK.out.kq h ((Q.refl _).alloc _)⟩)
        have H12 := hid (bk_new w5 57 (aL z).toArray)
        clear HQ1 HQ3 HQ4 HOr1 HOr3 H11 HZ4
        generalize w5.alloc (.cells (aL z).toArray 57) = w6 at HQ5 HZ5 H12 ⊢
        generalize w5.heap.size = b12 at H12 ⊢
        go_wp2_with (first
          | (with_reducible refine wpList_load_row (by with_unfolding_all rfl) 57 _ (by with_unfolding_all rfl) b12 (by with_unfolding_all rfl) 57 (aL z).toArray (0, 0) _ H12.out.h Tryz.underlying57 (by with_unfolding_all rfl) (by with_unfolding_all exact info57) ?_)
          | (with_reducible refine wpl_bs1 54 57 24 zero24 (aL z).toArray Tryz.underlying54 info57x (by decide) _ (by with_unfolding_all rfl) (by with_unfolding_all rfl) (by with_unfolding_all kernel_rfl) ?_)
          | (at_builtin; refine wpList_append_lies (w := w6.alloc (.cells (aL z).toArray 57)) rfl _ _ 54 rfl w2.heap.size 57 i0 (.agg zero24) 24 272 Tryz.underlying54 HI.out.1 HI.out.2.1 HI.out.2.2.1 HI.out.2.2.2 rfl (by decide) _ 0 [] rfl (World.ownsRow_nil _ _ _ _) _ 1 1 (aL z) rfl rfl ?c1 ?c2 (by decide) ?c3 ?c4 ?c5 (w6.heap.size + 1) ?c6 ?_))
        case c1 => exact news_new w6 (aL z) 57
        case c2 => exact aL_ones z
        case c3 => decide
        case c4 => decide
        case c5 => have := HQ5.out.size; simp at this ⊢; omega
        case c6 => simp
        · intro g3 cap3 w7 hown3 hgrow hlies hlt3
          have HO3 : Hid (Own aL 57 24 w2.heap.size w7 (.slice (some ⟨g3, 0, none⟩) 1 cap3) [z]) := hid (by
            unfold Own
            have h9 := hown3
            simpa [flat] using h9)
          have HQ7 : Hid (Q w2 w7) := hid (Below.grown (HQ5.out.alloc _) hgrow (by have := HQ5.out.size; simp at this ⊢; omega) (fun j e => by cases e))
          have HZ7 : Hid (∃ P, G P w7 a' z) := hid (by
            obtain ⟨P, h⟩ := HZ5.out
            exact ⟨P, HGK.out.kp _ _ _ _ _ (HGK.out.kq h ((Q.refl w6).alloc (.cells (aL z).toArray 57))) hgrow.size (fun i _ hi => hgrow.block i hi (fun e => by cases e))⟩)
          clear hown3 hgrow hlies hlt3 HQ5 H12 HZ5
          go_wp2_with fail
          go_roundw
          case rel => exact ⟨1, by omega, by go_num, rfl, hid (fun h => absurd h (by decide)), hid (fun _ => ⟨fun h => by (cases h), fun a2 h => by (cases h; obtain ⟨P, h9⟩ := HZ7.out; exact ⟨z, P, HO3.out, h9⟩)⟩), HQ7⟩
          case measure => simp [intOf]
    · obtain rfl : n = 1 := by omega
      cases PO with
      | none =>
        have ho := (HO1.out rfl).1 rfl
        subst ho
        go_wp2_with (first
          | (go_at_call 17; with_reducible refine (HT0.out wr (.slice none 0 0) (sl_nil wr)).mono ?_; rintro e9 w8 ⟨u1, rfl, hO9, q9⟩; have HU1 := hid (hO9.sl Rv.len (by decide)); have Q8 := hid q9; clear hO9 q9)
          | (go_at_call 17; with_reducible refine (HT2.out w8 u9 (HQ0.out.trans (Q2.out.trans (HQ.out.trans Q8.out))) ((HOr.out.on Q8.out).sl aL_len (by decide))).mono ?_; rintro e9 w9 ⟨u2, rfl, hO9, q9⟩; have HU2 := hid (hO9.sl Rv.len (by decide)); have Q9 := hid q9; clear hO9 q9))
        go_ret2
        exact ⟨u1, u2, rfl, HU2.out, Q2.out.trans (HQ.out.trans (Q8.out.trans Q9.out)), HU1.out.on Q9.out⟩
      | some a' =>
        obtain ⟨z, P, ho, hz⟩ := (HO1.out rfl).2 a' rfl
        have HOz := hid (ho.sl aL_len (by decide))
        have HZ := hid hz
        clear ho hz HO1 HO0
        go_wp2_with (first
          | (go_at_call 17; with_reducible refine (HT1.out a' z P wr u8 (HQ0.out.trans (Q2.out.trans HQ.out)) HZ.out HOz.out).mono ?_; rintro e9 w8 ⟨u1, q, rfl, hO9, q9, t9⟩; have HU1 := hid hO9; have Q8 := hid q9; have HTr := hid t9; clear hO9 q9 t9)
          | (go_at_call 17; with_reducible refine (HT2.out w8 u9 (HQ0.out.trans (Q2.out.trans (HQ.out.trans Q8.out))) ((HOr.out.on Q8.out).sl aL_len (by decide))).mono ?_; rintro e9 w9 ⟨u2, rfl, hO9, q9⟩; have HU2 := hid (hO9.sl Rv.len (by decide)); have Q9 := hid q9; clear hO9 q9))
        go_ret2
        exact ⟨u1, u2, rfl, HU2.out, Q2.out.trans (HQ.out.trans (Q8.out.trans Q9.out)), (fun h => by cases h), fun a2 h => by
          cases h
          exact ⟨z, q, ⟨P, wr, HZ.out⟩, HU1.out.on Q9.out, (HTr.out.on Q9.out).mono (Q2.out.trans HQ.out).size⟩⟩
set_option maxHeartbeats 2000000 in
theorem step_end (B s mb : Nat) (wv v : Value) (es : List (Pk × S3)) (L : List Od) (b o n : Nat) (ra : Option Addr) (rc : Nat) (t : Int) (W : World) (h : ScA W B s mb wv v es (L ++ [((b, o, n), .slice ra 0 rc, t)])) (t0 : Int) (hk : getS es (b, o, n) = some (t0, false, false)) (hp : Pl W b) (hB : b < B) (hl : L.length ≤ 100000) (ht : 0 ≤ t) (hy : ∀ M y, L = M ++ [y] → 0 ≤ y.2.2 ∧ y.2.2 + t ≤ 2147483648) :
    Calls Tryz.prog 105 #[.pointer (some ⟨s, 0, none⟩)] W fun e W' => (∃ u, e = .returned u) ∧ Qp (fun i => B ≤ i) W W' ∧ ∃ v', (L = [] ∧ ScA W' B s mb wv v' (putS es (b, o, n) (t, true, false)) []) ∨ ∃ M y, L = M ++ [y] ∧ ScA W' B s mb wv v' (putS es (b, o, n) (t, true, false)) (M ++ [(y.1, y.2.1, y.2.2 + t)]) := by
  have HE := hid (fun j => end_any B s mb wv v es L b o n ra 0 rc t (W.drewN j) (h.on ((Q.refl W).drewN j)) t0 hk (hp.on ((Q.refl W).drewN j)) hB hl ht hy)
  have HS := hid h
  obtain ⟨g, cap, rfl, hc1, hc2, hg, hcl, hfr⟩ := h.last
  have c2 := h.c2
  have l2 : W.cell? ⟨g, L.length * 4 + 2, none⟩ = some (.slice ra 0 rc) := hcl 2 _ rfl
  obtain ⟨m, hm⟩ : ∃ m, L.length = m := ⟨_, rfl⟩
  rw [hm] at l2 c2 hc1 hl
  clear h hcl hfr hm
  have hm1 : m + 1 ≤ 9223372036854775807 := by omega
  have hw : IntKind.i64.wrap (m : Int) = (m : Int) := by simp [IntKind.wrap_i64]; omega
  have i0 : (0 : Int) < ((m + 1 : Nat) : Int) := by omega
  have i1 : ((m + 1 : Nat) : Int) - 1 = (m : Int) := by omega
  go_enter Tryz.func105, Tryz.ntmps105
  go_wp2_with fail
  go_quiet (fail)
  go_wp2_with (go_at_call 126; refine (HE.out _).mono ?_; rintro e w5 ⟨⟨u, rfl⟩, q5, h5⟩)
  refine bodyPost_ret (v := .tuple #[]) (by simp [results, Tryz.results105, go_sem]) rfl ?_
  exact ⟨⟨_, rfl⟩, (Qp.of ((Q.refl W).drewN nq)).trans q5, h5⟩
set_option maxHeartbeats 2000000 in
theorem step_leaf1 (B s mb : Nat) (v : Value) (es : List (Pk × S3)) (L : List Od) (k : Pk) (rb ro : Nat) (t : Int) (W : World) (h : ScA W B s mb (.func (.func 88) #[] #[]) v es (L ++ [(k, .slice (some ⟨rb, ro, none⟩) 1 1, t)])) (hB : rb < B) (hl : L.length ≤ 100000)
    (tx : ByteArray) (ar : Option Addr) (n5 c5 : Nat) (ka : Option Addr) (kc : Nat) (d2 : W.cell? ⟨rb, ro + 2, none⟩ = some (.string tx)) (d5 : W.cell? ⟨rb, ro + 5, none⟩ = some (.slice ar n5 c5)) (d6 : W.cell? ⟨rb, ro + 6, none⟩ = some (.slice ka 0 kc)) (hn5 : n5 ≤ 100000000) (htx : tx.size ≤ 3000000000) (ht : 0 ≤ t) (hw : t + (96 + (tx.size : Int) + 40 * (n5 : Int)) ≤ 2147483648) :
    Calls Tryz.prog 105 #[.pointer (some ⟨s, 0, none⟩)] W fun e W' => (∃ u, e = .returned u) ∧ Qp (fun i => B ≤ i) W W' ∧ ScA W' B s mb (.func (.func 88) #[] #[]) v es (L ++ [(k, .slice (some ⟨rb, ro, none⟩) 0 0, t + (96 + (tx.size : Int) + 40 * (n5 : Int)))]) := by
  have HS := hid h
  obtain ⟨g, cap, rfl, hc1, hc2, hg, hcl, hfr⟩ := h.last
  have c2 := h.c2
  have c0 := h.c0
  have hgB : B ≤ g := h.ow.blk g rfl
  have hsB := h.hs
  obtain ⟨m, hm⟩ : ∃ m, L.length = m := ⟨_, rfl⟩
  rw [hm] at hcl c2 hc1 hl HS ⊢
  have l2 : W.cell? ⟨g, m * 4 + 2, none⟩ = some (.slice (some ⟨rb, ro, none⟩) 1 1) := hcl 2 _ rfl
  have l3 : W.cell? ⟨g, m * 4 + 3, none⟩ = some (.int .i64 t) := hcl 3 _ rfl
  have f2 := hfr (m * 4 + 2)
  have f3 := hfr (m * 4 + 3)
  have HM := hid hm
  clear h hcl hfr hm
  have hne : rb ≠ g := by omega
  have hen : g ≠ rb := by omega
  have hsg : s ≠ g := fun e => HS.out.os (by rw [e]; rfl)
  have HW : Hid (∀ j, Calls Tryz.prog 88 #[.pointer (some ⟨rb, ro, none⟩)] ((W.drewN j).setCell ⟨g, m * 4 + 2, none⟩ (.slice (some ⟨rb, ro, none⟩) 0 0)) fun e W' => e = .returned (.int .i64 (96 + (tx.size : Int) + 40 * (n5 : Int))) ∧ ∃ i, W' = ((W.drewN j).setCell ⟨g, m * 4 + 2, none⟩ (.slice (some ⟨rb, ro, none⟩) 0 0)).drewN i) :=
    hid (fun j => whole_weight rb ro tx ar n5 c5 _ ((World.cell?_setCell_far _ _ _ _ hen).trans d2) ((World.cell?_setCell_far _ _ _ _ hen).trans d5) hn5 htx)
  have HA : Hid (∀ j i, Calls Tryz.prog 127 #[.pointer (some ⟨g, m * 4, none⟩), .int .i64 (96 + (tx.size : Int) + 40 * (n5 : Int))] (((W.drewN j).setCell ⟨g, m * 4 + 2, none⟩ (.slice (some ⟨rb, ro, none⟩) 0 0)).drewN i) fun e W' => e = .returned (.tuple #[]) ∧ W' = (((W.drewN j).setCell ⟨g, m * 4 + 2, none⟩ (.slice (some ⟨rb, ro, none⟩) 0 0)).drewN i).setCell ⟨g, m * 4 + 3, none⟩ (.int .i64 (t + (96 + (tx.size : Int) + 40 * (n5 : Int))))) :=
    hid (fun j i => add_any g (m * 4) t (96 + (tx.size : Int) + 40 * (n5 : Int)) _ ((World.cell?_setCell_other (W.drewN j) _ _ _ (by intro e; simp at e)).trans l3) ((World.frozen?_setCell (W.drewN j) _ _ _).trans f3) ht (by omega) hw)
  have HF : Hid (∀ j i, ScA ((((W.drewN j).setCell ⟨g, m * 4 + 2, none⟩ (.slice (some ⟨rb, ro, none⟩) 0 0)).drewN i).setCell ⟨g, m * 4 + 3, none⟩ (.int .i64 (t + (96 + (tx.size : Int) + 40 * (n5 : Int))))) B s mb (.func (.func 88) #[] #[]) (.slice (some ⟨g, 0, none⟩) (m + 1) cap) es (L ++ [(k, .slice (some ⟨rb, ro, none⟩) 0 0, t + (96 + (tx.size : Int) + 40 * (n5 : Int)))])) :=
    hid (fun j i => ((((HS.out.on ((Q.refl W).drewN j)).turn HM.out 2 (by omega) (.slice (some ⟨rb, ro, none⟩) 0 0) (k, .slice (some ⟨rb, ro, none⟩) 0 0, t) rfl).on ((Q.refl _).drewN i)).turn HM.out 3 (by omega) (.int .i64 (t + (96 + (tx.size : Int) + 40 * (n5 : Int)))) (k, .slice (some ⟨rb, ro, none⟩) 0 0, t + (96 + (tx.size : Int) + 40 * (n5 : Int))) rfl))
  have hm1 : m + 1 ≤ 9223372036854775807 := by omega
  have hwm : IntKind.i64.wrap (m : Int) = (m : Int) := by simp [IntKind.wrap_i64]; omega
  have i0 : (0 : Int) < ((m + 1 : Nat) : Int) := by omega
  have i1 : ((m + 1 : Nat) : Int) - 1 = (m : Int) := by omega
  go_enter Tryz.func105, Tryz.ntmps105
  go_wp2_with fail
  go_quiet (fail)
  go_wp2_with (first | (go_at_call 88; refine (HW.out _).mono ?_; rintro e w5 ⟨rfl, ⟨i, rfl⟩⟩) | (go_at_call 127; refine (HA.out _ _).mono ?_; rintro e w6 ⟨rfl, rfl⟩))
  refine bodyPost_ret (v := .tuple #[]) (by simp [results, Tryz.results105, go_sem]) rfl ?_
  exact ⟨⟨_, rfl⟩, (((Qp.of ((Q.refl W).drewN nq)).set _ _ (.inl hgB)).trans (Qp.of ((Q.refl _).drewN i))).set _ _ (.inl hgB), HF.out _ _⟩
set_option maxHeartbeats 2000000 in
theorem step_leafn (B s mb : Nat) (v : Value) (es : List (Pk × S3)) (L : List Od) (k : Pk) (rb ro rn rc : Nat) (t : Int) (W : World) (h : ScA W B s mb (.func (.func 88) #[] #[]) v es (L ++ [(k, .slice (some ⟨rb, ro, none⟩) (rn + 1) rc, t)])) (hB : rb < B) (hr1 : rn + 1 ≤ rc) (hr3 : rc ≠ 1) (hr2 : rc ≤ maxLen) (hl : L.length ≤ 100000)
    (tx : ByteArray) (ar : Option Addr) (n5 c5 : Nat) (ka : Option Addr) (kc : Nat) (d2 : W.cell? ⟨rb, ro + 2, none⟩ = some (.string tx)) (d5 : W.cell? ⟨rb, ro + 5, none⟩ = some (.slice ar n5 c5)) (d6 : W.cell? ⟨rb, ro + 6, none⟩ = some (.slice ka 0 kc)) (hn5 : n5 ≤ 100000000) (htx : tx.size ≤ 3000000000) (ht : 0 ≤ t) (hw : t + (96 + (tx.size : Int) + 40 * (n5 : Int)) ≤ 2147483648) :
    Calls Tryz.prog 105 #[.pointer (some ⟨s, 0, none⟩)] W fun e W' => (∃ u, e = .returned u) ∧ Qp (fun i => B ≤ i) W W' ∧ ScA W' B s mb (.func (.func 88) #[] #[]) v es (L ++ [(k, .slice (some ⟨rb, ro + 7, none⟩) rn (rc - 1), t + (96 + (tx.size : Int) + 40 * (n5 : Int)))]) := by
  have HS := hid h
  obtain ⟨g, cap, rfl, hc1, hc2, hg, hcl, hfr⟩ := h.last
  have c2 := h.c2
  have c0 := h.c0
  have hgB : B ≤ g := h.ow.blk g rfl
  have hsB := h.hs
  obtain ⟨m, hm⟩ : ∃ m, L.length = m := ⟨_, rfl⟩
  rw [hm] at hcl c2 hc1 hl HS ⊢
  have l2 : W.cell? ⟨g, m * 4 + 2, none⟩ = some (.slice (some ⟨rb, ro, none⟩) (rn + 1) rc) := hcl 2 _ rfl
  have l3 : W.cell? ⟨g, m * 4 + 3, none⟩ = some (.int .i64 t) := hcl 3 _ rfl
  have f2 := hfr (m * 4 + 2)
  have f3 := hfr (m * 4 + 3)
  have HM := hid hm
  clear h hcl hfr hm
  have hne : rb ≠ g := by omega
  have hen : g ≠ rb := by omega
  have hsg : s ≠ g := fun e => HS.out.os (by rw [e]; rfl)
  have HW : Hid (∀ j, Calls Tryz.prog 88 #[.pointer (some ⟨rb, ro, none⟩)] ((W.drewN j).setCell ⟨g, m * 4 + 2, none⟩ (.slice (some ⟨rb, ro + 7, none⟩) rn (rc - 1))) fun e W' => e = .returned (.int .i64 (96 + (tx.size : Int) + 40 * (n5 : Int))) ∧ ∃ i, W' = ((W.drewN j).setCell ⟨g, m * 4 + 2, none⟩ (.slice (some ⟨rb, ro + 7, none⟩) rn (rc - 1))).drewN i) :=
    hid (fun j => whole_weight rb ro tx ar n5 c5 _ ((World.cell?_setCell_far _ _ _ _ hen).trans d2) ((World.cell?_setCell_far _ _ _ _ hen).trans d5) hn5 htx)
  have HA : Hid (∀ j i, Calls Tryz.prog 127 #[.pointer (some ⟨g, m * 4, none⟩), .int .i64 (96 + (tx.size : Int) + 40 * (n5 : Int))] (((W.drewN j).setCell ⟨g, m * 4 + 2, none⟩ (.slice (some ⟨rb, ro + 7, none⟩) rn (rc - 1))).drewN i) fun e W' => e = .returned (.tuple #[]) ∧ W' = (((W.drewN j).setCell ⟨g, m * 4 + 2, none⟩ (.slice (some ⟨rb, ro + 7, none⟩) rn (rc - 1))).drewN i).setCell ⟨g, m * 4 + 3, none⟩ (.int .i64 (t + (96 + (tx.size : Int) + 40 * (n5 : Int))))) :=
    hid (fun j i => add_any g (m * 4) t (96 + (tx.size : Int) + 40 * (n5 : Int)) _ ((World.cell?_setCell_other (W.drewN j) _ _ _ (by intro e; simp at e)).trans l3) ((World.frozen?_setCell (W.drewN j) _ _ _).trans f3) ht (by omega) hw)
  have HF : Hid (∀ j i, ScA ((((W.drewN j).setCell ⟨g, m * 4 + 2, none⟩ (.slice (some ⟨rb, ro + 7, none⟩) rn (rc - 1))).drewN i).setCell ⟨g, m * 4 + 3, none⟩ (.int .i64 (t + (96 + (tx.size : Int) + 40 * (n5 : Int))))) B s mb (.func (.func 88) #[] #[]) (.slice (some ⟨g, 0, none⟩) (m + 1) cap) es (L ++ [(k, .slice (some ⟨rb, ro + 7, none⟩) rn (rc - 1), t + (96 + (tx.size : Int) + 40 * (n5 : Int)))])) :=
    hid (fun j i => ((((HS.out.on ((Q.refl W).drewN j)).turn HM.out 2 (by omega) (.slice (some ⟨rb, ro + 7, none⟩) rn (rc - 1)) (k, .slice (some ⟨rb, ro + 7, none⟩) rn (rc - 1), t) rfl).on ((Q.refl _).drewN i)).turn HM.out 3 (by omega) (.int .i64 (t + (96 + (tx.size : Int) + 40 * (n5 : Int)))) (k, .slice (some ⟨rb, ro + 7, none⟩) rn (rc - 1), t + (96 + (tx.size : Int) + 40 * (n5 : Int))) rfl))
  have hm1 : m + 1 ≤ 9223372036854775807 := by omega
  have hwm : IntKind.i64.wrap (m : Int) = (m : Int) := by simp [IntKind.wrap_i64]; omega
  have i0 : (0 : Int) < ((m + 1 : Nat) : Int) := by omega
  have i1 : ((m + 1 : Nat) : Int) - 1 = (m : Int) := by omega
  have hrc : (1 : Int) ≤ (rc : Int) := by omega
  have hrx : rc ≤ 9223372036854775807 := by unfold maxLen at hr2; omega
  go_enter Tryz.func105, Tryz.ntmps105
  go_wp2_with fail
  go_quiet (fail)
  go_wp2_with (first | (go_at_call 88; refine (HW.out _).mono ?_; rintro e w5 ⟨rfl, ⟨i, rfl⟩⟩) | (go_at_call 127; refine (HA.out _ _).mono ?_; rintro e w6 ⟨rfl, rfl⟩))
  refine bodyPost_ret (v := .tuple #[]) (by simp [results, Tryz.results105, go_sem]) rfl ?_
  exact ⟨⟨_, rfl⟩, (((Qp.of ((Q.refl W).drewN nq)).set _ _ (.inl hgB)).trans (Qp.of ((Q.refl _).drewN i))).set _ _ (.inl hgB), HF.out _ _⟩
end Go.Proofs.YthebfhdpofhmpaaGreatDoor
