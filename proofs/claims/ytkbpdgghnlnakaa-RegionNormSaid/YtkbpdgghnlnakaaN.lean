/- counterpanelaw4.RegionOrder: the walk. -/
import Derived.Test.YtkbpdgghnlnakaaM
namespace Go.Proofs.Ytkbpdgghnlnakaa
open Go.RowKit
set_option linter.unusedVariables false
set_option linter.unusedSimpArgs false

theorem own_first {α : Type} {enc : α → List Value} {e : TypeId} {k B : Nat} {W : World} {v : Value} {L : List α} {n : Nat} (h : W.ownsRow B e k v n ([] ++ flat enc L)) (hn : n = L.length) : Own enc e k B W v L := by
  subst hn
  exact h
theorem own_append' {α : Type} {enc : α → List Value} {e : TypeId} {k B : Nat} {W : World} {v : Value} {L L' : List α} {n : Nat} (h : W.ownsRow B e k v n (flat enc L ++ flat enc L')) (hn : n = L.length + L'.length) : Own enc e k B W v (L ++ L') := by
  subst hn
  exact own_append h
theorem mem_cnted {L : List Rg.Rc} (hl : L.length ≤ 256) (x : Rg.Rc) : x ∈ Rg.cnted L ↔ x ∈ L ∧ Rg.mayB x = true := by
  unfold Rg.cnted
  rw [List.take_of_length_le hl, List.mem_filter]
theorem nf_turn {A l : List Rg.Rc} {kk : Nat} (hA : A.length ≤ 12) (h : Rg.Nf (Rg.dif (Rg.cnted A) []) l) : Rg.Nf (Rg.dif (Rg.cnted (A.drop kk ++ A)) []) l := by
  refine Rg.nf_congr h fun r c => ?_
  rw [Rg.dif_nil, Rg.dif_nil]
  refine Rg.has_mem (fun x => ?_) r c
  rw [mem_cnted (by omega), mem_cnted (by rw [List.length_append, List.length_drop]; omega), List.mem_append]
  constructor
  · rintro ⟨h1, h2⟩
    exact ⟨.inr h1, h2⟩
  · rintro ⟨h1 | h1, h2⟩
    · exact ⟨List.mem_of_mem_drop h1, h2⟩
    · exact ⟨h1, h2⟩
theorem nf_none : Rg.Nf (Rg.dif (Rg.cnted []) []) [] := Rg.nf_empty _ fun r c => rfl

set_option maxRecDepth 100000 in
set_option maxHeartbeats 4000000 in
theorem order_walk (v : Value) (L : List Rg.Rc) (turn : Int) (w : World) (h : Sl rc 4 w v L) (ht0 : -9223372036854775808 ≤ turn) (ht1 : turn ≤ 9223372036854775807) : Calls Try.prog 5 #[v, .int .i64 turn] w fun e w' => e = .returned (.bool true) ∧ Q w w' := by
  obtain ⟨i0, HI⟩ := inf_of info28
  have HI := hid HI
  have HS := hid h
  have hA : (L.take 12).length ≤ 12 := by rw [List.length_take]; omega
  have HCU := hid (fun W (q : Q w W) => cut_any v L W (h.on q))
  clear h HS
  generalize L.take 12 = A at *
  rcases Nat.eq_zero_or_pos A.length with h0 | h0
  · have hn : A = [] := List.eq_nil_of_length_eq_zero h0
    subst hn
    go_enter Try.func5, Try.ntmps5
    go_wp2_with (first
      | (go_at_call 6; refine (begun_any _).mono ?_; rintro e w1 ⟨rfl, q1⟩; have HQ1 := hid q1; clear q1)
      | (go_at_call 7; refine (HCU.out _ HQ1.out).mono ?_; rintro e w2 ⟨v2, rfl, s2, rfl⟩; obtain ⟨ao, cap, rfl, _, _⟩ := s2.len; clear s2; simp only [List.length_nil])
      | (go_at_call 8; refine (norm_known _ [] [] _ (sl_nil _) nf_none).mono ?_; rintro e w3 ⟨v3, rfl, own3, q3⟩; have HQ3 := hid (HQ1.out.trans q3); obtain ⟨ao3, cap3, rfl, _, _⟩ := (own3.sl rc_len (by decide)).len; clear own3 q3; simp only [List.length_nil]))
    go_ret
    exact ⟨rfl, HQ3.out⟩
  · have hne : ((A.length : Int) == 0) = false := by rw [beq_eq_false_iff_ne]; omega
    have hlo : -(A.length : Int) < Int.tmod turn A.length := by
      have := Int.lt_tmod_of_pos turn (show (0 : Int) < A.length by omega)
      omega
    have hhi : Int.tmod turn A.length < A.length := Int.tmod_lt_of_pos turn (by omega)
    obtain ⟨t, et⟩ : ∃ t, Int.tmod turn A.length = t := ⟨_, rfl⟩
    rw [et] at hlo hhi
    by_cases hneg : t < 0
    · obtain ⟨kk, ek⟩ : ∃ kk : Nat, -t = (kk : Int) := ⟨(-t).toNat, by omega⟩
      have hkk : kk < A.length := by omega
      have hk1 : (kk : Int) ≤ (A.length : Int) := by omega
      have hk2 : (kk : Int) < (A.length : Int) := by omega
      go_enter Try.func5, Try.ntmps5
      go_upto_region 10 with (first
        | (go_at_call 6; refine (begun_any _).mono ?_; rintro e w1 ⟨rfl, q1⟩; have HQ1 := hid q1; clear q1)
        | (go_at_call 7; refine (HCU.out _ HQ1.out).mono ?_; rintro e w2 ⟨v2, rfl, s2, rfl⟩; have HA := hid s2; obtain ⟨b, off, cap, rfl, hcap, hcap2, _⟩ := s2.at h0; clear s2))
      have hck : ¬ cap = kk := by omega
      have hck2 : (kk : Int) ≤ (cap : Int) := by omega
      have hck3 : (cap : Int) ≤ 9223372036854775807 := by unfold maxLen at hcap2; omega
      have HD := hid (sl_drop HA.out kk (by omega))
      obtain ⟨w1, rfl⟩ : ∃ w', w' = w2 := ⟨w2, rfl⟩
      go_wp2_with (first
        | (at_builtin; refine wpList_append_own _ rfl _ _ 22 rfl w1.heap.size 28 i0 (.agg #[.int .i64 0, .int .i64 0, .int .i64 0, .int .i64 0]) 4 32 Try.underlying22 HI.out.1 HI.out.2.1 HI.out.2.2.1 HI.out.2.2.2 rfl (by decide) (.slice none 0 0) 0 [] rfl (World.ownsRow_nil _ _ _ _) ⟨b, off + kk * 4, none⟩ (A.length - kk) (cap - kk) (flat rc (A.drop kk)) rfl (by rw [flat_len rc rc_len, List.length_drop]) (sl_news HD.out rc_len (by decide)) (flat_one rc rc_one) (by unfold maxLen; omega) (by omega) (Nat.le_refl _) ?_; intro v3 w3 hown' hgrow _; have HO3 := hid (own_first (enc := rc) (L := A.drop kk) hown' (by rw [List.length_drop]; omega)); have HQ3 : Hid (Q w1 w3) := Below.grown (Q.refl w1) hgrow (Nat.le_refl _) (fun k e => by cases e); have HA3 := hid (HA.out.on HQ3.out); clear hown' hgrow)
        | (at_builtin; refine wpList_append_own _ rfl _ _ 22 rfl w1.heap.size 28 i0 (.agg #[.int .i64 0, .int .i64 0, .int .i64 0, .int .i64 0]) 4 32 Try.underlying22 HI.out.1 HI.out.2.1 HI.out.2.2.1 HI.out.2.2.2 rfl (by decide) _ _ _ rfl HO3.out ⟨b, off, none⟩ A.length cap (flat rc A) rfl (flat_len rc rc_len A) (sl_news HA3.out rc_len (by decide)) (flat_one rc rc_one) (by unfold maxLen; rw [List.length_drop]; omega) (by rw [List.length_drop]; omega) (by have := HQ3.out.size; omega) ?_; intro v4 w4 hown' hgrow _; have HO4 := hid (own_append' (enc := rc) (L := A.drop kk) (L' := A) hown' rfl); have HQ4 : Hid (Q w1 w4) := Below.grown HQ3.out hgrow HQ3.out.size (HO3.out.blk); have HA4 := hid (HA.out.on HQ4.out); clear hown' hgrow))
      have HN5 := hid (norm_any _ A w4 HA4.out)
      go_wp2_with (first
        | (go_at_call_of 8 A; refine HN5.out.mono ?_; rintro e w5 ⟨v5, rfl, l, own5, q5, n5, b5, c5⟩; have HNL := hid n5; have hll : l.length ≤ 256 := c5 (Nat.le_trans (Rg.cnted_len' A) hA) rfl; have HS5 := hid (own5.sl rc_len (by decide)); have HN6 := hid (norm_known v4 (A.drop kk ++ A) l w5 ((HO4.out.sl rc_len (by decide)).on q5) (nf_turn hA n5)); have HQ5 := hid (HQ4.out.trans q5); clear own5 q5 n5 b5 c5)
        | (go_at_call_of 8 v4; refine HN6.out.mono ?_; rintro e w6 ⟨v6, rfl, own6, q6⟩; have HS6 := hid (own6.sl rc_len (by decide)); replace HS5 := hid (HS5.out.on q6); have HN7 := hid (norm_known v5 l l w6 HS5.out (nf_self HNL.out (Rg.nf_mays HNL.out (Rg.dif_inn (Rg.cnted_mays A))) hll)); have HQ6 := hid (HQ5.out.trans q6); clear own6 q6)
        | (go_at_call_of 8 v5; refine HN7.out.mono ?_; rintro e w7 ⟨v7, rfl, own7, q7⟩; have HS7 := hid (own7.sl rc_len (by decide)); replace HS5 := hid (HS5.out.on q7); replace HS6 := hid (HS6.out.on q7); have HQ7 := hid (HQ1.out.trans (HQ6.out.trans q7)); clear own7 q7; obtain ⟨ao5, cap5, rfl, _, _⟩ := HS5.out.len; obtain ⟨ao6, cap6, rfl, _, _⟩ := HS6.out.len; obtain ⟨ao7, cap7, rfl, _, _⟩ := HS7.out.len))
      clear HN5 HN6 HN7 HA HA3 HA4 HD HO3 HO4 HQ3 HQ4 HQ5 HQ6 et hck
      go_loopw [11] (fun s W => ∃ (n : Nat), n ≤ l.length ∧ s = .int .i64 n ∧ Q w7 W) (fun s _ => l.length - (intOf s).toNat)
      case atStart => exact ⟨0, Nat.zero_le _, rfl, Q.refl _⟩
      case round =>
        obtain ⟨n, hn, rfl, hq⟩ := hrel
        have HQ := hid hq
        clear hq
        by_cases hlt : n < l.length
        · have hlt' : (n : Int) < (l.length : Int) := by omega
          obtain ⟨g, off, cap', e, _, _, hc⟩ := (HS5.out.on HQ.out).at hlt
          cases e
          obtain ⟨g2, off2, cap2', e, _, _, hc2⟩ := (HS6.out.on HQ.out).at hlt
          cases e
          obtain ⟨g3, off3, cap3', e, _, _, hc3⟩ := (HS7.out.on HQ.out).at hlt
          cases e
          generalize l[n] = x at *
          obtain ⟨xa, xb, xc, xd⟩ := x
          have c0 : wr.cell? ⟨g, off + n * 4, none⟩ = some (.int .i64 xa) := hc 0 _ rfl
          have c1 : wr.cell? ⟨g, off + n * 4 + 1, none⟩ = some (.int .i64 xb) := hc 1 _ rfl
          have c2 : wr.cell? ⟨g, off + n * 4 + 2, none⟩ = some (.int .i64 xc) := hc 2 _ rfl
          have c3 : wr.cell? ⟨g, off + n * 4 + 3, none⟩ = some (.int .i64 xd) := hc 3 _ rfl
          have d0 : wr.cell? ⟨g2, off2 + n * 4, none⟩ = some (.int .i64 xa) := hc2 0 _ rfl
          have d1 : wr.cell? ⟨g2, off2 + n * 4 + 1, none⟩ = some (.int .i64 xb) := hc2 1 _ rfl
          have d2 : wr.cell? ⟨g2, off2 + n * 4 + 2, none⟩ = some (.int .i64 xc) := hc2 2 _ rfl
          have d3 : wr.cell? ⟨g2, off2 + n * 4 + 3, none⟩ = some (.int .i64 xd) := hc2 3 _ rfl
          have f0 : wr.cell? ⟨g3, off3 + n * 4, none⟩ = some (.int .i64 xa) := hc3 0 _ rfl
          have f1 : wr.cell? ⟨g3, off3 + n * 4 + 1, none⟩ = some (.int .i64 xb) := hc3 1 _ rfl
          have f2 : wr.cell? ⟨g3, off3 + n * 4 + 2, none⟩ = some (.int .i64 xc) := hc3 2 _ rfl
          have f3 : wr.cell? ⟨g3, off3 + n * 4 + 3, none⟩ = some (.int .i64 xd) := hc3 3 _ rfl
          clear hc hc2 hc3
          have hne' : ∀ w, Sem.run Try.prog (binOp .neq 28 (.agg #[.int .i64 xa, .int .i64 xb, .int .i64 xc, .int .i64 xd]) (.agg #[.int .i64 xa, .int .i64 xb, .int .i64 xc, .int .i64 xd])) w = .ok (.bool false) w := fun w => by
            have := neq28.1 ⟨xa, xb, xc, xd⟩ ⟨xa, xb, xc, xd⟩ w
            simp only [and_self, decide_true, Bool.not_true] at this
            exact this
          have hgd' : ∀ (op : BinOp) (a b : Operand) (w : World), Sem.run Try.prog (eqGuard op 28 a b (.agg #[.int .i64 xa, .int .i64 xb, .int .i64 xc, .int .i64 xd]) (.agg #[.int .i64 xa, .int .i64 xb, .int .i64 xc, .int .i64 xd])) w = .ok () w := fun op a b w => neq28.2 op a b ⟨xa, xb, xc, xd⟩ ⟨xa, xb, xc, xd⟩ w
          go_wp2_with fail
          go_quiet (fail)
          go_wp2_with fail
          go_roundw
          case rel => exact ⟨n + 1, by omega, by go_num, HQ.out.drewN _⟩
          case measure => simp [intOf]; omega
        · have hlt' : ¬ (n : Int) < (l.length : Int) := by omega
          go_wp2_with fail
          go_ret
          exact ⟨rfl, HQ7.out.trans HQ.out⟩
    · obtain ⟨kk, ek⟩ : ∃ kk : Nat, t = (kk : Int) := ⟨t.toNat, by omega⟩
      have hkk : kk < A.length := by omega
      subst ek
      have hk1 : (kk : Int) ≤ (A.length : Int) := by omega
      have hk2 : (kk : Int) < (A.length : Int) := by omega
      go_enter Try.func5, Try.ntmps5
      go_upto_region 10 with (first
        | (go_at_call 6; refine (begun_any _).mono ?_; rintro e w1 ⟨rfl, q1⟩; have HQ1 := hid q1; clear q1)
        | (go_at_call 7; refine (HCU.out _ HQ1.out).mono ?_; rintro e w2 ⟨v2, rfl, s2, rfl⟩; have HA := hid s2; obtain ⟨b, off, cap, rfl, hcap, hcap2, _⟩ := s2.at h0; clear s2))
      have hck : ¬ cap = kk := by omega
      have hck2 : (kk : Int) ≤ (cap : Int) := by omega
      have hck3 : (cap : Int) ≤ 9223372036854775807 := by unfold maxLen at hcap2; omega
      have HD := hid (sl_drop HA.out kk (by omega))
      obtain ⟨w1, rfl⟩ : ∃ w', w' = w2 := ⟨w2, rfl⟩
      go_wp2_with (first
        | (at_builtin; refine wpList_append_own _ rfl _ _ 22 rfl w1.heap.size 28 i0 (.agg #[.int .i64 0, .int .i64 0, .int .i64 0, .int .i64 0]) 4 32 Try.underlying22 HI.out.1 HI.out.2.1 HI.out.2.2.1 HI.out.2.2.2 rfl (by decide) (.slice none 0 0) 0 [] rfl (World.ownsRow_nil _ _ _ _) ⟨b, off + kk * 4, none⟩ (A.length - kk) (cap - kk) (flat rc (A.drop kk)) rfl (by rw [flat_len rc rc_len, List.length_drop]) (sl_news HD.out rc_len (by decide)) (flat_one rc rc_one) (by unfold maxLen; omega) (by omega) (Nat.le_refl _) ?_; intro v3 w3 hown' hgrow _; have HO3 := hid (own_first (enc := rc) (L := A.drop kk) hown' (by rw [List.length_drop]; omega)); have HQ3 : Hid (Q w1 w3) := Below.grown (Q.refl w1) hgrow (Nat.le_refl _) (fun k e => by cases e); have HA3 := hid (HA.out.on HQ3.out); clear hown' hgrow)
        | (at_builtin; refine wpList_append_own _ rfl _ _ 22 rfl w1.heap.size 28 i0 (.agg #[.int .i64 0, .int .i64 0, .int .i64 0, .int .i64 0]) 4 32 Try.underlying22 HI.out.1 HI.out.2.1 HI.out.2.2.1 HI.out.2.2.2 rfl (by decide) _ _ _ rfl HO3.out ⟨b, off, none⟩ A.length cap (flat rc A) rfl (flat_len rc rc_len A) (sl_news HA3.out rc_len (by decide)) (flat_one rc rc_one) (by unfold maxLen; rw [List.length_drop]; omega) (by rw [List.length_drop]; omega) (by have := HQ3.out.size; omega) ?_; intro v4 w4 hown' hgrow _; have HO4 := hid (own_append' (enc := rc) (L := A.drop kk) (L' := A) hown' rfl); have HQ4 : Hid (Q w1 w4) := Below.grown HQ3.out hgrow HQ3.out.size (HO3.out.blk); have HA4 := hid (HA.out.on HQ4.out); clear hown' hgrow))
      have HN5 := hid (norm_any _ A w4 HA4.out)
      go_wp2_with (first
        | (go_at_call_of 8 A; refine HN5.out.mono ?_; rintro e w5 ⟨v5, rfl, l, own5, q5, n5, b5, c5⟩; have HNL := hid n5; have hll : l.length ≤ 256 := c5 (Nat.le_trans (Rg.cnted_len' A) hA) rfl; have HS5 := hid (own5.sl rc_len (by decide)); have HN6 := hid (norm_known v4 (A.drop kk ++ A) l w5 ((HO4.out.sl rc_len (by decide)).on q5) (nf_turn hA n5)); have HQ5 := hid (HQ4.out.trans q5); clear own5 q5 n5 b5 c5)
        | (go_at_call_of 8 v4; refine HN6.out.mono ?_; rintro e w6 ⟨v6, rfl, own6, q6⟩; have HS6 := hid (own6.sl rc_len (by decide)); replace HS5 := hid (HS5.out.on q6); have HN7 := hid (norm_known v5 l l w6 HS5.out (nf_self HNL.out (Rg.nf_mays HNL.out (Rg.dif_inn (Rg.cnted_mays A))) hll)); have HQ6 := hid (HQ5.out.trans q6); clear own6 q6)
        | (go_at_call_of 8 v5; refine HN7.out.mono ?_; rintro e w7 ⟨v7, rfl, own7, q7⟩; have HS7 := hid (own7.sl rc_len (by decide)); replace HS5 := hid (HS5.out.on q7); replace HS6 := hid (HS6.out.on q7); have HQ7 := hid (HQ1.out.trans (HQ6.out.trans q7)); clear own7 q7; obtain ⟨ao5, cap5, rfl, _, _⟩ := HS5.out.len; obtain ⟨ao6, cap6, rfl, _, _⟩ := HS6.out.len; obtain ⟨ao7, cap7, rfl, _, _⟩ := HS7.out.len))
      clear HN5 HN6 HN7 HA HA3 HA4 HD HO3 HO4 HQ3 HQ4 HQ5 HQ6 et hck
      go_loopw [11] (fun s W => ∃ (n : Nat), n ≤ l.length ∧ s = .int .i64 n ∧ Q w7 W) (fun s _ => l.length - (intOf s).toNat)
      case atStart => exact ⟨0, Nat.zero_le _, rfl, Q.refl _⟩
      case round =>
        obtain ⟨n, hn, rfl, hq⟩ := hrel
        have HQ := hid hq
        clear hq
        by_cases hlt : n < l.length
        · have hlt' : (n : Int) < (l.length : Int) := by omega
          obtain ⟨g, off, cap', e, _, _, hc⟩ := (HS5.out.on HQ.out).at hlt
          cases e
          obtain ⟨g2, off2, cap2', e, _, _, hc2⟩ := (HS6.out.on HQ.out).at hlt
          cases e
          obtain ⟨g3, off3, cap3', e, _, _, hc3⟩ := (HS7.out.on HQ.out).at hlt
          cases e
          generalize l[n] = x at *
          obtain ⟨xa, xb, xc, xd⟩ := x
          have c0 : wr.cell? ⟨g, off + n * 4, none⟩ = some (.int .i64 xa) := hc 0 _ rfl
          have c1 : wr.cell? ⟨g, off + n * 4 + 1, none⟩ = some (.int .i64 xb) := hc 1 _ rfl
          have c2 : wr.cell? ⟨g, off + n * 4 + 2, none⟩ = some (.int .i64 xc) := hc 2 _ rfl
          have c3 : wr.cell? ⟨g, off + n * 4 + 3, none⟩ = some (.int .i64 xd) := hc 3 _ rfl
          have d0 : wr.cell? ⟨g2, off2 + n * 4, none⟩ = some (.int .i64 xa) := hc2 0 _ rfl
          have d1 : wr.cell? ⟨g2, off2 + n * 4 + 1, none⟩ = some (.int .i64 xb) := hc2 1 _ rfl
          have d2 : wr.cell? ⟨g2, off2 + n * 4 + 2, none⟩ = some (.int .i64 xc) := hc2 2 _ rfl
          have d3 : wr.cell? ⟨g2, off2 + n * 4 + 3, none⟩ = some (.int .i64 xd) := hc2 3 _ rfl
          have f0 : wr.cell? ⟨g3, off3 + n * 4, none⟩ = some (.int .i64 xa) := hc3 0 _ rfl
          have f1 : wr.cell? ⟨g3, off3 + n * 4 + 1, none⟩ = some (.int .i64 xb) := hc3 1 _ rfl
          have f2 : wr.cell? ⟨g3, off3 + n * 4 + 2, none⟩ = some (.int .i64 xc) := hc3 2 _ rfl
          have f3 : wr.cell? ⟨g3, off3 + n * 4 + 3, none⟩ = some (.int .i64 xd) := hc3 3 _ rfl
          clear hc hc2 hc3
          have hne' : ∀ w, Sem.run Try.prog (binOp .neq 28 (.agg #[.int .i64 xa, .int .i64 xb, .int .i64 xc, .int .i64 xd]) (.agg #[.int .i64 xa, .int .i64 xb, .int .i64 xc, .int .i64 xd])) w = .ok (.bool false) w := fun w => by
            have := neq28.1 ⟨xa, xb, xc, xd⟩ ⟨xa, xb, xc, xd⟩ w
            simp only [and_self, decide_true, Bool.not_true] at this
            exact this
          have hgd' : ∀ (op : BinOp) (a b : Operand) (w : World), Sem.run Try.prog (eqGuard op 28 a b (.agg #[.int .i64 xa, .int .i64 xb, .int .i64 xc, .int .i64 xd]) (.agg #[.int .i64 xa, .int .i64 xb, .int .i64 xc, .int .i64 xd])) w = .ok () w := fun op a b w => neq28.2 op a b ⟨xa, xb, xc, xd⟩ ⟨xa, xb, xc, xd⟩ w
          go_wp2_with fail
          go_quiet (fail)
          go_wp2_with fail
          go_roundw
          case rel => exact ⟨n + 1, by omega, by go_num, HQ.out.drewN _⟩
          case measure => simp [intOf]; omega
        · have hlt' : ¬ (n : Int) < (l.length : Int) := by omega
          go_wp2_with fail
          go_ret
          exact ⟨rfl, HQ7.out.trans HQ.out⟩
end Go.Proofs.Ytkbpdgghnlnakaa
