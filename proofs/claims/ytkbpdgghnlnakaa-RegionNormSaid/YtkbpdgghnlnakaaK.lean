/- The reference: a number into a rising list, once. -/
import Derived.Test.YtkbpdgghnlnakaaO
namespace Go.Proofs.Ytkbpdgghnlnakaa
open Go.RowKit
set_option linter.unusedVariables false
set_option linter.unusedSimpArgs false

def insG (n : Int) : List Int → List Int
  | [] => [n]
  | g :: l => if g < n then g :: insG n l else if g = n then g :: l else n :: g :: l
theorem insG_len (n : Int) : ∀ l, (insG n l).length ≤ l.length + 1
  | [] => by simp [insG]
  | g :: l => by
    have := insG_len n l
    rw [insG]
    split
    · simp only [List.length_cons]; omega
    · split <;> simp
theorem insG_mem (n e : Int) : ∀ l, e ∈ insG n l ↔ e = n ∨ e ∈ l
  | [] => by simp [insG]
  | g :: l => by
    rw [insG]
    split
    · rw [List.mem_cons, insG_mem n e l, List.mem_cons]
      constructor
      · rintro (h | h | h)
        · exact .inr (.inl h)
        · exact .inl h
        · exact .inr (.inr h)
      · rintro (h | h | h)
        · exact .inr (.inl h)
        · exact .inl h
        · exact .inr (.inr h)
    · split
      · rename_i h
        constructor
        · intro h2; exact .inr h2
        · rintro (h2 | h2)
          · subst h2; rw [← h]; exact List.mem_cons_self ..
          · exact h2
      · rw [List.mem_cons]
theorem insG_asc (n : Int) : ∀ (l : List Int) (g : Int), g < n → Rg.Asc g l → Rg.Asc g (insG n l)
  | [], g, h, _ => ⟨h, trivial⟩
  | x :: l, g, h, ⟨h1, h2⟩ => by
    rw [insG]
    split
    · exact ⟨h1, insG_asc n l x (by assumption) h2⟩
    · split
      · exact ⟨h1, h2⟩
      · exact ⟨h, by omega, h2⟩
theorem insG_ascl (n : Int) (l : List Int) (h : Rg.Ascl l) : Rg.Ascl (insG n l) := by
  cases l with
  | nil => trivial
  | cons g l =>
    rw [insG]
    split
    · exact insG_asc n l g (by assumption) h
    · split
      · exact h
      · exact ⟨by omega, h⟩
theorem insG_on {n : Int} {G : List Int} {k : Nat} (hk : k < G.length) (h : G[k] < n) (e : insG n G = G.take k ++ insG n (G.drop k)) : insG n G = G.take (k + 1) ++ insG n (G.drop (k + 1)) := by
  rw [e, List.drop_eq_getElem_cons hk, insG, if_pos h, List.take_succ_eq_append_getElem hk, List.append_assoc]
  rfl
theorem insG_is {n : Int} {G : List Int} {k : Nat} (hk : k < G.length) (h : G[k] = n) (e : insG n G = G.take k ++ insG n (G.drop k)) : insG n G = G := by
  have h2 : insG n (G.drop k) = G.drop k := by
    rw [List.drop_eq_getElem_cons hk, insG, if_neg (by omega), if_pos h]
  rw [e, h2, List.take_append_drop]
theorem insG_new {n : Int} {G : List Int} {k : Nat} (h : (hk : k < G.length) → ¬ G[k] < n ∧ ¬ G[k] = n) (e : insG n G = G.take k ++ insG n (G.drop k)) : insG n G = (G.take k ++ [n]) ++ G.drop k := by
  have h2 : insG n (G.drop k) = n :: G.drop k := by
    by_cases hk : k < G.length
    · obtain ⟨h3, h4⟩ := h hk
      rw [List.drop_eq_getElem_cons hk, insG, if_neg h3, if_neg h4]
    · rw [List.drop_eq_nil_of_le (by omega)]
      rfl
  rw [e, h2, List.append_assoc]
  rfl
theorem sl_src {α : Type} {enc : α → List Value} {k n cap b off : Nat} {W : World} {L : List α} (h : Sl enc k W (.slice (some ⟨b, off, none⟩) n cap) L) (hn : n = L.length) (hk : ∀ x, (enc x).length = k) (hp : 0 < k) : (Value.slice (some ⟨b, off, none⟩) n cap = .slice none 0 0 ∧ n = 0 ∧ flat enc L = []) ∨ ∃ ad c, Value.slice (some ⟨b, off, none⟩) n cap = .slice (some ad) n c ∧ ∀ j u, (flat enc L)[j]? = some u → W.cell? (ad.add j) = some u :=
  .inr ⟨_, _, rfl, sl_news h hk hp⟩

set_option maxRecDepth 100000 in
set_option maxHeartbeats 4000000 in
theorem into_any (v : Value) (G : List Int) (n : Int) (w : World) (B : Nat) (h : Own ie 2 1 B w v G) (hB : B ≤ w.heap.size) (hl : G.length ≤ 100000) : Calls Try.prog 27 #[v, .int .i64 n] w fun e w' => ∃ v', e = .returned v' ∧ Own ie 2 1 B w' v' (insG n G) ∧ Q w w' := by
  obtain ⟨i0, HI⟩ := inf_of info2
  have HI := hid HI
  generalize hT : insG n G = T
  have HT := hid hT
  clear hT
  have HO := hid h
  obtain ⟨_, h2⟩ := h
  rcases h2 with ⟨hv, hn⟩ | ⟨g, cap, cur, hv, _, _, hc1, hc2, _, _⟩
  · have hG : G = [] := List.eq_nil_of_length_eq_zero hn
    subst hG hv
    have HT2 : Hid ([n] = T) := HT.out
    clear HT hn
    go_enter Try.func27, Try.ntmps27
    go_wp2_with fail
    go_loopw [5] (fun s W => s = .int .i64 0 ∧ w = W) (fun _ _ => 0)
    case atStart => exact ⟨rfl, rfl⟩
    case round =>
      obtain ⟨rfl, rfl⟩ := hrel
      go_wp2_with (first
        | (at_builtin; refine wpList_append_own_none rfl _ _ 44 rfl w.heap.size 2 i0 1 Try.underlying44 HI.out.1 (.slice none 0 0) 0 [] rfl (World.ownsRow_nil _ _ _ _) rfl ?_)
        | (at_builtin; refine wpList_append_own _ rfl _ _ 44 rfl w.heap.size 2 i0 (.int .i64 0) 1 8 Try.underlying44 HI.out.1 HI.out.2.1 HI.out.2.2.1 HI.out.2.2.2 rfl (by decide) (.slice none 0 0) 0 [] rfl (World.ownsRow_nil _ _ _ _) _ 1 1 [.int .i64 n] rfl rfl (news_at _ [.int .i64 n] 2 _ (by simp)) (ie_one n) (by decide) (by decide) (by simp) ?_; intro v3 w3 hown' hgrow _; have HO3 : Hid (Own ie 2 1 w.heap.size w3 v3 [n]) := (hid (own_first (enc := ie) (L := [n]) hown' rfl)); have HQ3 : Hid (Q w w3) := (hid (Below.grown ((Q.refl w).alloc _) hgrow (by simp) (fun k e => by cases e))); clear hown' hgrow)
        | (at_builtin; refine wpList_append_own_none rfl _ _ 44 rfl w.heap.size 2 i0 1 Try.underlying44 HI.out.1 _ _ _ rfl HO3.out rfl ?_))
      go_ret
      exact ⟨_, rfl, (own_eq HO3.out HT2.out).mono hB, HQ3.out⟩
  · subst hv
    have hc3 : (cap : Int) ≤ 9223372036854775807 := by unfold maxLen at hc2; omega
    have HS := hid (HO.out.sl ie_len (by decide))
    go_enter Try.func27, Try.ntmps27
    go_wp2_with fail
    go_loopw [5] (fun s W => ∃ (k : Nat), k ≤ G.length ∧ s = .int .i64 k ∧ w = W ∧ Hid (insG n G = G.take k ++ insG n (G.drop k))) (fun s _ => G.length - (intOf s).toNat)
    case atStart => exact ⟨0, Nat.zero_le _, rfl, rfl, by show _ = _; simp⟩
    case round =>
      obtain ⟨k, hk, rfl, rfl, HZ⟩ := hrel
      have hkc : (k : Int) ≤ (cap : Int) := by omega
      have hkl : (k : Int) ≤ (G.length : Int) := by omega
      by_cases hlt : k < G.length
      · have hlt' : (k : Int) < (G.length : Int) := by omega
        have c0 : w.cell? ⟨g, k, none⟩ = some (.int .i64 G[k]) := by
          have := HO.out.cell ie_len hlt 0 _ rfl
          simpa using this
        by_cases h1 : G[k] < n
        · have HZ2 := hid (insG_on hlt h1 HZ.out)
          clear HZ
          go_wp2_with fail
          go_roundw
          case rel => exact ⟨k + 1, by omega, by go_num, (by first | rfl | trivial), HZ2⟩
          case measure => simp [intOf]; omega
        · by_cases h2 : G[k] = n
          · have h2' : (G[k] == n) = true := by simpa using h2
            have HR : Hid (G = T) := by show _ = _; rw [← HT.out, insG_is hlt h2 HZ.out]
            clear HZ h2
            go_wp2_with fail
            go_ret
            exact ⟨_, rfl, own_eq HO.out HR.out, Q.refl _⟩
          · have h2' : (G[k] == n) = false := by simpa using h2
            have HR : Hid ((G.take k ++ [n]) ++ G.drop k = T) := by show _ = _; rw [← HT.out, insG_new (fun _ => ⟨h1, h2⟩) HZ.out]
            clear HZ h2
            by_cases hck : cap = k
            · have HD : Hid ((Value.slice (some ⟨g, 0, none⟩) (G.length - k) (cap - k) = .slice none 0 0 ∧ G.length - k = 0 ∧ flat ie (G.drop k) = []) ∨ ∃ ad c, Value.slice (some ⟨g, 0, none⟩) (G.length - k) (cap - k) = .slice (some ad) (G.length - k) c ∧ ∀ W, Q w W → ∀ j u, (flat ie (G.drop k))[j]? = some u → W.cell? (ad.add j) = some u) := .inr ⟨_, _, rfl, fun W q j u hu => by
                rw [List.drop_eq_nil_of_le (by omega)] at hu
                simp [flat] at hu⟩
              have hck' : (cap = k) = True := _root_.eq_true hck
              clear hck
              go_wp2_with (first
                | (at_builtin; refine wpList_append_src rfl _ _ 44 rfl w.heap.size 2 i0 (.int .i64 0) 1 8 Try.underlying44 HI.out.1 HI.out.2.1 HI.out.2.2.1 HI.out.2.2.2 rfl (by decide) (.slice none 0 0) 0 [] rfl (World.ownsRow_nil _ _ _ _) (.slice (some ⟨g, 0, none⟩) k cap) rfl k (flat ie (G.take k)) (sl_src (sl_take HS.out k hk) (by rw [List.length_take]; omega) ie_len (by decide)) (by rw [flat_len ie ie_len, List.length_take]; omega) (flat_one ie ie_one) (by unfold maxLen; omega) (by omega) (Nat.le_refl _) ?_; intro v3 w3 hown' hgrow; have HO3 := hid (own_first (enc := ie) (L := G.take k) hown' (by rw [List.length_take]; omega)); have HQ3 : Hid (Q w w3) := (hid (Below.grown (Q.refl w) hgrow (Nat.le_refl _) (fun k e => by cases e))); clear hown' hgrow)
                | (at_builtin; refine wpList_append_own _ rfl _ _ 44 rfl w.heap.size 2 i0 (.int .i64 0) 1 8 Try.underlying44 HI.out.1 HI.out.2.1 HI.out.2.2.1 HI.out.2.2.2 rfl (by decide) v3 _ _ rfl (HO3.out.alloc _) _ 1 1 [.int .i64 n] rfl rfl (news_at _ [.int .i64 n] 2 _ (by simp)) (ie_one n) (by unfold maxLen; rw [List.length_take]; omega) (by rw [List.length_take]; omega) (by have := HQ3.out.size; simp; omega) ?_; intro v4 w4 hown' hgrow _; have HO4 := hid (own_snoc' (enc := ie) (L := G.take k) (x := n) hown' rfl); have HQ4 : Hid (Q w w4) := (hid (Below.grown (HQ3.out.alloc _) hgrow (by have := HQ3.out.size; simp; omega) (HO3.out.blk))); clear hown' hgrow)
                | (at_builtin; refine wpList_append_src rfl _ _ 44 rfl w.heap.size 2 i0 (.int .i64 0) 1 8 Try.underlying44 HI.out.1 HI.out.2.1 HI.out.2.2.1 HI.out.2.2.2 rfl (by decide) v4 _ _ rfl HO4.out _ rfl (G.length - k) (flat ie (G.drop k)) (HD.out.imp id (fun ⟨ad, c, e, hh⟩ => ⟨ad, c, e, hh _ HQ4.out⟩)) (by rw [flat_len ie ie_len, List.length_drop]) (flat_one ie ie_one) (by unfold maxLen; rw [List.length_append, List.length_take]; simp only [List.length_cons, List.length_nil]; omega) (by rw [List.length_append, List.length_take]; simp only [List.length_cons, List.length_nil]; omega) (by have := HQ4.out.size; omega) ?_; intro v5 w5 hown' hgrow; have HO5 := hid (own_append' (enc := ie) (L := G.take k ++ [n]) (L' := G.drop k) hown' (by rw [List.length_drop])); have HQ5 : Hid (Q w w5) := (hid (Below.grown HQ4.out hgrow HQ4.out.size (HO4.out.blk))); clear hown' hgrow))
              go_ret
              exact ⟨_, rfl, (own_eq HO5.out HR.out).mono hB, HQ5.out⟩
            · have HD : Hid ((Value.slice (some ⟨g, k, none⟩) (G.length - k) (cap - k) = .slice none 0 0 ∧ G.length - k = 0 ∧ flat ie (G.drop k) = []) ∨ ∃ ad c, Value.slice (some ⟨g, k, none⟩) (G.length - k) (cap - k) = .slice (some ad) (G.length - k) c ∧ ∀ W, Q w W → ∀ j u, (flat ie (G.drop k))[j]? = some u → W.cell? (ad.add j) = some u) := .inr ⟨_, _, rfl, fun W q => by
                have := sl_drop (HS.out.on q) k hk
                rw [Nat.mul_one, Nat.zero_add] at this
                exact sl_news this ie_len (by decide)⟩
              have hck' : (cap = k) = False := _root_.eq_false hck
              clear hck
              go_wp2_with (first
                | (at_builtin; refine wpList_append_src rfl _ _ 44 rfl w.heap.size 2 i0 (.int .i64 0) 1 8 Try.underlying44 HI.out.1 HI.out.2.1 HI.out.2.2.1 HI.out.2.2.2 rfl (by decide) (.slice none 0 0) 0 [] rfl (World.ownsRow_nil _ _ _ _) (.slice (some ⟨g, 0, none⟩) k cap) rfl k (flat ie (G.take k)) (sl_src (sl_take HS.out k hk) (by rw [List.length_take]; omega) ie_len (by decide)) (by rw [flat_len ie ie_len, List.length_take]; omega) (flat_one ie ie_one) (by unfold maxLen; omega) (by omega) (Nat.le_refl _) ?_; intro v3 w3 hown' hgrow; have HO3 := hid (own_first (enc := ie) (L := G.take k) hown' (by rw [List.length_take]; omega)); have HQ3 : Hid (Q w w3) := (hid (Below.grown (Q.refl w) hgrow (Nat.le_refl _) (fun k e => by cases e))); clear hown' hgrow)
                | (at_builtin; refine wpList_append_own _ rfl _ _ 44 rfl w.heap.size 2 i0 (.int .i64 0) 1 8 Try.underlying44 HI.out.1 HI.out.2.1 HI.out.2.2.1 HI.out.2.2.2 rfl (by decide) v3 _ _ rfl (HO3.out.alloc _) _ 1 1 [.int .i64 n] rfl rfl (news_at _ [.int .i64 n] 2 _ (by simp)) (ie_one n) (by unfold maxLen; rw [List.length_take]; omega) (by rw [List.length_take]; omega) (by have := HQ3.out.size; simp; omega) ?_; intro v4 w4 hown' hgrow _; have HO4 := hid (own_snoc' (enc := ie) (L := G.take k) (x := n) hown' rfl); have HQ4 : Hid (Q w w4) := (hid (Below.grown (HQ3.out.alloc _) hgrow (by have := HQ3.out.size; simp; omega) (HO3.out.blk))); clear hown' hgrow)
                | (at_builtin; refine wpList_append_src rfl _ _ 44 rfl w.heap.size 2 i0 (.int .i64 0) 1 8 Try.underlying44 HI.out.1 HI.out.2.1 HI.out.2.2.1 HI.out.2.2.2 rfl (by decide) v4 _ _ rfl HO4.out _ rfl (G.length - k) (flat ie (G.drop k)) (HD.out.imp id (fun ⟨ad, c, e, hh⟩ => ⟨ad, c, e, hh _ HQ4.out⟩)) (by rw [flat_len ie ie_len, List.length_drop]) (flat_one ie ie_one) (by unfold maxLen; rw [List.length_append, List.length_take]; simp only [List.length_cons, List.length_nil]; omega) (by rw [List.length_append, List.length_take]; simp only [List.length_cons, List.length_nil]; omega) (by have := HQ4.out.size; omega) ?_; intro v5 w5 hown' hgrow; have HO5 := hid (own_append' (enc := ie) (L := G.take k ++ [n]) (L' := G.drop k) hown' (by rw [List.length_drop])); have HQ5 : Hid (Q w w5) := (hid (Below.grown HQ4.out hgrow HQ4.out.size (HO4.out.blk))); clear hown' hgrow))
              go_ret
              exact ⟨_, rfl, (own_eq HO5.out HR.out).mono hB, HQ5.out⟩
      · have hlt' : ¬ (k : Int) < (G.length : Int) := by omega
        have HR : Hid ((G.take k ++ [n]) ++ G.drop k = T) := by show _ = _; rw [← HT.out, insG_new (fun h => absurd h hlt) HZ.out]
        clear HZ
        by_cases hck : cap = k
        · have HD : Hid ((Value.slice (some ⟨g, 0, none⟩) (G.length - k) (cap - k) = .slice none 0 0 ∧ G.length - k = 0 ∧ flat ie (G.drop k) = []) ∨ ∃ ad c, Value.slice (some ⟨g, 0, none⟩) (G.length - k) (cap - k) = .slice (some ad) (G.length - k) c ∧ ∀ W, Q w W → ∀ j u, (flat ie (G.drop k))[j]? = some u → W.cell? (ad.add j) = some u) := .inr ⟨_, _, rfl, fun W q j u hu => by
            rw [List.drop_eq_nil_of_le (by omega)] at hu
            simp [flat] at hu⟩
          have hck' : (cap = k) = True := _root_.eq_true hck
          clear hck
          go_wp2_with (first
            | (at_builtin; refine wpList_append_src rfl _ _ 44 rfl w.heap.size 2 i0 (.int .i64 0) 1 8 Try.underlying44 HI.out.1 HI.out.2.1 HI.out.2.2.1 HI.out.2.2.2 rfl (by decide) (.slice none 0 0) 0 [] rfl (World.ownsRow_nil _ _ _ _) (.slice (some ⟨g, 0, none⟩) k cap) rfl k (flat ie (G.take k)) (sl_src (sl_take HS.out k hk) (by rw [List.length_take]; omega) ie_len (by decide)) (by rw [flat_len ie ie_len, List.length_take]; omega) (flat_one ie ie_one) (by unfold maxLen; omega) (by omega) (Nat.le_refl _) ?_; intro v3 w3 hown' hgrow; have HO3 := hid (own_first (enc := ie) (L := G.take k) hown' (by rw [List.length_take]; omega)); have HQ3 : Hid (Q w w3) := (hid (Below.grown (Q.refl w) hgrow (Nat.le_refl _) (fun k e => by cases e))); clear hown' hgrow)
            | (at_builtin; refine wpList_append_own _ rfl _ _ 44 rfl w.heap.size 2 i0 (.int .i64 0) 1 8 Try.underlying44 HI.out.1 HI.out.2.1 HI.out.2.2.1 HI.out.2.2.2 rfl (by decide) v3 _ _ rfl (HO3.out.alloc _) _ 1 1 [.int .i64 n] rfl rfl (news_at _ [.int .i64 n] 2 _ (by simp)) (ie_one n) (by unfold maxLen; rw [List.length_take]; omega) (by rw [List.length_take]; omega) (by have := HQ3.out.size; simp; omega) ?_; intro v4 w4 hown' hgrow _; have HO4 := hid (own_snoc' (enc := ie) (L := G.take k) (x := n) hown' rfl); have HQ4 : Hid (Q w w4) := (hid (Below.grown (HQ3.out.alloc _) hgrow (by have := HQ3.out.size; simp; omega) (HO3.out.blk))); clear hown' hgrow)
            | (at_builtin; refine wpList_append_src rfl _ _ 44 rfl w.heap.size 2 i0 (.int .i64 0) 1 8 Try.underlying44 HI.out.1 HI.out.2.1 HI.out.2.2.1 HI.out.2.2.2 rfl (by decide) v4 _ _ rfl HO4.out _ rfl (G.length - k) (flat ie (G.drop k)) (HD.out.imp id (fun ⟨ad, c, e, hh⟩ => ⟨ad, c, e, hh _ HQ4.out⟩)) (by rw [flat_len ie ie_len, List.length_drop]) (flat_one ie ie_one) (by unfold maxLen; rw [List.length_append, List.length_take]; simp only [List.length_cons, List.length_nil]; omega) (by rw [List.length_append, List.length_take]; simp only [List.length_cons, List.length_nil]; omega) (by have := HQ4.out.size; omega) ?_; intro v5 w5 hown' hgrow; have HO5 := hid (own_append' (enc := ie) (L := G.take k ++ [n]) (L' := G.drop k) hown' (by rw [List.length_drop])); have HQ5 : Hid (Q w w5) := (hid (Below.grown HQ4.out hgrow HQ4.out.size (HO4.out.blk))); clear hown' hgrow))
          go_ret
          exact ⟨_, rfl, (own_eq HO5.out HR.out).mono hB, HQ5.out⟩
        · have HD : Hid ((Value.slice (some ⟨g, k, none⟩) (G.length - k) (cap - k) = .slice none 0 0 ∧ G.length - k = 0 ∧ flat ie (G.drop k) = []) ∨ ∃ ad c, Value.slice (some ⟨g, k, none⟩) (G.length - k) (cap - k) = .slice (some ad) (G.length - k) c ∧ ∀ W, Q w W → ∀ j u, (flat ie (G.drop k))[j]? = some u → W.cell? (ad.add j) = some u) := .inr ⟨_, _, rfl, fun W q => by
            have := sl_drop (HS.out.on q) k hk
            rw [Nat.mul_one, Nat.zero_add] at this
            exact sl_news this ie_len (by decide)⟩
          have hck' : (cap = k) = False := _root_.eq_false hck
          clear hck
          go_wp2_with (first
            | (at_builtin; refine wpList_append_src rfl _ _ 44 rfl w.heap.size 2 i0 (.int .i64 0) 1 8 Try.underlying44 HI.out.1 HI.out.2.1 HI.out.2.2.1 HI.out.2.2.2 rfl (by decide) (.slice none 0 0) 0 [] rfl (World.ownsRow_nil _ _ _ _) (.slice (some ⟨g, 0, none⟩) k cap) rfl k (flat ie (G.take k)) (sl_src (sl_take HS.out k hk) (by rw [List.length_take]; omega) ie_len (by decide)) (by rw [flat_len ie ie_len, List.length_take]; omega) (flat_one ie ie_one) (by unfold maxLen; omega) (by omega) (Nat.le_refl _) ?_; intro v3 w3 hown' hgrow; have HO3 := hid (own_first (enc := ie) (L := G.take k) hown' (by rw [List.length_take]; omega)); have HQ3 : Hid (Q w w3) := (hid (Below.grown (Q.refl w) hgrow (Nat.le_refl _) (fun k e => by cases e))); clear hown' hgrow)
            | (at_builtin; refine wpList_append_own _ rfl _ _ 44 rfl w.heap.size 2 i0 (.int .i64 0) 1 8 Try.underlying44 HI.out.1 HI.out.2.1 HI.out.2.2.1 HI.out.2.2.2 rfl (by decide) v3 _ _ rfl (HO3.out.alloc _) _ 1 1 [.int .i64 n] rfl rfl (news_at _ [.int .i64 n] 2 _ (by simp)) (ie_one n) (by unfold maxLen; rw [List.length_take]; omega) (by rw [List.length_take]; omega) (by have := HQ3.out.size; simp; omega) ?_; intro v4 w4 hown' hgrow _; have HO4 := hid (own_snoc' (enc := ie) (L := G.take k) (x := n) hown' rfl); have HQ4 : Hid (Q w w4) := (hid (Below.grown (HQ3.out.alloc _) hgrow (by have := HQ3.out.size; simp; omega) (HO3.out.blk))); clear hown' hgrow)
            | (at_builtin; refine wpList_append_src rfl _ _ 44 rfl w.heap.size 2 i0 (.int .i64 0) 1 8 Try.underlying44 HI.out.1 HI.out.2.1 HI.out.2.2.1 HI.out.2.2.2 rfl (by decide) v4 _ _ rfl HO4.out _ rfl (G.length - k) (flat ie (G.drop k)) (HD.out.imp id (fun ⟨ad, c, e, hh⟩ => ⟨ad, c, e, hh _ HQ4.out⟩)) (by rw [flat_len ie ie_len, List.length_drop]) (flat_one ie ie_one) (by unfold maxLen; rw [List.length_append, List.length_take]; simp only [List.length_cons, List.length_nil]; omega) (by rw [List.length_append, List.length_take]; simp only [List.length_cons, List.length_nil]; omega) (by have := HQ4.out.size; omega) ?_; intro v5 w5 hown' hgrow; have HO5 := hid (own_append' (enc := ie) (L := G.take k ++ [n]) (L' := G.drop k) hown' (by rw [List.length_drop])); have HQ5 : Hid (Q w w5) := (hid (Below.grown HQ4.out hgrow HQ4.out.size (HO4.out.blk))); clear hown' hgrow))
          go_ret
          exact ⟨_, rfl, (own_eq HO5.out HR.out).mono hB, HQ5.out⟩
end Go.Proofs.Ytkbpdgghnlnakaa
