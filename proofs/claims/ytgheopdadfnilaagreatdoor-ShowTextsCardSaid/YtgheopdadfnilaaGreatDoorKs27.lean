/- What is parsed, plainly, as a relation; what is parsed may be; what is printed is parsed as itself; show.writeTree of a minus sign, walked; show.writeTree of an operator, walked; show.writeTree of a text and of a range, walked. -/
import Derived.Test.YtgheopdadfnilaaGreatDoorKs21
import Derived.Test.YtgheopdadfnilaaGreatDoorKs25
import Derived.Test.YtgheopdadfnilaaGreatDoorKs10
import Derived.Test.YtgheopdadfnilaaGreatDoorKs19
import Derived.Test.YtgheopdadfnilaaGreatDoorKs11
import Derived.Test.YtgheopdadfnilaaGreatDoorKs02
import Derived.BigQuiet
import Derived.Test.YtgheopdadfnilaaGreatDoorKs12
import Derived.Test.YtgheopdadfnilaaGreatDoorKs05
import Derived.Deep.CutBlock
import Derived.Deep.CutRange
import Derived.Test.YtgheopdadfnilaaGreatDoorKs01
import Derived.Test.YtgheopdadfnilaaGreatDoorKs26
import Derived.Test.YtgheopdadfnilaaGreatDoorKs15
import Derived.Test.YtgheopdadfnilaaGreatDoorKs23
import Derived.Test.YtgheopdadfnilaaGreatDoorKs13
import Derived.Test.YtgheopdadfnilaaGreatDoorKs20
import Derived.Deep.RegionHeld3
import Derived.Lib.ReplaceLaws
namespace Go.Proofs.YtgheopdadfnilaaGreatDoor
open Go.RowKit
set_option linter.unusedVariables false
set_option linter.unusedSimpArgs false
/-- this is parsed of that text -/
def PzR (l : List UInt8) (r : Ex × Nat) : Prop :=
  (∃ n, scanL l = (none, n) ∧ r = (zeroE, 2)) ∨ ∃ L n f o, scanL l = (some L, n) ∧ ptF EE L f 1 0 = some o ∧ r = finR L o
theorem pz_total (l : List UInt8) : ∃ r, PzR l r := by
  cases hsc : scanL l with
  | mk ol n =>
    cases ol with
    | none => exact ⟨(zeroE, 2), .inl ⟨n, hsc, rfl⟩⟩
    | some L =>
      obtain ⟨hpos, hr, hE, hG, hK, hz⟩ := scan_good hsc
      obtain ⟨f, r, hf⟩ := total_ref EE L hE L.length ⟨0, false, 0⟩ (by simp) hpos 1 (by omega) (by omega)
      obtain ⟨g, o, hg, hag⟩ := (same_all EE L hE hG f).1 1 ⟨0, false, 0⟩ r (by omega) (by omega) hpos rfl hf
      exact ⟨finR L o, .inr ⟨L, n, g, o, hsc, hg, rfl⟩⟩
theorem pt_fun {E : Env} {L : List Wd} {f g lv i : Nat} {o p : Option (Ex × Nat)} (h : ptF E L f lv i = some o) (k : ptF E L g lv i = some p) : o = p := by
  have h1 := ptF_le h (Nat.le_max_left f g)
  have h2 := ptF_le k (Nat.le_max_right f g)
  rw [h1] at h2
  exact Option.some.inj h2
theorem pz_fun {l : List UInt8} {r q : Ex × Nat} (h : PzR l r) (k : PzR l q) : r = q := by
  rcases h with ⟨n, h1, rfl⟩ | ⟨L, n, f, o, h1, h2, rfl⟩
  · rcases k with ⟨m, k1, rfl⟩ | ⟨M, m, g, p, k1, k2, rfl⟩
    · rfl
    · rw [h1] at k1; cases k1
  · rcases k with ⟨m, k1, rfl⟩ | ⟨M, m, g, p, k1, k2, rfl⟩
    · rw [h1] at k1; cases k1
    · rw [h1] at k1
      cases k1
      rw [pt_fun h2 k2]
theorem pz_prog {s : ByteArray} {r : Ex × Nat} (h : PzR s.data.toList r) (hs : s.size ≤ 100000) (W : World) (hw : Std W) : Calls Tryz.prog 76 #[.string s] W fun e W' => RepR W r e W' := by
  rcases h with ⟨n, h1, rfl⟩ | ⟨L, n, f, o, h1, h2, rfl⟩
  · exact pparse_scan s W hw hs n h1
  · exact pparse_any s W hw hs L n f o h1 h2
/-- what is printed is parsed as itself -/
theorem pz_fm {x : Ex} (hm : mall mayN x = true) (hr : Rn x) (hf : fitB x = true) (hl : (fmE x).length ≤ 1000) : PzR (fmE x) (x, 0) := by
  obtain ⟨L, f, j, h1, h2, h3⟩ := fm_read hm hr hl
  refine .inr ⟨L, 0, f, _, h1, h2, ?_⟩
  unfold finR
  simp only
  rw [if_pos h3, hf]
  rfl
/-- more of what a word is -/
def WdMay (x : Wd) : Prop := (x.k = 1 → 0 ≤ EE.num x.t ∧ EE.num x.t ≤ 9223372036854775807) ∧ (x.k = 2 → V.mtB x.t = true)
theorem parse2_pos {t : List UInt8} {n : Int} (h : V.parse2 t false = some n) : 0 ≤ n := by
  unfold V.parse2 at h
  split at h
  · have := Option.some.inj h
    rw [← this]
    unfold V.sgn
    simp
  · cases h
theorem num_pos {t : List UInt8} (hj : ∀ c ∈ t, joinB c = true) (h : V.pf (V.parseO t) = true) : 0 ≤ V.pk (V.parseO t) ∧ V.pk (V.parseO t) ≤ 9223372036854775807 := by
  have e : V.parseO t = V.parse2 t false := by
    rw [V.parseO_eq, no_dash hj]
    unfold Lib.trimPrefix
    rw [no_dash hj]
    rfl
  cases hp : V.parseO t with
  | none => rw [hp] at h; cases h
  | some n =>
    rw [hp] at h e
    have h0 := parse2_pos e.symm
    have hf : V.fitB n = true := h
    have h1 := (of_decide_eq_true hf).2
    show 0 ≤ V.keep n ∧ V.keep n ≤ _
    unfold V.keep
    rw [hf]
    exact ⟨h0, h1⟩
theorem twm_of {p : UInt8 → Bool} : ∀ {l : List UInt8} {c : UInt8}, c ∈ l.takeWhile p → p c = true
  | [], c, h => by simp at h
  | d :: l, c, h => by
    rw [List.takeWhile_cons] at h
    split at h
    · rename_i hd
      rcases List.mem_cons.1 h with rfl | h
      · exact hd
      · exact twm_of h
    · cases h
theorem word_may {l : List UInt8} (h : (wordF l).2.2 ≠ 0) (a : Nat) : WdMay ⟨(wordF l).1, (wordF l).2.1, a⟩ := by
  by_cases h34 : l.headD 0 = 34
  · have e : wordF l = quoW l := by unfold wordF; rw [if_pos h34]
    rw [e] at h ⊢
    unfold quoW at h ⊢
    cases hq : quoF (l.drop 1) [] 1 with
    | none => rw [hq] at h; exact absurd rfl h
    | some r =>
      obtain ⟨t, n⟩ := r
      rw [hq] at h
      unfold quoP at h ⊢
      simp only at h ⊢
      by_cases hm : V.mtB t = true
      · rw [if_pos hm]
        exact ⟨fun e => by simp at e, fun _ => hm⟩
      · rw [if_neg hm] at h; exact absurd rfl h
  · by_cases h35 : l.headD 0 = 35
    · have e : wordF l = errW l := by unfold wordF; rw [if_neg h34, if_pos h35]
      rw [e] at h ⊢
      unfold errW at h ⊢
      cases hq : errF l with
      | none => rw [hq] at h; exact absurd rfl h
      | some e => exact ⟨fun e => by simp [errP] at e, fun e => by simp [errP] at e⟩
    · by_cases hj : joinB (l.headD 0) = true
      · have e : wordF l = joinW l := by unfold wordF; rw [if_neg h34, if_neg h35, if_pos hj]
        rw [e] at h ⊢
        unfold joinW at h ⊢
        split at h
        · exact absurd rfl h
        · rename_i hk
          rw [if_neg hk]
          have hall : ∀ c ∈ l.takeWhile joinB, joinB c = true := fun c hc => twm_of hc
          generalize l.takeWhile joinB = t at hk hall ⊢
          unfold kindJ at hk ⊢
          by_cases c1 : V.pf (V.parseO t) = true
          · rw [if_pos c1]
            exact ⟨fun _ => num_pos hall c1, fun e => by simp at e⟩
          · rw [if_neg c1] at hk ⊢
            split
            · exact ⟨fun e => by simp at e, fun e => by simp at e⟩
            · split
              · exact ⟨fun e => by simp at e, fun e => by simp at e⟩
              · exact ⟨fun e => by simp at e, fun e => by simp at e⟩
      · have e : wordF l = sigW l := by unfold wordF; rw [if_neg h34, if_neg h35, if_neg hj]
        rw [e] at h ⊢
        unfold sigW at h ⊢
        cases hq : sigF l with
        | none => rw [hq] at h; exact absurd rfl h
        | some t => exact ⟨fun e => by simp [sigP] at e, fun e => by simp [sigP] at e⟩
theorem scanG_may : ∀ (f : Nat) (l : List UInt8) (a : Nat) (acc L : List Wd) (n : Nat), (∀ x ∈ acc, WdMay x) → scanG f l a acc = (some L, n) → ∀ x ∈ L, WdMay x := by
  intro f
  induction f with
  | zero =>
    intro l a acc L n hacc h
    unfold scanG at h
    cases h
    exact hacc
  | succ f ih =>
    intro l a acc L n hacc h
    cases l with
    | nil => unfold scanG at h; cases h; exact hacc
    | cons c r =>
      unfold scanG at h
      split at h
      · exact ih _ _ _ _ _ hacc h
      · split at h
        · cases h
        · rename_i hn
          refine ih _ _ _ _ _ ?_ h
          intro x hx
          rw [List.mem_append] at hx
          rcases hx with hx | hx
          · exact hacc x hx
          · simp only [List.mem_singleton] at hx
            subst hx
            exact word_may hn a
theorem scan_may {l : List UInt8} {L : List Wd} {n : Nat} (h : scanL l = (some L, n)) : ∀ x ∈ L, WdMay x := by
  unfold scanL at h
  split at h
  · cases h
  · split at h
    · rename_i Ls n' hs
      cases h
      have h1 := scanG_may _ _ _ _ _ _ (fun x hx => by cases hx) hs
      intro x hx
      rcases List.mem_append.1 hx with hx | hx
      · exact h1 x hx
      · rw [List.mem_singleton.1 hx]
        exact ⟨fun e => by simp at e, fun e => by simp at e⟩
    · cases h
theorem at_may {L : List Wd} (h : ∀ x ∈ L, WdMay x) (i : Nat) : WdMay ⟨kAt L i, tAt L i, 0⟩ := by
  rcases Nat.lt_or_ge i L.length with hi | hi
  · have hk := kAt_get hi
    have := h L[i] (List.getElem_mem hi)
    rw [hk.1, hk.2]
    exact this
  · unfold kAt tAt
    rw [List.getD_eq_getElem?_getD, List.getElem?_eq_none hi]
    exact ⟨fun e => by simp at e, fun e => by simp at e⟩
theorem kAt_lt {L : List Wd} {i : Nat} (h : kAt L i ≠ 7) : i < L.length := by
  rcases Nat.lt_or_ge i L.length with hi | hi
  · exact hi
  · unfold kAt at h
    rw [List.getD_eq_getElem?_getD, List.getElem?_eq_none hi] at h
    exact absurd rfl h
/-- a tree that may be -/
def MX (x : Ex) : Prop := mall mayN x = true ∧ Rn x
theorem mx_leaf {k n : Int} {t : List UInt8} {b : Bool} {e : Int} {rs : List Rf} (h : mayN (.mk k n t b e rs []) = true) (hn : n ≤ 9223372036854775807) : MX (.mk k n t b e rs []) := by
  refine ⟨?_, ?_⟩
  · rw [mall, h, mall.mallL]; rfl
  · rw [Rn, Rn.RnL]; exact ⟨hn, trivial⟩
theorem mx_node {k n : Int} {t : List UInt8} {b : Bool} {e : Int} {rs : List Rf} {ks : List Ex} (h : mayN (.mk k n t b e rs ks) = true) (hn : n ≤ 9223372036854775807) (hk : ∀ y ∈ ks, MX y) : MX (.mk k n t b e rs ks) := by
  refine ⟨?_, ?_⟩
  · rw [mall, h, mallL_all, Bool.true_and, List.all_eq_true]
    exact fun y hy => (hk y hy).1
  · rw [Rn]
    exact ⟨hn, rnL_of fun y hy => (hk y hy).2⟩
theorem mx_num {n : Int} (h0 : 0 ≤ n) (h1 : n ≤ 9223372036854775807) : MX (numE n) := mx_leaf (by rw [mayN]; simp [bareB, h0]) h1
theorem mx_text {t : List UInt8} (h : V.mtB t = true) : MX (textE t) := mx_leaf (by rw [mayN]; simp [bareB, V.mayB, h]) (by omega)
theorem mx_bool (b : Bool) : MX (boolE b) := mx_leaf (by rw [mayN]; simp [bareB]) (by omega)
theorem errN_in {t : List UInt8} (h : errN t ≠ 0) : enL (errN t : Int) = t := by
  unfold errN at h ⊢
  split
  · rename_i e; rw [e]; rfl
  rename_i h1
  split
  · rename_i e; rw [e]; rfl
  rename_i h2
  split
  · rename_i e; rw [e]; rfl
  rename_i h3
  split
  · rename_i e; rw [e]; rfl
  rename_i h4
  split
  · rename_i e; rw [e]; rfl
  rename_i h5
  split
  · rename_i e; rw [e]; rfl
  rename_i h6
  split
  · rename_i e; rw [e]; rfl
  rename_i h7
  rw [if_neg h1, if_neg h2, if_neg h3, if_neg h4, if_neg h5, if_neg h6, if_neg h7] at h
  exact absurd rfl h
theorem errN_ne {t : List UInt8} (h : errN t ≠ 0) : enL (errN t : Int) ≠ [] := by
  intro e
  rw [errN_in h] at e
  subst e
  exact h (by decide)
theorem mx_err {t : List UInt8} (h : errN t ≠ 0) : MX (errE (errN t)) := mx_leaf (by rw [mayN]; simp [bareB, errN_ne h]) (by omega)
theorem colV_pos {l : List UInt8} (h : l ≠ []) : 1 ≤ colV l := by
  rw [← List.dropLast_concat_getLast h, colV_snoc]
  omega
theorem tail_may {c sh : List UInt8} (h : tailF c = true) : (0 ≤ (tailT sh c).2.1 ∧ (tailT sh c).2.1 < 2199023255552) ∧ 0 ≤ (tailT sh c).2.2.1 ∧ (tailT sh c).2.2.1 < 2199023255552 := by
  unfold tailF at h
  simp only [Bool.and_eq_true, decide_eq_true_eq] at h
  obtain ⟨h1, h2, h3⟩ := h
  unfold tailT
  simp only
  unfold colF at h1
  unfold numF at h2
  simp only [Bool.and_eq_true, decide_eq_true_eq] at h1 h2
  have hp := colV_pos (l := (Lib.trimPrefix c [36]).takeWhile let1) (by intro e; rw [e] at h1; simp at h1)
  have := h1.2
  have := h2.2
  omega
theorem ref_may {l : List UInt8} (h : refF l = true) : mayR (refT l).1 (refT l).2.1 (refT l).2.2.1 = true := by
  cases hc : Lib.cut l [33] with
  | mk a r =>
    obtain ⟨b, f⟩ := r
    cases f with
    | false =>
      obtain ⟨e1, e2⟩ := ref_free hc
      rw [e1] at h
      rw [e2, h, if_pos rfl]
      have := tail_may (sh := []) h
      unfold mayR
      rw [decide_eq_true this.1, decide_eq_true this.2]
      rfl
    | true =>
      obtain ⟨e1, e2⟩ := ref_other hc
      rw [e1] at h
      rw [e2, h, if_pos rfl]
      simp only [Bool.and_eq_true] at h
      have := tail_may (sh := a) h.2
      unfold mayR
      rw [decide_eq_true this.1, decide_eq_true this.2, show (tailT a b).1 = a from rfl, h.1]
      simp
theorem mx_ref {t : List UInt8} (h : refF t = true) : MX (refE (refT t)) := mx_leaf (by rw [mayN]; simp [bareB, oneB, ref_may h]) (by omega)
theorem mx_range {t u : List UInt8} (h : refF t = true) (h' : refF u = true) (h0 : (refT u).1 = []) : MX (rangeE (refT t) (refT u)) := mx_leaf (by rw [mayN]; simp [bareB, rngB, ref_may h, ref_may h', h0]; rw [← h0]; exact ref_may h') (by omega)
theorem mx_neg {x : Ex} (h : MX x) : MX (negE x) := mx_node (by rw [mayN]; simp [bareB]) (by omega) (by simpa using h)
theorem mx_bin {o : List UInt8} {x y : Ex} (ho : 1 ≤ lvl o) (h : MX x) (h' : MX y) : MX (binE o x y) := mx_node (by rw [mayN]; simp [bareB, ho]) (by omega) (by
  intro z hz
  simp only [List.mem_cons, List.not_mem_nil, or_false] at hz
  rcases hz with rfl | rfl
  · exact h
  · exact h')
theorem mx_call {t : List UInt8} {ks : List Ex} (ht : namF t = true) (hl : ks.length ≤ 30) (h : ∀ y ∈ ks, MX y) : MX (callE t ks) := mx_node (by rw [mayN]; simp [bareB, ht, hl]) (by omega) h
theorem read_may (L : List Wd) (hG : Good EE L) (hM : ∀ x ∈ L, WdMay x) : ∀ f : Nat,
    (∀ lv i x j, 1 ≤ lv → ptF EE L f lv i = some (some (x, j)) → MX x) ∧
    (∀ lv y i x j, 1 ≤ lv → MX y → ptF.plF EE L f lv y i = some (some (x, j)) → MX x) ∧
    (∀ i x j, ptF.paF EE L f i = some (some (x, j)) → MX x) ∧
    (∀ i x j, ptF.pfF EE L f i = some (some (x, j)) → MX x) ∧
    (∀ t ks i x j, namF t = true → (∀ y ∈ ks, MX y) → ptF.pgF EE L f t ks i = some (some (x, j)) → MX x) := by
  intro f
  induction f with
  | zero =>
    refine ⟨?_, ?_, ?_, ?_, ?_⟩
    · intro lv i x j _ h; rw [ptF] at h; cases h
    · intro lv y i x j _ _ h; rw [ptF.plF] at h; cases h
    · intro i x j h; rw [ptF.paF] at h; cases h
    · intro i x j h; rw [ptF.pfF] at h; cases h
    · intro t ks i x j _ _ h; rw [ptF.pgF] at h; cases h
  | succ f ih =>
    obtain ⟨i1, i2, i3, i4, i5⟩ := ih
    refine ⟨?_, ?_, ?_, ?_, ?_⟩
    · intro lv i x j hlv h
      rw [ptF] at h
      obtain ⟨o, h1, h2⟩ := Option.bind_eq_some_iff.1 h
      cases o with
      | none => cases h2
      | some r => exact i2 lv r.1 r.2 x j hlv (i3 i r.1 r.2 h1) h2
    · intro lv y i x j hlv hy h
      rw [ptF.plF] at h
      split at h
      · rename_i hs
        obtain ⟨o, h1, h2⟩ := Option.bind_eq_some_iff.1 h
        cases o with
        | none => cases h2
        | some r =>
          have hk := stg_six (L := L) (i := i) (by omega)
          have hs' : stg L i = lvl (tAt L i) := by unfold stg; rw [if_pos hk]
          exact i2 lv _ r.2 x j hlv (mx_bin (by omega) hy (i1 _ _ r.1 r.2 (by omega) h1)) h2
      · cases h
        exact hy
    · intro i x j h
      rw [ptF.paF] at h
      split at h
      · obtain ⟨o, h1, h2⟩ := Option.bind_eq_some_iff.1 h
        cases o with
        | none => cases h2
        | some r =>
          cases h2
          exact mx_neg (i3 _ r.1 r.2 h1)
      · exact i4 i x j h
    · intro i x j h
      rw [ptF.pfF] at h
      split at h
      · obtain ⟨o, h1, h2⟩ := Option.bind_eq_some_iff.1 h
        cases o with
        | none => cases h2
        | some r =>
          have h2 := Option.some.inj h2
          split at h2
          · cases h2
            exact i1 1 _ r.1 r.2 (by omega) h1
          · cases h2
      · split at h
        · rename_i hk
          split at h
          · cases h
            exact mx_bool _
          · split at h
            · rename_i hn
              split at h
              · cases h
                exact mx_call hn.1 (by simp) (by simp)
              · exact i5 _ [] _ x j hn.1 (by simp) h
            · cases h
        · have h := Option.some.inj h
          unfold poneF at h
          have hw := at_may hM i
          split at h
          · rename_i hk
            split at h
            · cases h
              have := hw.1 hk
              exact mx_num this.1 this.2
            · cases h
          · split at h
            · rename_i hk
              cases h
              exact mx_text (hw.2 hk)
            · split at h
              · rename_i hk
                cases h
                exact mx_err (hG.err i (kAt_lt (by omega)) hk)
              · split at h
                · rename_i hk
                  have hr := hG.ref i (kAt_lt (by omega)) hk
                  split at h
                  · cases h
                  · split at h
                    · split at h
                      · rename_i h3
                        cases h
                        exact mx_range hr h3.2.1 h3.2.2
                      · cases h
                    · cases h
                      exact mx_ref hr
                · cases h
    · intro t ks i x j ht hks h
      rw [ptF.pgF] at h
      split at h
      · rename_i hl
        obtain ⟨o, h1, h2⟩ := Option.bind_eq_some_iff.1 h
        cases o with
        | none => cases h2
        | some r =>
          have hr := i1 1 i r.1 r.2 (by omega) h1
          have hall : ∀ y ∈ ks ++ [r.1], MX y := by
            intro y hy
            rcases List.mem_append.1 hy with hy | hy
            · exact hks y hy
            · rw [List.mem_singleton.1 hy]; exact hr
          simp only at h2
          split at h2
          · exact i5 t _ _ x j ht hall h2
          · have h2 := Option.some.inj h2
            split at h2
            · cases h2
              exact mx_call ht (by simp; omega) hall
            · cases h2
      · cases h
/-- what is parsed may be -/
theorem pz_may {l : List UInt8} {x : Ex} (h : PzR l (x, 0)) : fitB x = true ∧ mall mayN x = true ∧ Rn x := by
  rcases h with ⟨n, h1, h2⟩ | ⟨L, n, f, o, h1, h2, h3⟩
  · cases h2
  · obtain ⟨hpos, hr, hE, hG, hK, hz⟩ := scan_good h1
    cases o with
    | none => cases h3
    | some xj =>
      obtain ⟨y, j⟩ := xj
      unfold finR at h3
      simp only at h3
      split at h3
      · split at h3
        · rename_i hf
          cases h3
          have := (read_may L hG (scan_may h1) f).1 1 0 x j (by omega) h2
          exact ⟨hf, this.1, this.2⟩
        · cases h3
      · cases h3
end Go.Proofs.YtgheopdadfnilaaGreatDoor
namespace Go.Proofs.YtgheopdadfnilaaGreatDoor
open Go.RowKit
set_option linter.unusedVariables false
set_option linter.unusedSimpArgs false
theorem rd_kt {W : World} {x : Ex} {k m : Int} {t : ByteArray} {b : Bool} {e : Int} {rv kv : Value} (h : Rd W x (.agg #[.int .i64 k, .int .i64 m, .string t, .bool b, .int .i64 e, rv, kv])) : x.k = k ∧ x.t = t.data.toList := by
  obtain ⟨k9, n9, t9, b9, e9, rs, ks, rv', kv', ao, cap, hv, hp⟩ := h.prt
  simp at hv
  obtain ⟨rfl, rfl, rfl, _⟩ := hv
  rw [hp.ex]
  exact ⟨rfl, rfl⟩
theorem brk_len (br : Bool) (T : List UInt8) : T.length ≤ (brk br T).length ∧ (brk br T).length ≤ T.length + 2 := by
  cases br
  · exact ⟨Nat.le_refl _, Nat.le_add_right _ _⟩
  · unfold brk; simp; omega
/-- trees' blocks of W1 stay, and all that W0 has -/
def Svt (W0 W1 V : World) : Prop := Kp W1 V ∧ Q W0 V
theorem Svt.q {W0 W1 V V' : World} (h : Svt W0 W1 V) (q : Q V V') : Svt W0 W1 V' := ⟨h.1.trans (Kp.of q), h.2.trans q⟩
theorem Svt.start {W0 W1 V : World} (h : Q W0 W1) (q : Q W1 V) : Svt W0 W1 V := ⟨Kp.of q, h.trans q⟩
/-- the seven cells of a tree's own block -/
theorem Svt.own {W0 W1 V : World} {b1 : Nat} {cs : List Value} (h : Svt W0 W1 V) (H1 : W1.heap[b1]? = some (.cells cs.toArray 26 (0, 0))) {j : Nat} {u : Value} (hu : cs[j]? = some u) : V.cell? ⟨b1, j, none⟩ = some u :=
  (cb_heap (cs := cs) ((h.1 _ _ _ H1).trans H1)).c j u hu
theorem Svt.old {W0 W1 V : World} {kb o : Nat} {u : Value} (h : Svt W0 W1 V) (hk : W0.cell? ⟨kb, o, none⟩ = some u) : V.cell? ⟨kb, o, none⟩ = some u :=
  (h.2.cell (World.block_lt_of_cell? W0 _ hk)).trans hk
set_option maxRecDepth 100000 in
set_option maxHeartbeats 8000000 in
theorem pr_neg (a : Ex) (Ta : List UInt8) (ha : Wri a Ta) : Wri (negE a) (45 :: brk (decide (a.k = 8)) Ta) := by
  intro W0 W b bs v hg hb hr hl
  obtain ⟨k, m, t, bb, er, rs, ks, rv', kv, ao, kc, rfl, hp⟩ := hr.prt
  have hx := hp.ex
  unfold negE at hx
  simp only [Ex.mk.injEq] at hx
  obtain ⟨rfl, rfl, ht, rfl, rfl, rfl, rfl⟩ := hx
  have hkl := hp.kl
  subst hkl
  obtain ⟨a1, c1, hrv, _, _⟩ := hp.rl.len
  subst hrv
  obtain ⟨kb, ko, rfl, hkl⟩ := hp.kd (by simp)
  obtain ⟨p0, p1, p2, p3, p4, p5, p6, hk0⟩ := hkl.kid 0 (by simp)
  obtain ⟨ak, am, at', ab, ae, aa1, al1, ac1, aa2, al2, ac2, hav⟩ := hk0.rd.shape
  simp only [Value.agg.injEq, Array.mk.injEq, List.cons.injEq, and_true] at hav
  obtain ⟨rfl, rfl, rfl, rfl, rfl, rfl, rfl⟩ := hav
  have hkta := rd_kt hk0.rd
  simp only [List.getElem_cons_zero, List.getElem_cons_succ] at hkta
  have HKa := hid hk0
  simp only [Nat.zero_mul, Nat.add_zero, Nat.one_mul, List.getElem_cons_zero, List.getElem_cons_succ] at HKa
  rw [hkta.1] at hl ⊢
  obtain ⟨bra, hbra⟩ : ∃ x, decide (ak = 8) = x := ⟨_, rfl⟩
  have eA : ((ak : Int) == 8) = bra := by rw [← hbra]; rfl
  rw [hbra] at hl ⊢
  have lA := brk_len bra Ta
  have HSa := hid (fun W' bs' (h : Bd W0 W' b bs') (hl' : bs'.length + (brk bra Ta).length ≤ 100000) => side_any a Ta ha W0 W' b bs' _ bra hg h HKa.out.rd hl')
  have HB := hid hb
  simp only [List.length_cons] at hl
  generalize brk bra Ta = TA at HSa hl ⊢
  have HGL : Hid (((bs ++ [45]) ++ TA) = bs ++ (45 :: TA)) := by show _ = _; simp
  rw [← HGL.out]
  clear HGL lA hk0 hr hp hkl ha hg hb hbra hkta ht
  go_enter Tryz.func28, Tryz.ntmps28
  go_upto_region 1 with fail
  have H1 := hid (heap_alloc_new W (.cells #[.int .i64 7, .int .i64 0, .string t, .bool false, .int .i64 0, .slice a1 0 c1, .slice (some ⟨kb, ko, none⟩) 1 kc] 26))
  have B1 := hid (HB.out.on ((Q.refl W).alloc (.cells #[.int .i64 7, .int .i64 0, .string t, .bool false, .int .i64 0, .slice a1 0 c1, .slice (some ⟨kb, ko, none⟩) 1 kc] 26)))
  have K1 := hid (Kp.of ((Q.refl W).alloc (.cells #[.int .i64 7, .int .i64 0, .string t, .bool false, .int .i64 0, .slice a1 0 c1, .slice (some ⟨kb, ko, none⟩) 1 kc] 26)))
  generalize W.alloc (.cells #[.int .i64 7, .int .i64 0, .string t, .bool false, .int .i64 0, .slice a1 0 c1, .slice (some ⟨kb, ko, none⟩) 1 kc] 26) = W1 at H1 B1 K1 ⊢
  generalize W.heap.size = b1 at H1 ⊢
  have s1 := hid (Svt.start (W0 := W0) (W1 := W1) B1.out.2 (Q.refl W1))
  have e0 : ∀ V, Svt W0 W1 V → V.cell? ⟨b1, 0, none⟩ = some (.int .i64 7) := fun V h => h.own (cs := [.int .i64 7, .int .i64 0, .string t, .bool false, .int .i64 0, .slice a1 0 c1, .slice (some ⟨kb, ko, none⟩) 1 kc]) H1.out rfl
  have e6 : ∀ V, Svt W0 W1 V → V.cell? ⟨b1, 6, none⟩ = some (.slice (some ⟨kb, ko, none⟩) 1 kc) := fun V h => h.own (cs := [.int .i64 7, .int .i64 0, .string t, .bool false, .int .i64 0, .slice a1 0 c1, .slice (some ⟨kb, ko, none⟩) 1 kc]) H1.out rfl
  have f0 : ∀ V, Svt W0 W1 V → V.cell? ⟨kb, ko, none⟩ = some (.int .i64 ak) := fun V h => h.old HKa.out.g0
  have f1 : ∀ V, Svt W0 W1 V → V.cell? ⟨kb, ko + 1, none⟩ = some (.int .i64 am) := fun V h => h.old HKa.out.g1
  have f2 : ∀ V, Svt W0 W1 V → V.cell? ⟨kb, ko + 2, none⟩ = some (.string at') := fun V h => h.old HKa.out.g2
  have f3 : ∀ V, Svt W0 W1 V → V.cell? ⟨kb, ko + 3, none⟩ = some (.bool ab) := fun V h => h.old HKa.out.g3
  have f4 : ∀ V, Svt W0 W1 V → V.cell? ⟨kb, ko + 4, none⟩ = some (.int .i64 ae) := fun V h => h.old HKa.out.g4
  have f5 : ∀ V, Svt W0 W1 V → V.cell? ⟨kb, ko + 5, none⟩ = some (.slice aa1 al1 ac1) := fun V h => h.old HKa.out.g5
  have f6 : ∀ V, Svt W0 W1 V → V.cell? ⟨kb, ko + 6, none⟩ = some (.slice aa2 al2 ac2) := fun V h => h.old HKa.out.g6
  have d0 := e0 W1 s1.out
  go_upto_region 10 with fail
  clear d0 e0
  go_wp2_with (go_at_call 58; refine (bd_write B1.out ⟨#[45]⟩ (by decide) (by show bs.length + 1 ≤ 1000000; omega)).mono ?_; rintro e9 w2 ⟨⟨u, rfl⟩, b2, k2⟩; have B2 := hid b2; have K2 := hid (K1.out.trans k2); have s2 : Hid (Svt W0 W1 w2.drew) := hid ⟨k2.trans (Kp.of (Q.refl w2).drew), b2.2.trans (Q.refl w2).drew⟩; clear b2 k2)
  go_region_held3 (Svt W0 W1) (with_reducible (first | exact s2.out | exact s3.out)) (first | (go_at_call 61; refine (HSa.out w2.drew (bs ++ [45]) (B2.out.on ((Q.refl w2).drew)) (by rw [List.length_append]; simp only [List.length_cons, List.length_nil]; omega)).mono ?_; rintro e9 w3 ⟨⟨u3, rfl⟩, b3, k3⟩; have B3 := hid b3; have K3 := hid ((K2.out.trans (Kp.of (Q.refl w2).drew)).trans k3); have s3 : Hid (Svt W0 W1 w3) := hid ⟨s2.out.1.trans k3, b3.2⟩; clear b3 k3))
  go_wp2_with fail
  go_end0
  exact ⟨⟨_, rfl⟩, B3.out, K3.out⟩
end Go.Proofs.YtgheopdadfnilaaGreatDoor
namespace Go.Proofs.YtgheopdadfnilaaGreatDoor
open Go.RowKit
set_option linter.unusedVariables false
set_option linter.unusedSimpArgs false
set_option maxRecDepth 100000 in
set_option maxHeartbeats 16000000 in
theorem pr_bin (o : List UInt8) (a c : Ex) (Ta Tc : List UInt8) (ho : 0 < o.length) (ha : Wri a Ta) (hc : Wri c Tc) : Wri (binE o a c) (brk (decide (sgE a.k a.t < sgE 8 o)) Ta ++ o ++ brk (decide (sgE c.k c.t ≤ sgE 8 o)) Tc) := by
  intro W0 W b bs v hg hb hr hl
  obtain ⟨k, m, t, bb, er, rs, ks, rv', kv, ao, kc, rfl, hp⟩ := hr.prt
  have hx := hp.ex
  unfold binE at hx
  simp only [Ex.mk.injEq] at hx
  obtain ⟨rfl, rfl, ht, rfl, rfl, rfl, rfl⟩ := hx
  have hkl := hp.kl
  subst hkl
  obtain ⟨a1, c1, hrv, _, _⟩ := hp.rl.len
  subst hrv
  obtain ⟨kb, ko, rfl, hkl⟩ := hp.kd (by simp)
  obtain ⟨p0, p1, p2, p3, p4, p5, p6, hk0⟩ := hkl.kid 0 (by simp)
  obtain ⟨q0, q1, q2, q3, q4, q5, q6, hk1⟩ := hkl.kid 1 (by simp)
  obtain ⟨ak, am, at', ab, ae, aa1, al1, ac1, aa2, al2, ac2, hav⟩ := hk0.rd.shape
  obtain ⟨ck, cm, ct', cb, ce, ca1, cl1, cc1, ca2, cl2, cc2, hcv⟩ := hk1.rd.shape
  simp only [Value.agg.injEq, Array.mk.injEq, List.cons.injEq, and_true] at hav hcv
  obtain ⟨rfl, rfl, rfl, rfl, rfl, rfl, rfl⟩ := hav
  obtain ⟨rfl, rfl, rfl, rfl, rfl, rfl, rfl⟩ := hcv
  have hkta := rd_kt hk0.rd
  have hktc := rd_kt hk1.rd
  simp only [List.getElem_cons_zero, List.getElem_cons_succ] at hkta hktc
  have HKa := hid hk0
  have HKc := hid hk1
  simp only [Nat.zero_mul, Nat.add_zero, Nat.one_mul, List.getElem_cons_zero, List.getElem_cons_succ] at HKa HKc
  rw [hkta.1, hkta.2, hktc.1, hktc.2] at hl ⊢
  rw [ht] at hl ho ⊢
  obtain ⟨na, hna⟩ : ∃ na, sgE ak at'.data.toList = na := ⟨_, rfl⟩
  obtain ⟨nc, hnc⟩ : ∃ nc, sgE ck ct'.data.toList = nc := ⟨_, rfl⟩
  obtain ⟨ne, hne⟩ : ∃ ne, sgE 8 t.data.toList = ne := ⟨_, rfl⟩
  rw [hna, hnc, hne] at hl ⊢
  have h62a := hid (fun W' => strength8 ak am at' ab ae aa1 aa2 al1 ac1 al2 ac2 W')
  have h62c := hid (fun W' => strength8 ck cm ct' cb ce ca1 ca2 cl1 cc1 cl2 cc2 W')
  have h62e := hid (fun W' => strength8 8 0 t false 0 a1 (some ⟨kb, ko, none⟩) 0 c1 2 kc W')
  rw [hna] at h62a
  rw [hnc] at h62c
  rw [hne] at h62e
  have lA := brk_len (decide (na < ne)) Ta
  have lC := brk_len (decide (nc ≤ ne)) Tc
  simp only [List.length_append] at hl
  have hts : 0 < t.size := by rw [← len_data]; exact ho
  have htl : t.data.toList.length = t.size := len_data t
  obtain ⟨bra, hbra⟩ : ∃ x, decide (na < ne) = x := ⟨_, rfl⟩
  obtain ⟨brc, hbrc⟩ : ∃ x, decide (nc ≤ ne) = x := ⟨_, rfl⟩
  have eA : decide ((na : Int) < (ne : Int)) = bra := by rw [← hbra]; exact decide_eq_decide.2 (by omega)
  have eC : decide ((nc : Int) ≤ (ne : Int)) = brc := by rw [← hbrc]; exact decide_eq_decide.2 (by omega)
  rw [hbra, hbrc] at hl ⊢
  have HSa := hid (fun W' bs' (h : Bd W0 W' b bs') (hl' : bs'.length + (brk bra Ta).length ≤ 100000) => side_any a Ta ha W0 W' b bs' _ bra hg h HKa.out.rd hl')
  have HSc := hid (fun W' bs' (h : Bd W0 W' b bs') (hl' : bs'.length + (brk brc Tc).length ≤ 100000) => side_any c Tc hc W0 W' b bs' _ brc hg h HKc.out.rd hl')
  have HB := hid hb
  generalize brk bra Ta = TA at HSa hl ⊢
  generalize brk brc Tc = TC at HSc hl ⊢
  have HGL : Hid (((bs ++ TA) ++ t.data.toList) ++ TC = bs ++ (TA ++ t.data.toList ++ TC)) := by show _ = _; simp
  rw [← HGL.out]
  clear HGL lA lC hk0 hk1 hr hp hkl ho ha hc hg hb hna hnc hne hkta hktc ht
  go_enter Tryz.func28, Tryz.ntmps28
  go_upto_region 1 with fail
  have H1 := hid (heap_alloc_new W (.cells #[.int .i64 8, .int .i64 0, .string t, .bool false, .int .i64 0, .slice a1 0 c1, .slice (some ⟨kb, ko, none⟩) 2 kc] 26))
  have B1 := hid (HB.out.on ((Q.refl W).alloc (.cells #[.int .i64 8, .int .i64 0, .string t, .bool false, .int .i64 0, .slice a1 0 c1, .slice (some ⟨kb, ko, none⟩) 2 kc] 26)))
  have K1 := hid (Kp.of ((Q.refl W).alloc (.cells #[.int .i64 8, .int .i64 0, .string t, .bool false, .int .i64 0, .slice a1 0 c1, .slice (some ⟨kb, ko, none⟩) 2 kc] 26)))
  generalize W.alloc (.cells #[.int .i64 8, .int .i64 0, .string t, .bool false, .int .i64 0, .slice a1 0 c1, .slice (some ⟨kb, ko, none⟩) 2 kc] 26) = W1 at H1 B1 K1 ⊢
  generalize W.heap.size = b1 at H1 ⊢
  have s1 := hid (Svt.start (W0 := W0) (W1 := W1) B1.out.2 (Q.refl W1))
  have s10 := hid (Svt.start (W0 := W0) (W1 := W1) B1.out.2 (Q.refl W1).drew)
  have e0 : ∀ V, Svt W0 W1 V → V.cell? ⟨b1, 0, none⟩ = some (.int .i64 8) := fun V h => h.own (cs := [.int .i64 8, .int .i64 0, .string t, .bool false, .int .i64 0, .slice a1 0 c1, .slice (some ⟨kb, ko, none⟩) 2 kc]) H1.out rfl
  have e1 : ∀ V, Svt W0 W1 V → V.cell? ⟨b1, 1, none⟩ = some (.int .i64 0) := fun V h => h.own (cs := [.int .i64 8, .int .i64 0, .string t, .bool false, .int .i64 0, .slice a1 0 c1, .slice (some ⟨kb, ko, none⟩) 2 kc]) H1.out rfl
  have e2 : ∀ V, Svt W0 W1 V → V.cell? ⟨b1, 2, none⟩ = some (.string t) := fun V h => h.own (cs := [.int .i64 8, .int .i64 0, .string t, .bool false, .int .i64 0, .slice a1 0 c1, .slice (some ⟨kb, ko, none⟩) 2 kc]) H1.out rfl
  have e3 : ∀ V, Svt W0 W1 V → V.cell? ⟨b1, 3, none⟩ = some (.bool false) := fun V h => h.own (cs := [.int .i64 8, .int .i64 0, .string t, .bool false, .int .i64 0, .slice a1 0 c1, .slice (some ⟨kb, ko, none⟩) 2 kc]) H1.out rfl
  have e4 : ∀ V, Svt W0 W1 V → V.cell? ⟨b1, 4, none⟩ = some (.int .i64 0) := fun V h => h.own (cs := [.int .i64 8, .int .i64 0, .string t, .bool false, .int .i64 0, .slice a1 0 c1, .slice (some ⟨kb, ko, none⟩) 2 kc]) H1.out rfl
  have e5 : ∀ V, Svt W0 W1 V → V.cell? ⟨b1, 5, none⟩ = some (.slice a1 0 c1) := fun V h => h.own (cs := [.int .i64 8, .int .i64 0, .string t, .bool false, .int .i64 0, .slice a1 0 c1, .slice (some ⟨kb, ko, none⟩) 2 kc]) H1.out rfl
  have e6 : ∀ V, Svt W0 W1 V → V.cell? ⟨b1, 6, none⟩ = some (.slice (some ⟨kb, ko, none⟩) 2 kc) := fun V h => h.own (cs := [.int .i64 8, .int .i64 0, .string t, .bool false, .int .i64 0, .slice a1 0 c1, .slice (some ⟨kb, ko, none⟩) 2 kc]) H1.out rfl
  have f0 : ∀ V, Svt W0 W1 V → V.cell? ⟨kb, ko, none⟩ = some (.int .i64 ak) := fun V h => h.old HKa.out.g0
  have f1 : ∀ V, Svt W0 W1 V → V.cell? ⟨kb, ko + 1, none⟩ = some (.int .i64 am) := fun V h => h.old HKa.out.g1
  have f2 : ∀ V, Svt W0 W1 V → V.cell? ⟨kb, ko + 2, none⟩ = some (.string at') := fun V h => h.old HKa.out.g2
  have f3 : ∀ V, Svt W0 W1 V → V.cell? ⟨kb, ko + 3, none⟩ = some (.bool ab) := fun V h => h.old HKa.out.g3
  have f4 : ∀ V, Svt W0 W1 V → V.cell? ⟨kb, ko + 4, none⟩ = some (.int .i64 ae) := fun V h => h.old HKa.out.g4
  have f5 : ∀ V, Svt W0 W1 V → V.cell? ⟨kb, ko + 5, none⟩ = some (.slice aa1 al1 ac1) := fun V h => h.old HKa.out.g5
  have f6 : ∀ V, Svt W0 W1 V → V.cell? ⟨kb, ko + 6, none⟩ = some (.slice aa2 al2 ac2) := fun V h => h.old HKa.out.g6
  have g0 : ∀ V, Svt W0 W1 V → V.cell? ⟨kb, ko + 7, none⟩ = some (.int .i64 ck) := fun V h => h.old HKc.out.g0
  have g1 : ∀ V, Svt W0 W1 V → V.cell? ⟨kb, ko + 7 + 1, none⟩ = some (.int .i64 cm) := fun V h => h.old HKc.out.g1
  have g2 : ∀ V, Svt W0 W1 V → V.cell? ⟨kb, ko + 7 + 2, none⟩ = some (.string ct') := fun V h => h.old HKc.out.g2
  have g3 : ∀ V, Svt W0 W1 V → V.cell? ⟨kb, ko + 7 + 3, none⟩ = some (.bool cb) := fun V h => h.old HKc.out.g3
  have g4 : ∀ V, Svt W0 W1 V → V.cell? ⟨kb, ko + 7 + 4, none⟩ = some (.int .i64 ce) := fun V h => h.old HKc.out.g4
  have g5 : ∀ V, Svt W0 W1 V → V.cell? ⟨kb, ko + 7 + 5, none⟩ = some (.slice ca1 cl1 cc1) := fun V h => h.old HKc.out.g5
  have g6 : ∀ V, Svt W0 W1 V → V.cell? ⟨kb, ko + 7 + 6, none⟩ = some (.slice ca2 cl2 cc2) := fun V h => h.old HKc.out.g6
  have d0 := e0 W1 s1.out
  go_upto_region 13 with fail
  clear d0
  go_region_held3 (Svt W0 W1) (with_reducible (first | exact s10.out | exact s11.out | exact s12.out | exact s13.out)) (first | (go_at_call 61; refine (HSa.out w12 bs (B1.out.on q12.out) (by omega)).mono ?_; rintro e9 w13 ⟨⟨u3, rfl⟩, b13, k13⟩; have B13 := hid b13; have s13 : Hid (Svt W0 W1 w13) := hid ⟨(Kp.of q12.out).trans k13, b13.2⟩; clear b13 k13) | (go_at_call_of 62 t; refine (h62e.out w11).mono ?_; rintro e9 w12 ⟨rfl, q⟩; have q12 : Hid (Q W1 w12) := hid (q11.out.trans q); have s12 := hid (s11.out.q q); clear q) | (go_at_call_of 62 at'; refine (h62a.out W1.drew).mono ?_; rintro e9 w11 ⟨rfl, q⟩; have q11 : Hid (Q W1 w11) := hid ((Q.refl W1).drew.trans q); have s11 := hid (s10.out.q q); clear q))
  have d2 := e2 w13 s13.out
  go_upto_region 15 with (go_at_call 58; refine (bd_write B13.out t hts (by rw [List.length_append]; omega)).mono ?_; rintro e9 w2 ⟨⟨u, rfl⟩, b2, k2⟩; have B2 := hid b2; have s2 : Hid (Svt W0 W1 w2) := hid ⟨s13.out.1.trans k2, b2.2⟩; have s20 := hid (s2.out.q (Q.refl w2).drew); clear b2 k2)
  clear d2 f0 f1 f2 f3 f4 f5 f6
  go_region_held3 (Svt W0 W1) (with_reducible (first | exact s20.out | exact s21.out | exact s22.out | exact s23.out)) (first | (go_at_call 61; refine (HSc.out w22 _ (B2.out.on q22.out) (by rw [List.length_append, List.length_append]; omega)).mono ?_; rintro e9 w23 ⟨⟨u4, rfl⟩, b23, k23⟩; have B23 := hid b23; have s23 : Hid (Svt W0 W1 w23) := hid ⟨s22.out.1.trans k23, b23.2⟩; clear b23 k23) | (go_at_call_of 62 t; refine (h62e.out w21).mono ?_; rintro e9 w22 ⟨rfl, q⟩; have q22 : Hid (Q w2 w22) := hid (q21.out.trans q); have s22 := hid (s21.out.q q); clear q) | (go_at_call_of 62 ct'; refine (h62c.out w2.drew).mono ?_; rintro e9 w21 ⟨rfl, q⟩; have q21 : Hid (Q w2 w21) := hid ((Q.refl w2).drew.trans q); have s21 := hid (s20.out.q q); clear q))
  go_wp2_with fail
  go_end0
  exact ⟨⟨_, rfl⟩, B23.out, K1.out.trans s23.out.1⟩
end Go.Proofs.YtgheopdadfnilaaGreatDoor
namespace Go.Proofs.YtgheopdadfnilaaGreatDoor
open Go.RowKit
set_option linter.unusedVariables false
set_option linter.unusedSimpArgs false
theorem replaceAll_any (t : ByteArray) (w : World) (hw : Std w) (ht : t.size ≤ 1000) : Calls Tryz.prog 59 #[.string t, .string ⟨#[34]⟩, .string ⟨#[34, 34]⟩] w fun e w' => e = .returned (.string ⟨(dbl t.data.toList).toArray⟩) ∧ Q w w' := by
  obtain ⟨m, hm⟩ := hw.len
  have hc := Lib.countB_le ⟨#[34]⟩ (by decide) t.size t (Nat.le_refl _)
  have h := Tryz.strings_ReplaceAll t ⟨#[34]⟩ ⟨#[34, 34]⟩ m w (by omega) hm (by decide) (by rw [show (⟨#[34, 34]⟩ : ByteArray).size = 2 from rfl]; omega)
  refine h.mono ?_
  rintro e w' ⟨rfl, q⟩
  rw [show (⟨#[34]⟩ : ByteArray).data.toList = [34] from rfl, show (⟨#[34, 34]⟩ : ByteArray).data.toList = [34, 34] from rfl, replace_dbl]
  exact ⟨rfl, q⟩
set_option maxRecDepth 100000 in
set_option maxHeartbeats 8000000 in
theorem pr_text (x : List UInt8) (hx' : V.mtB x = true) : Wri (textE x) (34 :: (dbl x ++ [34])) := by
  intro W0 W b bs v hg hb hr hl
  obtain ⟨k, m, t, bb, er, a1, l1, c1, a2, l2, c2, rfl⟩ := hr.shape
  obtain ⟨rfl, rfl⟩ : k = 2 ∧ t.data.toList = x := by
    obtain ⟨k9, n9, t9, b9, e9, rs, ks, rv', kv, ao, cap, hv, hp⟩ := hr.prt
    have hx := hp.ex
    unfold textE at hx
    simp only [Ex.mk.injEq] at hx
    simp at hv
    obtain ⟨rfl, rfl, rfl, _⟩ := hv
    exact ⟨hx.1.symm, hx.2.2.1.symm⟩
  have hts : t.size ≤ 200 := by
    unfold V.mtB at hx'
    simp only [Bool.and_eq_true, decide_eq_true_eq] at hx'
    rw [← len_data]
    exact hx'.1
  have HG := hid hg
  have HB := hid hb
  have HR := hid (fun W' (g : Std W') => replaceAll_any t W' g (by omega))
  have hdl := dbl_len t.data.toList
  rw [len_data] at hdl
  generalize dbl t.data.toList = dt at HR hl hdl ⊢
  obtain ⟨D, hD⟩ : ∃ D : ByteArray, (⟨dt.toArray⟩ : ByteArray) = D := ⟨_, rfl⟩
  have hDl : D.data.toList = dt := by rw [← hD]
  rw [hD] at HR
  have hDs : D.size ≤ 400 := by rw [← len_data, hDl]; omega
  obtain ⟨E, hE⟩ : ∃ E : ByteArray, (⟨#[34]⟩ : ByteArray) ++ D = E := ⟨_, rfl⟩
  obtain ⟨F, hF⟩ : ∃ F : ByteArray, E ++ (⟨#[34]⟩ : ByteArray) = F := ⟨_, rfl⟩
  have hEs : E.size = 1 + D.size := by rw [← hE, ByteArray.size_append]; rfl
  have hFs : F.size = E.size + 1 := by rw [← hF, ByteArray.size_append]; rfl
  have HF : Hid (F.data.toList = 34 :: (dt ++ [34])) := by
    show _ = _
    rw [← hF, ← hE, ← hDl]
    simp
  have hF0 : 0 < F.size := by omega
  have hFl : bs.length + F.size ≤ 1000000 := by simp only [List.length_cons, List.length_append, List.length_nil] at hl; rw [← hDl, len_data] at hl; omega
  have n1 : ¬ (9223372036854775807 < 1 + D.size) := by omega
  have n2 : ¬ (9223372036854775807 < E.size + 1) := by omega
  rw [← HF.out]
  clear hr hg hb hl hx' hDl hD hdl HF
  go_enter Tryz.func28, Tryz.ntmps28
  go_upto_region 1 with fail
  have Z1 := hid (cb_new W [.int .i64 2, .int .i64 m, .string t, .bool bb, .int .i64 er, .slice a1 l1 c1, .slice a2 l2 c2] 26)
  have B1 := hid (HB.out.on ((Q.refl W).alloc (.cells #[.int .i64 2, .int .i64 m, .string t, .bool bb, .int .i64 er, .slice a1 l1 c1, .slice a2 l2 c2] 26)))
  rw [show ([.int .i64 2, .int .i64 m, .string t, .bool bb, .int .i64 er, .slice a1 l1 c1, .slice a2 l2 c2] : List Value).toArray = #[.int .i64 2, .int .i64 m, .string t, .bool bb, .int .i64 er, .slice a1 l1 c1, .slice a2 l2 c2] from rfl] at Z1
  have K1 := hid (Kp.of ((Q.refl W).alloc (.cells #[.int .i64 2, .int .i64 m, .string t, .bool bb, .int .i64 er, .slice a1 l1 c1, .slice a2 l2 c2] 26)))
  generalize W.alloc (.cells #[.int .i64 2, .int .i64 m, .string t, .bool bb, .int .i64 er, .slice a1 l1 c1, .slice a2 l2 c2] 26) = W1 at Z1 B1 K1 ⊢
  generalize W.heap.size = b1 at Z1 ⊢
  have d0 := Z1.out.c 0 _ rfl
  have d2 := Z1.out.c 2 _ rfl
  go_wp2_with (first | (go_at_call 59; refine (HR.out _ (HG.out.on B1.out.2).1).mono ?_; rintro e9 w3 ⟨rfl, q3⟩; have B3 := hid (B1.out.on q3); have K3 := hid (K1.out.trans (Kp.of q3)); clear q3) | (go_at_call 58; refine (bd_write B3.out F hF0 hFl).mono ?_; rintro e9 w4 ⟨⟨u, rfl⟩, b4, k4⟩; have B4 := hid b4; have K4 := hid (K3.out.trans k4); clear b4 k4))
  go_end0
  exact ⟨⟨_, rfl⟩, B4.out, K4.out⟩
set_option maxRecDepth 100000 in
set_option maxHeartbeats 16000000 in
theorem pr_range (r q : Rf) (hm : mayR r.1 r.2.1 r.2.2.1 = true) (hm' : mayR q.1 q.2.1 q.2.2.1 = true) : Wri (rangeE r q) (prf r ++ 58 :: prf q) := by
  intro W0 W b bs v hg hb hr hl
  obtain ⟨k, m, t, bb, er, rs, ks, rv', kv, ao, cap, rfl, hp⟩ := hr.prt
  have hx := hp.ex
  unfold rangeE at hx
  simp only [Ex.mk.injEq] at hx
  obtain ⟨rfl, rfl, ht, rfl, rfl, rfl, rfl⟩ := hx
  have hkl := hp.kl
  subst hkl
  obtain ⟨rb, ro, rc, hrv, _, hrc, hra⟩ := hp.rl.at (i := 0) (by simp)
  obtain ⟨rb', ro', rc', hrv', _, hrc', hrb⟩ := hp.rl.at (i := 1) (by simp)
  subst hrv
  simp only [Value.slice.injEq, Option.some.injEq, Addr.mk.injEq, and_true] at hrv'
  obtain ⟨⟨rfl, rfl⟩, -, rfl⟩ := hrv'
  have ls := sheet_len hm
  have lq := sheet_len hm'
  have lp := prf_len hm
  have lp' := prf_len hm'
  obtain ⟨sh, row, col, ra, ca⟩ := r
  obtain ⟨sh', row', col', ra', ca'⟩ := q
  simp only at ls lq
  simp only [prf] at lp lp' hl ⊢
  have r0 : W0.cell? ⟨rb, ro, none⟩ = some (.string ⟨sh.toArray⟩) := by have := hra 0 _ rfl; simpa using this
  have r1 : W0.cell? ⟨rb, ro + 1, none⟩ = some (.int .i64 row) := by have := hra 1 _ rfl; simpa using this
  have r2 : W0.cell? ⟨rb, ro + 2, none⟩ = some (.int .i64 col) := by have := hra 2 _ rfl; simpa using this
  have r3 : W0.cell? ⟨rb, ro + 3, none⟩ = some (.bool ra) := by have := hra 3 _ rfl; simpa using this
  have r4 : W0.cell? ⟨rb, ro + 4, none⟩ = some (.bool ca) := by have := hra 4 _ rfl; simpa using this
  have t0 : W0.cell? ⟨rb, ro + 5, none⟩ = some (.string ⟨sh'.toArray⟩) := by have := hrb 0 _ rfl; simpa using this
  have t1 : W0.cell? ⟨rb, ro + 5 + 1, none⟩ = some (.int .i64 row') := by have := hrb 1 _ rfl; simpa using this
  have t2 : W0.cell? ⟨rb, ro + 5 + 2, none⟩ = some (.int .i64 col') := by have := hrb 2 _ rfl; simpa using this
  have t3 : W0.cell? ⟨rb, ro + 5 + 3, none⟩ = some (.bool ra') := by have := hrb 3 _ rfl; simpa using this
  have t4 : W0.cell? ⟨rb, ro + 5 + 4, none⟩ = some (.bool ca') := by have := hrb 4 _ rfl; simpa using this
  have HG := hid hg
  have HB := hid hb
  have HP1 := hid (fun W' (g : Gd W') => print_any ⟨sh.toArray⟩ row col ra ca W' g.1 g.2 (by rw [size_mk]; omega))
  have HP2 := hid (fun W' (g : Gd W') => print_any ⟨sh'.toArray⟩ row' col' ra' ca' W' g.1 g.2 (by rw [size_mk]; omega))
  rw [show (⟨sh.toArray⟩ : ByteArray).data.toList = sh from rfl] at HP1
  rw [show (⟨sh'.toArray⟩ : ByteArray).data.toList = sh' from rfl] at HP2
  obtain ⟨P, hP⟩ : ∃ T : ByteArray, (⟨(prR sh row col ra ca).toArray⟩ : ByteArray) = T := ⟨_, rfl⟩
  obtain ⟨R, hR⟩ : ∃ T : ByteArray, (⟨(prR sh' row' col' ra' ca').toArray⟩ : ByteArray) = T := ⟨_, rfl⟩
  have hPl : P.data.toList = prR sh row col ra ca := by rw [← hP]
  have hRl : R.data.toList = prR sh' row' col' ra' ca' := by rw [← hR]
  rw [hP] at HP1
  rw [hR] at HP2
  rw [← hPl] at lp hl ⊢
  rw [← hRl] at lp' hl ⊢
  rw [len_data] at lp lp'
  obtain ⟨E, hE⟩ : ∃ E : ByteArray, P ++ (⟨#[58]⟩ : ByteArray) = E := ⟨_, rfl⟩
  obtain ⟨F, hF⟩ : ∃ F : ByteArray, E ++ R = F := ⟨_, rfl⟩
  have hEs : E.size = P.size + 1 := by rw [← hE, ByteArray.size_append]; rfl
  have hFs : F.size = E.size + R.size := by rw [← hF, ByteArray.size_append]
  have HF : Hid (F.data.toList = P.data.toList ++ 58 :: R.data.toList) := by
    show _ = _
    rw [← hF, ← hE]
    simp
  have hF0 : 0 < F.size := by omega
  have hFl : bs.length + F.size ≤ 1000000 := by simp only [List.length_cons, List.length_append, len_data] at hl; omega
  have n1 : ¬ (9223372036854775807 < P.size + 1) := by omega
  have n2 : ¬ (9223372036854775807 < E.size + R.size) := by omega
  rw [← HF.out]
  generalize (⟨sh.toArray⟩ : ByteArray) = S at HP1 r0
  generalize (⟨sh'.toArray⟩ : ByteArray) = S' at HP2 t0
  unfold rv at HP1 HP2
  have R0 := hid r0
  have R1 := hid r1
  have R2 := hid r2
  have R3 := hid r3
  have R4 := hid r4
  have T0 := hid t0
  have T1 := hid t1
  have T2 := hid t2
  have T3 := hid t3
  have T4 := hid t4
  clear ht hEs hFs hr hg hb hl hp hra hrb HF hPl hRl hP hR lp lp' ls lq hm hm' r0 r1 r2 r3 r4 t0 t1 t2 t3 t4
  go_enter Tryz.func28, Tryz.ntmps28
  go_upto_region 1 with fail
  have H1 := hid (heap_alloc_new W (.cells #[.int .i64 6, .int .i64 0, .string t, .bool false, .int .i64 0, .slice (some ⟨rb, ro, none⟩) 2 rc, .slice ao 0 cap] 26))
  have B1 := hid (HB.out.on ((Q.refl W).alloc (.cells #[.int .i64 6, .int .i64 0, .string t, .bool false, .int .i64 0, .slice (some ⟨rb, ro, none⟩) 2 rc, .slice ao 0 cap] 26)))
  have K1 := hid (Kp.of ((Q.refl W).alloc (.cells #[.int .i64 6, .int .i64 0, .string t, .bool false, .int .i64 0, .slice (some ⟨rb, ro, none⟩) 2 rc, .slice ao 0 cap] 26)))
  generalize W.alloc (.cells #[.int .i64 6, .int .i64 0, .string t, .bool false, .int .i64 0, .slice (some ⟨rb, ro, none⟩) 2 rc, .slice ao 0 cap] 26) = W1 at H1 B1 K1 ⊢
  generalize W.heap.size = b1 at H1 ⊢
  have s1 := hid (Svt.start (W0 := W0) (W1 := W1) B1.out.2 (Q.refl W1))
  have s10 := hid (Svt.start (W0 := W0) (W1 := W1) B1.out.2 (Q.refl W1).drew)
  have e0 : ∀ V, Svt W0 W1 V → V.cell? ⟨b1, 0, none⟩ = some (.int .i64 6) := fun V h => h.own (cs := [.int .i64 6, .int .i64 0, .string t, .bool false, .int .i64 0, .slice (some ⟨rb, ro, none⟩) 2 rc, .slice ao 0 cap]) H1.out rfl
  have e5 : ∀ V, Svt W0 W1 V → V.cell? ⟨b1, 5, none⟩ = some (.slice (some ⟨rb, ro, none⟩) 2 rc) := fun V h => h.own (cs := [.int .i64 6, .int .i64 0, .string t, .bool false, .int .i64 0, .slice (some ⟨rb, ro, none⟩) 2 rc, .slice ao 0 cap]) H1.out rfl
  have f0 : ∀ V, Svt W0 W1 V → V.cell? ⟨rb, ro, none⟩ = some (.string S) := fun V h => h.old R0.out
  have f1 : ∀ V, Svt W0 W1 V → V.cell? ⟨rb, ro + 1, none⟩ = some (.int .i64 row) := fun V h => h.old R1.out
  have f2 : ∀ V, Svt W0 W1 V → V.cell? ⟨rb, ro + 2, none⟩ = some (.int .i64 col) := fun V h => h.old R2.out
  have f3 : ∀ V, Svt W0 W1 V → V.cell? ⟨rb, ro + 3, none⟩ = some (.bool ra) := fun V h => h.old R3.out
  have f4 : ∀ V, Svt W0 W1 V → V.cell? ⟨rb, ro + 4, none⟩ = some (.bool ca) := fun V h => h.old R4.out
  have g0 : ∀ V, Svt W0 W1 V → V.cell? ⟨rb, ro + 5, none⟩ = some (.string S') := fun V h => h.old T0.out
  have g1 : ∀ V, Svt W0 W1 V → V.cell? ⟨rb, ro + 5 + 1, none⟩ = some (.int .i64 row') := fun V h => h.old T1.out
  have g2 : ∀ V, Svt W0 W1 V → V.cell? ⟨rb, ro + 5 + 2, none⟩ = some (.int .i64 col') := fun V h => h.old T2.out
  have g3 : ∀ V, Svt W0 W1 V → V.cell? ⟨rb, ro + 5 + 3, none⟩ = some (.bool ra') := fun V h => h.old T3.out
  have g4 : ∀ V, Svt W0 W1 V → V.cell? ⟨rb, ro + 5 + 4, none⟩ = some (.bool ca') := fun V h => h.old T4.out
  have d0 := e0 W1 s1.out
  go_upto_region 8 with fail
  clear d0
  go_region_held3 (Svt W0 W1) (with_reducible (first | exact s10.out | exact s11.out | exact s12.out | exact s13.out)) (first | (go_at_call 58; refine (bd_write B12.out F hF0 hFl).mono ?_; rintro e9 w13 ⟨⟨u, rfl⟩, b13, k13⟩; have B13 := hid b13; have s13 : Hid (Svt W0 W1 w13) := hid ⟨s12.out.1.trans k13, b13.2⟩; clear b13 k13) | (go_at_call_of 60 S'; refine (HP2.out w11 (HG.out.on B11.out.2)).mono ?_; rintro e9 w12 ⟨rfl, q⟩; have B12 := hid (B11.out.on q); have s12 := hid (s11.out.q q); clear q) | (go_at_call_of 60 S; refine (HP1.out W1.drew (HG.out.on s10.out.2)).mono ?_; rintro e9 w11 ⟨rfl, q⟩; have B11 := hid (B1.out.on ((Q.refl W1).drew.trans q)); have s11 := hid (s10.out.q q); clear q))
  go_wp2_with fail
  go_end0
  exact ⟨⟨_, rfl⟩, B13.out, K1.out.trans s13.out.1⟩
end Go.Proofs.YtgheopdadfnilaaGreatDoor
