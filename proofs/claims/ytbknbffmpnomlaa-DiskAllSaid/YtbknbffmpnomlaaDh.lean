/- Append. -/
import Derived.Test.YtbknbffmpnomlaaDg
namespace Go.Proofs.Ytbknbffmpnomlaa
open Go.RowKit
set_option linter.unusedVariables false
set_option linter.unusedSimpArgs false
variable {S S' : Nat → Prop} {w w' : World} {p : Nat} {mv : Option Nat} {n : Nat} {f : Fv} {pv : Value} {ms : List Mk} {u s : Nat}

/-- a disk that is P -/
def Ds (S : Nat → Prop) (w : World) (p n : Nat) (P : Pd) : Prop :=
  ∃ mv f pv ms, Dk S w p mv n f pv ms P.u P.s ∧ (fun x => (f x).map (·.2)) = P.f ∧ ms.map Mk.p = P.ms
theorem Ds.keep {P : Pd} (h : Ds S w p n P) (hs : ∀ i, S i → w'.heap[i]? = w.heap[i]?) : Ds S w' p n P := by
  obtain ⟨mv, f, pv, ms, h1, h2, h3⟩ := h
  exact ⟨mv, f, pv, ms, h1.keep hs, h2, h3⟩
theorem Ds.on {P : Pd} (h : Ds S w p n P) (hl : Lt S w) (q : Q w w') : Ds S w' p n P := h.keep (fun i hi => q.block (hl i hi))
theorem Ds.more {P : Pd} (h : Ds S w p n P) (hs : ∀ i, S i → S' i) : Ds S' w p n P := by
  obtain ⟨mv, f, pv, ms, h1, h2, h3⟩ := h
  exact ⟨mv, f, pv, ms, h1.more hs, h2, h3⟩
theorem Sb.same {W W' : World} {v : Value} {L : List UInt8} (h : Sb W v L) (hs : ∀ g, v.ownBlock = some g → W'.heap[g]? = W.heap[g]?) : Sb W' v L := by
  obtain ⟨⟨ao, cap, hv, h1, h2, h3⟩, h4⟩ := h
  refine ⟨⟨ao, cap, hv, h1, h2, fun hl => ?_⟩, h4⟩
  obtain ⟨b, off, ha, hc⟩ := h3 hl
  exact ⟨b, off, ha, fun i hi => (hc i hi).blk (hs b (by rw [hv, ha]; rfl))⟩
theorem Sb.qp {W W' : World} {P : Nat → Prop} {v : Value} {L : List UInt8} (h : Sb W v L) (hl : ∀ g, v.ownBlock = some g → g < W.heap.size) (hp : ∀ g, v.ownBlock = some g → ¬ P g) (q : Qp P W W') : Sb W' v L := h.same (fun g hg => q.block g (hl g hg) (hp g hg))
/-- it has been added to -/
theorem Dk.appended (h : Dk S w p mv n f pv ms u s) (hl : Lt S w) {x : ByteArray} {v v' : Sv} {L M : List UInt8} (hv : fl f x = (v, L)) (ho : Own eb 5 1 0 w' (sv v') (L ++ M))
    (hat : Lies w w' v v' M.length) :
    Dk S w' p mv n f pv ms u s ∧ Fr w' f ms x v' (L ++ M) ∧ (∀ g, (sv v').ownBlock = some g → New S w w' g) ∧ Qp S w w' := by
  have hlo := ho.lt
  rcases hat with ⟨g, k, cap, rfl, rfl, hg⟩ | ⟨hg, g, hg1, hg2⟩
  · obtain ⟨hsg, v0, L0, hf, e⟩ := h.fl_s x g (by rw [hv]; rfl)
    rw [hv] at e
    obtain ⟨rfl, rfl⟩ : v0 = ⟨some ⟨g, 0, none⟩, k, cap⟩ ∧ L0 = L := ⟨(congrArg Prod.fst e).symm, (congrArg Prod.snd e).symm⟩
    have hown := h.fil x _ _ hf
    have hne : ∀ i, S i → i ≠ g → w'.heap[i]? = w.heap[i]? := fun i hi h1 => hg.block i (hl i hi) (fun e => h1 (Option.some.inj e))
    have hsh : ∀ {y : Sv} {K : List UInt8}, Own eb 5 1 0 w (sv y) K → (∀ g', (sv y).ownBlock = some g' → S g') → ((sv y).ownBlock = some g → K.length ≤ L0.length) → Own eb 5 1 0 w' (sv y) K := by
      intro y K hy hs hp
      by_cases e : (sv y).ownBlock = some g
      · have hk := hp e
        rcases Nat.eq_zero_or_pos K.length with h0 | h0
        · have hy' := hy
          obtain ⟨ya, yn, yc⟩ := y
          cases ya with
          | none => cases e
          | some ad =>
            obtain ⟨hy1, hy2⟩ := hy
            rcases hy2 with ⟨hy2, _⟩ | ⟨g2, cap2, cur2, e2, _⟩
            · cases hy2
            · have e2' : Value.slice (some ad) yn yc = .slice (some ⟨g2, 0, none⟩) K.length cap2 := e2
              injection e2' with e3 e4 e5
              obtain rfl := Option.some.inj e3
              obtain rfl : g2 = g := Option.some.inj e
              exact own_shorter hown ho hy' hk
        · have hy' := hy
          obtain ⟨g2, cap2, e2, _⟩ := hy.shape h0
          obtain ⟨ya, yn, yc⟩ := y
          have e2' : Value.slice ya yn yc = .slice (some ⟨g2, 0, none⟩) K.length cap2 := e2
          injection e2' with e3 e4 e5
          subst e3
          obtain rfl : g2 = g := Option.some.inj e
          exact own_shorter hown ho hy' hk
      · exact hy.same (fun g' hg' => hne g' (hs g' hg') (fun k => e (by rw [hg', k])))
    refine ⟨⟨h.blk.same (hne p h.sp (fun e => hown.nbk h.blk (by decide) (by rw [e]; rfl))), ?_, ?_, ?_, ?_, h.sep, h.pre, h.sp, h.smv, h.spv, h.sfl, h.smk, h.nom⟩, ⟨ho, ?_, ?_⟩, ?_, (Qp.refl S w).grown hg (fun k e => by cases e; exact .inl hsg)⟩
    · refine h.map.same (fun b e => hne b (h.smv b e) (fun k => ?_))
      subst e
      exact hown.nmp h.map (by rw [k]; rfl)
    · exact h.past.same (fun g' hg' => hne g' (h.spv g' hg') (fun k => hown.nown h.past (by decide) (g := g) rfl (by rw [← k]; exact hg')))
    · intro y v1 L1 hy
      refine hsh (h.fil y v1 L1 hy) (fun g' hg' => h.sfl y v1 L1 g' hy hg') (fun hg' => ?_)
      by_cases e : y = x
      · subst e
        rw [hf] at hy
        cases hy
        exact Nat.le_refl _
      · exact (h.sep y x v1 L1 _ _ g e hy hf hg' rfl).elim
    · intro m hm
      exact ⟨hsh (h.mks m hm).1 (fun g' hg' => h.smk m hm g' hg') (fun hg' => h.pre m hm x _ _ g hf rfl hg'), (h.mks m hm).2⟩
    · intro y v1 L1 g' hyx hy hg1 hg2
      obtain rfl : g = g' := Option.some.inj hg1
      exact h.sep y x v1 L1 _ _ g hyx hy hf hg2 rfl
    · intro m hm g' hg1 hg2
      obtain rfl : g = g' := Option.some.inj hg1
      have := h.pre m hm x _ _ g hf rfl hg2
      simp
      omega
    · intro g' hg1
      obtain rfl : g = g' := Option.some.inj hg1
      exact .inl hsg
  · have q : Q w w' := q_of_grown (Q.refl w) hg
    refine ⟨h.on hl q, ⟨ho, ?_, ?_⟩, ?_, Qp.of q⟩
    · intro y v1 L1 g' hyx hy h1 h2
      rw [hg1] at h1
      cases h1
      have := hl _ (h.sfl y v1 L1 g hy h2)
      omega
    · intro m hm g' h1 h2
      rw [hg1] at h1
      cases h1
      have := hl _ (h.smk m hm g h2)
      omega
    · intro g' h1
      have h2 := hlo g' h1
      rw [hg1] at h1
      cases h1
      exact .inr ⟨hg2, h2⟩
theorem New.trans {a b c : World} (hab : a.heap.size ≤ b.heap.size) (hbc : b.heap.size ≤ c.heap.size) : ∀ i, New (New S a b) b c i → New S a c i := fun i hi => by
  rcases hi with (h | h) | h
  · exact .inl h
  · exact .inr ⟨h.1, by omega⟩
  · exact .inr ⟨by omega, h.2⟩
theorem New.old {a b : World} : ∀ i, i < a.heap.size → New S a b i → S i := fun i hi h => by
  rcases h with h | h
  · exact h
  · omega
theorem fl_gd {P : Pd} (h2 : (fun x => (f x).map (·.2)) = P.f) (x : ByteArray) {v : Sv} {L : List UInt8} (h : fl f x = (v, L)) : gd P.f x = L := by
  rw [← h2]
  unfold gd
  show ((f x).map (·.2)).getD [] = L
  unfold fl at h
  cases hf : f x with
  | none => rw [hf] at h; exact congrArg Prod.snd h
  | some y => rw [hf] at h; exact congrArg Prod.snd h
theorem is_gd {P : Pd} (h2 : (fun x => (f x).map (·.2)) = P.f) (x : ByteArray) : (P.f x).isSome = (f x).isSome := by
  rw [← h2]
  show ((f x).map (·.2)).isSome = _
  cases f x <;> rfl
theorem pm_eq {P : Pd} (h2 : (fun x => (f x).map (·.2)) = P.f) (x : ByteArray) (k : Nat) : Mk.p ⟨x, (fl f x).1, (fl f x).2, (f x).isSome, k⟩ = pm P.f x k := by
  unfold Mk.p pm
  rw [fl_gd h2 x (v := (fl f x).1) (L := (fl f x).2) rfl, is_gd h2]
set_option maxRecDepth 100000 in
set_option maxHeartbeats 1000000 in
theorem append_any {P : Pd} (h : Ds S w p n P) (hl : Lt S w) (x : ByteArray) (hx : x.size ≤ maxLen) (b : Sv) (B : List UInt8) (hb : Sb w (sv b) B) (hbl : ∀ g, (sv b).ownBlock = some g → g < w.heap.size ∧ ¬ S g)
    (hms : P.ms.length ≤ 10000) (hu : P.u ≤ 1000000000) (hn : n ≤ 10000) (hB : B.length ≤ 1000000) (hL : (gd P.f x).length ≤ 1000000000) :
    Calls Try.prog 9 #[.pointer (some ⟨p, 0, none⟩), .string x, sv b] w fun e W' => (∃ v, e = .returned v) ∧ Ds (New S w W') W' p (n + 1) (P.append x B) ∧ Qp S w W' := by
  obtain ⟨mv, f, pv, ms, H0, H2, H3⟩ := h
  obtain ⟨ba, bn, bc⟩ := b
  obtain ⟨ao, cap, e, h1, h2⟩ := hb.s.len
  have e : Value.slice ba bn bc = .slice ao B.length cap := e
  injection e with e1 e2 e3
  subst e1 e2 e3
  have H := hid H0
  have HB := hid hb
  have HL := hid hbl
  by_cases h0 : B.length = 0
  · have hi0 : ((B.length : Nat) : Int) = 0 := by omega
    have HD : Hid (Ds (New S w w) w p (n + 1) (P.append x B)) := hid (by
      unfold Pd.append
      rw [if_pos h0]
      exact ⟨mv, f, pv, ms, by
        have hm : Mv w mv (n + 1) (fun x => (f x).map (·.1)) := by
          cases mv with
          | none => exact H0.map
          | some b => exact Mp.mono H0.map (by omega)
        exact (⟨H0.blk, hm, H0.past, H0.fil, H0.mks, H0.sep, H0.pre, H0.sp, H0.smv, H0.spv, H0.sfl, H0.smk, H0.nom⟩ : Dk S w p mv (n + 1) f pv ms P.u P.s).more (fun i hi => .inl hi), H2, H3⟩)
    rw [h0]
    clear H0 H2 H3 hb hbl
    unfold sv
    go_enter Try.func9, Try.ntmps9
    go_wp2_with fail
    all_goals ((try simp only [Exit.inBlock, Exit.then]); refine bodyPost_ret (results_none rfl _ _ _) rfl ?_)
    all_goals exact ⟨⟨_, rfl⟩, HD.out, Qp.refl _ _⟩
  · have hi0 : ¬ ((B.length : Nat) : Int) = 0 := by omega
    have hml : ms.length ≤ 100000 := by rw [← List.length_map (f := Mk.p), H3]; omega
    have HN := hid (note_any H0 hl x hx B.length hml hu (by omega))
    have HG := hid H2
    have HM := hid H3
    clear H0 H2 H3 hb hbl
    unfold sv
    go_enter Try.func9, Try.ntmps9
    go_upto_region 2 with (go_at_call 20; refine HN.out.mono ?_; rintro e9 w1 ⟨⟨v9, rfl⟩, pv1, hd1, hq1⟩; have H1 := hid hd1; have Q1 := hid hq1; clear hd1 hq1 HN)
    have c1 : w1.cell? ⟨p, 0, none⟩ = some (.map mv) := H1.out.blk.c 0 _ rfl
    have hl1 : Lt (New S w w1) w1 := hl.new Q1.out.size
    have HB1 : Hid (Sb w1 (sv ⟨ba, B.length, bc⟩) B) := hid (HB.out.qp (fun g hg => (HL.out g hg).1) (fun g hg => (HL.out g hg).2) Q1.out)
    have HO1 : Hid (Own eb 5 1 0 w1 (sv (fl f x).1) (fl f x).2) := hid (H1.out.fl_own x)
    have HE : Hid (Mk.p ⟨x, (fl f x).1, (fl f x).2, (f x).isSome, B.length⟩ = pm P.f x B.length) := hid (pm_eq HG.out x B.length)
    generalize hv : fl f x = y at H1 HO1 HE
    obtain ⟨⟨a, m, c⟩, L⟩ := y
    have HV := hid hv
    have HGL : Hid (gd P.f x = L) := hid (fl_gd HG.out x hv)
    have hLl : L.length ≤ 1000000000 := by rw [← HGL.out]; exact hL
    clear hv
    go_wp2_with (first
      | (at_lookup; refine wpl_look1 _ rfl _ _ rfl mv n f rfl H1.out.map x rfl hx a m c L HV.out ?_)
      | (at_builtin; refine wpl_app2 rfl _ _ rfl ⟨a, m, c⟩ L rfl HO1.out ⟨ba, B.length, bc⟩ rfl B HB1.out (by omega) (by omega) ?_))
    intro v2 w2 ho hat
    obtain ⟨a2, m2, c2⟩ := v2
    have HX := hid (H1.out.appended hl1 HV.out ho hat)
    have hl2 : Lt (New (New S w w1) w1 w2) w2 := hl1.new HX.out.2.2.2.size
    have HP := hid (put_any (HX.out.1.more (S' := New (New S w w1) w1 w2) (fun i hi => .inl hi)) hl2 x hx a2 m2 c2 (L ++ B) HX.out.2.1 HX.out.2.2.1 (by omega))
    clear ho hat
    unfold sv
    go_wp2_with (go_at_call 21; refine HP.out.mono ?_; rintro e9 w3 ⟨⟨v9, rfl⟩, mv3, hd3, hq3⟩; have H3 := hid hd3; have Q3 := hid hq3; clear hd3 hq3 HP)
    go_end0
    refine ⟨⟨_, rfl⟩, ?_, ?_⟩
    · unfold Pd.append
      rw [if_neg h0]
      refine ⟨_, _, _, _, H3.out.more (fun i hi => New.trans Q1.out.size (Nat.le_trans HX.out.2.2.2.size Q3.out.size) i ?_), ?_, ?_⟩
      · rcases hi with hi | hi
        · exact New.trans HX.out.2.2.2.size Q3.out.size i (.inl hi)
        · exact .inr ⟨Nat.le_trans HX.out.2.2.2.size hi.1, hi.2⟩
      · show (fun t => (upd f x (some (⟨a2, m2, c2⟩, L ++ B)) t).map (·.2)) = upd P.f x (some (gd P.f x ++ B))
        rw [upd_map, HG.out, HGL.out]
        rfl
      · show List.map Mk.p (ms ++ [_]) = P.ms ++ [pm P.f x B.length]
        rw [List.map_append, HM.out]
        exact congrArg (P.ms ++ [·]) HE.out
    · refine (Q1.out.after HX.out.2.2.2 (fun i hi h => New.old i hi h)).after Q3.out (fun i hi h => ?_)
      rcases h with h | h
      · exact New.old i hi h
      · have := Q1.out.size
        omega
end Go.Proofs.Ytbknbffmpnomlaa
