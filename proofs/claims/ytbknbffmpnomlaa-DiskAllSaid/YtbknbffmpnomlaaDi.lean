/- Create, Rename, Remove. -/
import Derived.Test.YtbknbffmpnomlaaDh
namespace Go.Proofs.Ytbknbffmpnomlaa
open Go.RowKit
set_option linter.unusedVariables false
set_option linter.unusedSimpArgs false
variable {S S' : Nat → Prop} {w w' : World} {p : Nat} {mv : Option Nat} {n : Nat} {f : Fv} {pv : Value} {ms : List Mk} {u s : Nat}

theorem fr_nil (x : ByteArray) : Fr w f ms x ⟨none, 0, 0⟩ [] := ⟨own_nil w, fun y v' L' g _ _ h => (by cases h), fun m _ g h => (by cases h)⟩
/-- two steps, one behind the other -/
theorem qp2 {a b c : World} (h : Qp S a b) (k : Qp (New S a b) b c) : Qp S a c := h.after k (fun i hi h => New.old i hi h)
theorem dk2 {a b c : World} (h : Qp S a b) (k : Qp (New S a b) b c) (d : Dk (New (New S a b) b c) c p mv n f pv ms u s) : Dk (New S a c) c p mv n f pv ms u s := d.more (New.trans h.size k.size)
theorem qp3 {a b c : World} (h : Qp S a b) (k : Qp (New S a b) b c) : Qp S a c := h.after k (fun i hi h => New.old i hi h)
theorem Dk.mono (h : Dk S w p mv n f pv ms u s) {n' : Nat} (hn : n ≤ n') : Dk S w p mv n' f pv ms u s := by
  have hm : Mv w mv n' (fun x => (f x).map (·.1)) := by
    have := h.map
    cases mv with
    | none => exact this
    | some b => exact Mp.mono this hn
  exact ⟨h.blk, hm, h.past, h.fil, h.mks, h.sep, h.pre, h.sp, h.smv, h.spv, h.sfl, h.smk, h.nom⟩
set_option maxRecDepth 100000 in
set_option maxHeartbeats 1000000 in
theorem create_any {P : Pd} (h : Ds S w p n P) (hl : Lt S w) (x : ByteArray) (hx : x.size ≤ maxLen) (hms : P.ms.length ≤ 10000) (hu : P.u ≤ 1000000000) (hn : n ≤ 10000) :
    Calls Try.prog 10 #[.pointer (some ⟨p, 0, none⟩), .string x] w fun e W' => (∃ v, e = .returned v) ∧ Ds (New S w W') W' p (n + 1) (P.create x) ∧ Qp S w W' := by
  obtain ⟨mv, f, pv, ms, H0, H2, H3⟩ := h
  have H := hid H0
  have hml : ms.length ≤ 100000 := by rw [← List.length_map (f := Mk.p), H3]; omega
  have HN := hid (note_any H0 hl x hx 1 hml hu (by omega))
  have HG := hid H2
  have HM := hid H3
  clear H0 H2 H3
  go_enter Try.func10, Try.ntmps10
  go_upto_region 2 with (go_at_call 20; refine HN.out.mono ?_; rintro e9 w1 ⟨⟨v9, rfl⟩, pv1, hd1, hq1⟩; have H1 := hid hd1; have Q1 := hid hq1; clear hd1 hq1 HN)
  have hl1 : Lt (New S w w1) w1 := hl.new Q1.out.size
  have HE : Hid (Mk.p ⟨x, (fl f x).1, (fl f x).2, (f x).isSome, 1⟩ = pm P.f x 1) := hid (pm_eq HG.out x 1)
  have HP := hid (put_any H1.out hl1 x hx none 0 0 [] (fr_nil x) (fun g hg => by cases hg) (by omega))
  go_wp2_with (go_at_call 21; refine HP.out.mono ?_; rintro e9 w3 ⟨⟨v9, rfl⟩, mv3, hd3, hq3⟩; have H3 := hid hd3; have Q3 := hid hq3; clear hd3 hq3 HP)
  go_end0
  refine ⟨⟨_, rfl⟩, ⟨_, _, _, _, dk2 Q1.out Q3.out H3.out, ?_, ?_⟩, qp2 Q1.out Q3.out⟩
  · show (fun t => (upd f x (some (⟨none, 0, 0⟩, [])) t).map (·.2)) = upd P.f x (some [])
    rw [upd_map, HG.out]
    rfl
  · show List.map Mk.p (ms ++ [_]) = P.ms ++ [pm P.f x 1]
    rw [List.map_append, HM.out]
    exact congrArg (P.ms ++ [·]) HE.out
set_option maxRecDepth 100000 in
set_option maxHeartbeats 1000000 in
theorem remove_any {P : Pd} (h : Ds S w p n P) (hl : Lt S w) (x : ByteArray) (hx : x.size ≤ maxLen) (hms : P.ms.length ≤ 10000) (hu : P.u ≤ 1000000000) (hn : n ≤ 10000) :
    Calls Try.prog 12 #[.pointer (some ⟨p, 0, none⟩), .string x] w fun e W' => (∃ v, e = .returned v) ∧ Ds (New S w W') W' p (n + 1) (P.remove x) ∧ Qp S w W' := by
  obtain ⟨mv, f, pv, ms, H0, H2, H3⟩ := h
  have H := hid H0
  have hml : ms.length ≤ 100000 := by rw [← List.length_map (f := Mk.p), H3]; omega
  have HN := hid (note_any H0 hl x hx 1 hml hu (by omega))
  have HG := hid H2
  have HM := hid H3
  clear H0 H2 H3
  go_enter Try.func12, Try.ntmps12
  go_upto_region 2 with (go_at_call 20; refine HN.out.mono ?_; rintro e9 w1 ⟨⟨v9, rfl⟩, pv1, hd1, hq1⟩; have H1 := hid hd1; have Q1 := hid hq1; clear hd1 hq1 HN)
  have c1 : w1.cell? ⟨p, 0, none⟩ = some (.map mv) := H1.out.blk.c 0 _ rfl
  have hl1 : Lt (New S w w1) w1 := hl.new Q1.out.size
  have HE : Hid (Mk.p ⟨x, (fl f x).1, (fl f x).2, (f x).isSome, 1⟩ = pm P.f x 1) := hid (pm_eq HG.out x 1)
  go_wp2_with (at_delete; refine wpl_del _ rfl _ _ rfl mv n _ rfl H1.out.map x rfl hx ?_)
  intro w2 hm2 hg2 hs2
  have HX := hid (H1.out.gone hl1 hm2 hg2)
  clear hm2 hg2
  go_wp2_with fail
  go_end0
  refine ⟨⟨_, rfl⟩, ⟨_, _, _, _, (HX.out.1.mono (Nat.le_succ n)).more (fun i hi => ?_), ?_, ?_⟩, qp2 Q1.out HX.out.2⟩
  · rcases hi with hi | hi
    · exact .inl hi
    · exact .inr ⟨hi.1, by rw [hs2]; exact hi.2⟩
  · show (fun t => (upd f x none t).map (·.2)) = upd P.f x none
    rw [upd_map, HG.out]
    rfl
  · show List.map Mk.p (ms ++ [_]) = P.ms ++ [pm P.f x 1]
    rw [List.map_append, HM.out]
    exact congrArg (P.ms ++ [·]) HE.out
set_option maxRecDepth 100000 in
set_option maxHeartbeats 1000000 in
theorem rename_any {P : Pd} (h : Ds S w p n P) (hl : Lt S w) (x : ByteArray) (hx : x.size ≤ maxLen) (y : ByteArray) (hy : y.size ≤ maxLen) (hms : P.ms.length ≤ 10000) (hu : P.u ≤ 900000000) (hn : n ≤ 10000) :
    Calls Try.prog 11 #[.pointer (some ⟨p, 0, none⟩), .string x, .string y] w fun e W' => (∃ v, e = .returned v) ∧ Ds (New S w W') W' p (n + 1) (P.rename x y) ∧ Qp S w W' := by
  obtain ⟨mv, f, pv, ms, H0, H2, H3⟩ := h
  have H := hid H0
  have hml : ms.length ≤ 10000 := by rw [← List.length_map (f := Mk.p), H3]; omega
  have HN := hid (note_any H0 hl x hx 1 (by omega) (by omega) (by omega))
  have HG := hid H2
  have HM := hid H3
  clear H0 H2 H3
  go_enter Try.func11, Try.ntmps11
  go_upto_region 2 with (go_at_call 20; refine HN.out.mono ?_; rintro e9 w1 ⟨⟨v9, rfl⟩, pv1, hd1, hq1⟩; have H1 := hid hd1; have Q1 := hid hq1; clear hd1 hq1 HN)
  have c1 : w1.cell? ⟨p, 0, none⟩ = some (.map mv) := H1.out.blk.c 0 _ rfl
  have hl1 : Lt (New S w w1) w1 := hl.new Q1.out.size
  have HE : Hid (Mk.p ⟨x, (fl f x).1, (fl f x).2, (f x).isSome, 1⟩ = pm P.f x 1) := hid (pm_eq HG.out x 1)
  have HE0 : Hid (Mk.p ⟨y, (fl f y).1, (fl f y).2, (f y).isSome, 0⟩ = pm P.f y 0) := hid (pm_eq HG.out y 0)
  have HIS : Hid ((P.f x).isSome = (f x).isSome) := hid (is_gd HG.out x)
  generalize hm1 : (⟨x, (fl f x).1, (fl f x).2, (f x).isSome, 1⟩ : Mk) = m1 at H1 HE
  clear hm1
  have HN2 := hid (note_any H1.out hl1 y hy 0 (by simp; omega) (by omega) (by omega))
  generalize hm2 : (⟨y, (fl f y).1, (fl f y).2, (f y).isSome, 0⟩ : Mk) = m2 at HE0 HN2
  clear hm2
  generalize hv : fl f x = y0
  obtain ⟨⟨a, m, c⟩, L⟩ := y0
  have HV := hid hv
  have HGL : Hid (gd P.f x = L) := hid (fl_gd HG.out x hv)
  have hfx : ∀ t, (f x).isSome = t → Hid (t = true → f x = some (⟨a, m, c⟩, L)) := fun t ht => hid (fun h => by
    subst ht
    obtain ⟨z, hz⟩ := Option.isSome_iff_exists.1 h
    unfold fl at hv
    rw [hz] at hv ⊢
    exact congrArg some hv)
  clear hv
  generalize ht : (f x).isSome = t at HIS hfx
  have HT := hid ht
  have HF := (hfx t rfl)
  clear ht hfx
  cases t with
  | false =>
    go_wp2_with (at_lookup; refine wpl_look2 _ rfl _ _ rfl mv n f rfl H1.out.map x rfl hx a m c L false HV.out HT.out ?_)
    ((try simp only [Exit.inBlock, Exit.then]); refine bodyPost_ret (results_none rfl _ _ _) rfl ?_)
    refine ⟨⟨_, rfl⟩, ?_, Q1.out⟩
    unfold Pd.rename
    rw [if_neg (by rw [HIS.out]; simp)]
    refine ⟨_, _, _, _, H1.out.mono (Nat.le_succ n), HG.out, ?_⟩
    show List.map Mk.p (ms ++ [_]) = P.ms ++ [pm P.f x 1]
    rw [List.map_append, HM.out]
    exact congrArg (P.ms ++ [·]) HE.out
  | true =>
    go_upto_region 5 with (first
      | (at_lookup; refine wpl_look2 _ rfl _ _ rfl mv n f rfl H1.out.map x rfl hx a m c L true HV.out HT.out ?_)
      | (go_at_call 20; refine HN2.out.mono ?_; rintro e9 w2 ⟨⟨v9, rfl⟩, pv2, hd2, hq2⟩; have H2 := hid hd2; have Q2 := hid hq2; clear hd2 hq2 HN2))
    have c2 : w2.cell? ⟨p, 0, none⟩ = some (.map mv) := H2.out.blk.c 0 _ rfl
    have hl2 : Lt (New (New S w w1) w1 w2) w2 := hl1.new Q2.out.size
    go_upto_region 6 with (at_delete; refine wpl_del _ rfl _ _ rfl mv n _ rfl H2.out.map x rfl hx ?_; intro w3 hm3 hg3 hs3; have HG3 := hid hg3; have HX := hid (H2.out.gone hl2 hm3 hg3); clear hm3 hg3)
    have hl3 : Lt (New (New S w w1) w1 w2) w3 := fun i hi => by rw [hs3]; exact hl2 i hi
    have hf := HF.out (by trivial)
    have HR : Hid (Fr w3 (upd f x none) (ms ++ [m1] ++ [m2]) y ⟨a, m, c⟩ L) := hid (by
      have ho := H2.out.fil x _ _ hf
      refine ⟨ho.grown HG3.out ?_, ?_, ?_⟩
      · cases hmv : mv with
        | none =>
          cases hb : (sv ⟨a, m, c⟩).ownBlock with
          | none => exact .inl rfl
          | some g => exact .inr (by simp)
        | some b => exact .inr (by rw [← hmv]; intro e; have h9 := H2.out.map; rw [hmv] at h9 e; exact ho.nmp h9 e)
      · intro z v' L' g hz h1 h2 h3
        by_cases e : z = x
        · subst e
          rw [upd_same] at h1
          cases h1
        · rw [upd_other _ _ e] at h1
          exact H2.out.sep x z _ _ v' L' g (Ne.symm e) hf h1 h2 h3
      · intro mm hmm g h1 h2
        exact H2.out.pre mm hmm x _ _ g hf h1 h2)
    have HP := hid (put_any HX.out.1 hl3 y hy a m c L HR.out (fun g hg => H2.out.sfl x _ _ g hf hg) (by omega))
    go_wp2_with (go_at_call 21; refine HP.out.mono ?_; rintro e9 w4 ⟨⟨v9, rfl⟩, mv4, hd4, hq4⟩; have H4 := hid hd4; have Q4 := hid hq4; clear hd4 hq4 HP)
    go_end0
    refine ⟨⟨_, rfl⟩, ?_, ?_⟩
    · unfold Pd.rename
      rw [if_pos (by rw [HIS.out])]
      refine ⟨_, _, _, _, H4.out.more (fun i hi => ?_), ?_, ?_⟩
      · have s1 := Q1.out.size
        have s2 := Q2.out.size
        have s4 := Q4.out.size
        rcases hi with ((hi | hi) | hi) | hi
        · exact .inl hi
        · exact .inr ⟨hi.1, by omega⟩
        · exact .inr ⟨by omega, by omega⟩
        · exact .inr ⟨by omega, hi.2⟩
      · show (fun t => (upd (upd f x none) y (some (⟨a, m, c⟩, L)) t).map (·.2)) = upd (upd P.f x none) y (some (gd P.f x))
        rw [upd_map, upd_map, HG.out, HGL.out]
        rfl
      · show List.map Mk.p (ms ++ [m1] ++ [m2]) = P.ms ++ [pm P.f x 1] ++ [pm P.f y 0]
        rw [List.map_append, List.map_append, HM.out, ← HE.out, ← HE0.out]
        rfl
    · refine (qp2 Q1.out Q2.out).after (HX.out.2.trans Q4.out) (fun i hi h => ?_)
      have s1 := Q1.out.size
      rcases h with h | h
      · exact New.old i hi h
      · omega
end Go.Proofs.Ytbknbffmpnomlaa
