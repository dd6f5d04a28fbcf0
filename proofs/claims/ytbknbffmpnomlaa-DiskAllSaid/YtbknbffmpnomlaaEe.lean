/- The reference's Files. -/
import Derived.Test.YtbknbffmpnomlaaEh
import Derived.Test.YtbknbffmpnomlaaEr
import Derived.Deep.CutRange
namespace Go.Proofs.Ytbknbffmpnomlaa
open Go.RowKit
set_option linter.unusedVariables false
set_option linter.unusedSimpArgs false

theorem Fst.next {w W W' : World} {R : List Rn} {k : Nat} {v v' : Value} {F F' : List Fn} (h : Fst w W R k v F) (hk : k < R.length) (o : Own ef 58 2 w.heap.size W' v' F') (m : F'.map Fn.p = stp (F.map Fn.p) (R[k]).p) (b : Fb (20 * (k + 1)) W' F') (l : F'.length ≤ k + 1) (q : Q w W') : Fst w W' R (k + 1) v' F' :=
  ⟨o, by rw [m, h.m, take_snoc R k hk, List.map_append, ← rf_snoc]; rfl, b, l, q⟩
theorem Fst.put {w w3 W w5 : World} {R : List Rn} {k : Nat} {v v4 v5 : Value} {F G : List Fn} {d : Fn} {r : Rn} (h : Fst w w3 R k v F) (hk : k < R.length) (hr : Hid (R[k] = r)) (q4 : Q w3 W) (ho : Own ef 58 2 w3.heap.size W v4 G) (hg5 : W.grownBy w5 v4.ownBlock) (ho5 : Own ef 58 2 w3.heap.size w5 v5 (G ++ [d]))
    (hl : G.length ≤ F.length) (hG : ∀ e ∈ G, e ∈ F) (hm : (G ++ [d]).map Fn.p = stp (F.map Fn.p) r.p) (hb : Sb w3 (sv d.v) d.L ∧ d.L.length ≤ 20 * (k + 1)) : Fst w w5 R (k + 1) v5 (G ++ [d]) := by
  have q5 : Q w3 w5 := Below.grown q4 hg5 q4.size (fun j hj => ho.blk j hj)
  rw [← hr.out] at hm
  refine h.next hk (ho5.mono h.q.size) hm (Fb.snoc (fun e he => ⟨(h.b e (hG e he)).1.on q5, by have := (h.b e (hG e he)).2; omega⟩) ⟨hb.1.on q5, hb.2⟩) ?_ (h.q.trans (Q.trans (Q.refl _) q5))
  rw [List.length_append]
  have := h.l
  show _ + 1 ≤ k + 1
  omega
theorem stp0 (l : Fl) (d : Re) (h : d.k = 0) : stp l d = wo l d.x ++ [(d.x, gd (look l) d.x ++ d.L)] := if_pos h
theorem stp1 (l : Fl) (d : Re) (h : d.k = 1) : stp l d = wo l d.x ++ [(d.x, [])] := by
  unfold stp
  rw [if_neg (by rw [h]; decide), if_pos h]
theorem stp2n (l : Fl) (d : Re) (h : d.k = 2) (hn : look l d.x = none) : stp l d = l := by
  unfold stp
  rw [if_neg (by rw [h]; decide), if_neg (by rw [h]; decide), if_pos h, hn]
  rfl
theorem stp2s (l : Fl) (d : Re) (h : d.k = 2) {L : List UInt8} (hn : look l d.x = some L) : stp l d = wo (wo l d.x) d.y ++ [(d.y, L)] := by
  unfold stp gd
  rw [if_neg (by rw [h]; decide), if_neg (by rw [h]; decide), if_pos h, hn]
  rfl
theorem stp3 (l : Fl) (d : Re) (h0 : d.k ≠ 0) (h1 : d.k ≠ 1) (h2 : d.k ≠ 2) : stp l d = wo l d.x := by
  unfold stp
  rw [if_neg h0, if_neg h1, if_neg h2]
theorem place_none {w : World} {v : Value} {F : List Fn} {x : ByteArray} (hs : Sl ef 2 w v F) (hF : F.length ≤ 1000) (h : look (F.map Fn.p) x = none) : Calls Try.prog 28 #[v, .string x] w fun e W' => e = .returned (.int .i64 (-1)) ∧ W' = w := by
  refine (place_any w v F x hs hF).mono ?_
  rintro e W' ⟨(⟨h1, _⟩ | ⟨i, h1, h2, h3⟩), h4⟩
  · exact ⟨h1, h4⟩
  · rw [h] at h3
    cases h3
theorem place_some {w : World} {v : Value} {F : List Fn} {x : ByteArray} (hs : Sl ef 2 w v F) (hF : F.length ≤ 1000) {L : List UInt8} (h : look (F.map Fn.p) x = some L) : Calls Try.prog 28 #[v, .string x] w fun e W' => ∃ i : Nat, e = .returned (.int .i64 i) ∧ (∃ h : i < F.length, F[i].L = L) ∧ W' = w := by
  refine (place_any w v F x hs hF).mono ?_
  rintro e W' ⟨(⟨h1, h0⟩ | ⟨i, h1, h2, h3⟩), h4⟩
  · rw [h] at h0
    cases h0
  · rw [h] at h3
    exact ⟨i, h1, ⟨h2, (Option.some.inj h3).symm⟩, h4⟩
set_option maxRecDepth 100000 in
set_option maxHeartbeats 40000000 in
theorem rfiles_any (w : World) (q : Nat) (s : Int) (v : Value) (R : List Rn) (hb : Bk w 29 q #[v, .int .i64 s]) (hs : Sl er 4 w v R) (hR : R.length ≤ 100) (hv : Rb w R) :
    Calls Try.prog 24 #[.pointer (some ⟨q, 0, none⟩)] w fun e W' => ∃ v' F, e = .returned v' ∧ Fst w W' R R.length v' F := by
  obtain ⟨ao, cap, rfl, h1, h2⟩ := hs.len
  have HB := hid hb
  have HS := hid hs
  have HV := hid hv
  clear hs hb hv
  go_enter Try.func24, Try.ntmps24
  go_wp2_with fail
  go_loopw [3, 4] (fun v i wr => ∃ (k : Nat) (F : List Fn), k ≤ R.length ∧ i = .int .i64 k ∧ Hid (Fst w wr R k v F)) (fun _ i _ => R.length - (intOf i).toNat)
  case atStart => exact ⟨0, [], Nat.zero_le _, rfl, hid ⟨own_nil w, rfl, fun d hd => (by cases hd), Nat.le_refl _, Q.refl w⟩⟩
  case round =>
    obtain ⟨k, F, hk, rfl, HF⟩ := hrel
    have c0 : wr.cell? ⟨q, 0, none⟩ = some (.slice ao R.length cap) := (HB.out.on HF.out.q).c 0 _ rfl
    by_cases hlt : k < R.length
    · have HS2 := HS.out.on HF.out.q
      obtain ⟨g, off, cap', e, _, _, hat⟩ := HS2.at hlt
      injection e with e1 e2 e3
      subst e1 e3
      have hi : (k : Int) < (R.length : Int) := by omega
      have hv := (HV.out R[k] (List.getElem_mem hlt))
      generalize hrk : R[k] = d at hat hv
      have HRK := hid hrk
      obtain ⟨dk, dx, dy, ⟨da, dn, dc⟩, dL⟩ := d
      have x0 : wr.cell? ⟨g, off + k * 4, none⟩ = some (.int .i64 dk) := hat 0 _ rfl
      have x1 : wr.cell? ⟨g, off + k * 4 + 1, none⟩ = some (.string dx) := hat 1 _ rfl
      have x2 : wr.cell? ⟨g, off + k * 4 + 2, none⟩ = some (.string dy) := hat 2 _ rfl
      have x3 : wr.cell? ⟨g, off + k * 4 + 3, none⟩ = some (.slice da dn dc) := hat 3 _ rfl
      have HVd := hid hv
      have hFl : F.length ≤ 1000 := by have := HF.out.l; omega
      have hq1 : Q wr (wr.alloc (.cells #[.int .i64 dk, .string dx, .string dy, .slice da dn dc] 36)) := (Q.refl wr).alloc _
      have HX1 := hid (bk_new wr 36 #[.int .i64 dk, .string dx, .string dy, .slice da dn dc])
      have HF1 := hid (HF.out.on hq1)
      have HB1 := hid ((HVd.out.1.on HF1.out.q))
      clear hat hv HS2 hq1 hrk
      by_cases hk0 : dk = 0
      · subst hk0
        cases hlk : look (F.map Fn.p) dx with
        | none =>
          have HPL := hid (place_none HF1.out.sl hFl hlk)
          have HL := hid hlk
          clear hlk
          go_upto_region 13 with (first
            | (go_at_call 28; refine HPL.out.mono ?_; rintro e9 w2 ⟨rfl, rfl⟩)
            | (at_builtin; refine wpl_appb rfl _ _ rfl w.heap.size _ [] rfl (own_nil _) _ rfl dL HB1.out (by have := HVd.out.2; simp; omega) HF1.out.q.size ?_; intro v3 w3 ho3 hg3; have HO3 := hid ho3; have hq3 := q_of_grown (Q.refl _) hg3; have HF3 := hid (HF1.out.on hq3); have HX3 := hid (HX1.out.on hq3); clear ho3 hg3 hq3))
          clear HPL HB1 x0 x1 x2 x3 HF1 HX1 c0
          obtain ⟨v3, rfl⟩ := own_sv HO3.out
          obtain ⟨va, vn, vc⟩ := v3
          unfold sv at HO3 ⊢
          have y1 : w3.cell? ⟨wr.heap.size, 1, none⟩ = some (.string dx) := HX3.out.c 1 _ rfl
          have y2 : (w3.alloc (.cells #[.string dx, .slice va vn vc] 58)).cell? ⟨wr.heap.size, 1, none⟩ = some (.string dx) := (HX3.out.on ((Q.refl w3).alloc _)).c 1 _ rfl
          go_region_law (first
            | (refine step_call2 rfl 29 _ _ _ rfl en29 _ _ rfl rfl ?_
               refine (without_any _ _ F dx (HF3.out.sl.on (by first | exact (Q.refl w3).drew | exact ((Q.refl w3).alloc _).drew)) hFl).mono ?_
               rintro e9 w4 ⟨v4, rfl, ho4, hq4⟩
               refine ⟨_, rfl, ?_⟩
               have HO4 := hid ho4
               have HQ4 := hid hq4
               have y3 : w4.cell? ⟨wr.heap.size, 1, none⟩ = some (.string dx) := (HX3.out.on ((Q.trans (by first | exact (Q.refl w3).drew | exact ((Q.refl w3).alloc _).drew) hq4))).c 1 _ rfl
               clear ho4 hq4)
            | (refine step_file rfl _ _ rfl w3.heap.size _ (wof F dx) rfl ((by first | exact HO4.out | exact HO4.out.alloc _ : Own ef 58 2 _ _ _ _).mono (by simp)) ⟨dx, ⟨va, vn, vc⟩, dL⟩ _ rfl (by first | exact bk_new _ _ _ | exact (bk_new _ _ _).on (Q.trans ((Q.refl _).drew) HQ4.out)) (by have := wof_len F dx; omega) (by have := HQ4.out.size; simp at this ⊢; omega) ?_
               intro v5 w5 ho5 hg5
               have HZ := hid (HF3.out.put hlt HRK (by first | exact Q.trans ((Q.refl w3).drew) ((HQ4.out).alloc _) | exact Q.trans (((Q.refl w3).alloc _).drew) HQ4.out) ((by first | exact HO4.out | exact HO4.out.alloc _ : Own ef 58 2 _ _ _ _).mono (by simp)) hg5 ho5 (wof_len F dx) (fun e he => wof_mem he) (by
                 rw [stp0 _ _ rfl, List.map_append, wof_map]
                 show _ = _ ++ [(dx, gd (look (F.map Fn.p)) dx ++ dL)]
                 rw [show gd (look (F.map Fn.p)) dx = [] by unfold gd; rw [HL.out]; rfl]
                 rfl) ⟨own_sb (e := 5) (by exact HO3.out), by have := HVd.out.2; show dL.length ≤ _; omega⟩)
               clear ho5 hg5))
          all_goals (go_wp2_with fail)
          all_goals (refine ⟨⟨k + 1, _, by omega, by go_num, HZ⟩, ?_⟩; simp [intOf]; omega)
        | some L =>
          have HPL := hid (place_some HF1.out.sl hFl hlk)
          have HL := hid hlk
          clear hlk
          go_upto_region 12 with (first
            | (go_at_call 28; refine HPL.out.mono ?_; rintro e9 w2 ⟨i, rfl, hil, rfl⟩; have HIL := hid hil; clear hil)
            | (at_builtin; refine wpl_appb rfl _ _ rfl w.heap.size _ [] rfl (own_nil _) _ rfl dL HB1.out (by have := HVd.out.2; simp; omega) HF1.out.q.size ?_; intro v3 w3 ho3 hg3; have HO3 := hid ho3; have hq3 := q_of_grown (Q.refl _) hg3; have HF3 := hid (HF1.out.on hq3); have HX3 := hid (HX1.out.on hq3); clear ho3 hg3 hq3))
          clear HPL HB1 x0 x1 x2 x3 HF1 HX1 c0
          obtain ⟨v3, rfl⟩ := own_sv HO3.out
          obtain ⟨va, vn, vc⟩ := v3
          obtain ⟨hi2, hiL⟩ := HIL.out
          obtain ⟨fb, foff, fcap, fe, _, _, fat⟩ := HF3.out.sl.at hi2
          obtain rfl := fe
          have hfb := HF3.out.b F[i] (List.getElem_mem hi2)
          rw [hiL] at hfb
          generalize F[i] = fd at fat hfb
          obtain ⟨fx, ⟨fa, fn, fc⟩, fL⟩ := fd
          have HFB : Hid (Sb w3 (sv ⟨fa, fn, fc⟩) L ∧ L.length ≤ 20 * k) := hid hfb
          have z1 : w3.cell? ⟨fb, foff + i * 2 + 1, none⟩ = some (.slice fa fn fc) := fat 1 _ rfl
          have y3 : w3.cell? ⟨wr.heap.size, 3, none⟩ = some (.slice da dn dc) := HX3.out.c 3 _ rfl
          have hin : (i : Int) < (F.length : Int) := by omega
          clear fat hfb
          unfold sv at HO3 ⊢
          go_region_law (first
            | (refine step_appb rfl _ _ rfl w3.heap.size _ [] rfl (own_nil _) _ rfl L (HFB.out.1.on ((Q.refl w3).drew)) (by have := HFB.out.2; simp; omega) (by simp) ?_
               intro v6 w6 ho6 hg6
               obtain ⟨xa, xn, xc⟩ := v6
               have HO6 := hid ho6
               have hq6 : Q w3 w6 := q_of_grown ((Q.refl w3).drew) hg6
               have HQ6 := hid hq6
               have y6 : w6.cell? ⟨wr.heap.size, 3, none⟩ = some (.slice da dn dc) := (HX3.out.on hq6).c 3 _ rfl
               clear ho6 hg6 hq6
               unfold sv)
            | (refine step_appb rfl _ _ rfl w3.heap.size _ _ rfl HO6.out _ rfl dL ((HVd.out.1.on HF3.out.q).on HQ6.out) (by have := HVd.out.2; have := HFB.out.2; simp; omega) HQ6.out.size ?_
               intro v7 w7 ho7 hg7
               obtain ⟨ya, yn, yc⟩ := v7
               have HO7 := hid ho7
               have hq7 : Q w3 w7 := Below.grown HQ6.out hg7 HQ6.out.size (fun j hj => HO6.out.blk j hj)
               have HQ7 := hid hq7
               clear ho7 hg7 hq7
               unfold sv))
          all_goals clear y3 y6 z1
          all_goals (have HF7 := hid (HF3.out.on HQ7.out); have HX7 := hid (HX3.out.on HQ7.out))
          all_goals (go_upto_region 13 with fail)
          all_goals (
            have y1 : w7.cell? ⟨wr.heap.size, 1, none⟩ = some (.string dx) := HX7.out.c 1 _ rfl
            have y2 : (w7.alloc (.cells #[.string dx, .slice ya yn yc] 58)).cell? ⟨wr.heap.size, 1, none⟩ = some (.string dx) := (HX7.out.on ((Q.refl w7).alloc _)).c 1 _ rfl
            go_region_law (first
              | (refine step_call2 rfl 29 _ _ _ rfl en29 _ _ rfl rfl ?_
                 refine (without_any _ _ F dx (HF7.out.sl.on (by first | exact (Q.refl w7).drew | exact ((Q.refl w7).alloc _).drew)) hFl).mono ?_
                 rintro e9 w4 ⟨v4, rfl, ho4, hq4⟩
                 refine ⟨_, rfl, ?_⟩
                 have HO4 := hid ho4
                 have HQ4 := hid hq4
                 have y3 : w4.cell? ⟨wr.heap.size, 1, none⟩ = some (.string dx) := (HX7.out.on ((Q.trans (by first | exact (Q.refl w7).drew | exact ((Q.refl w7).alloc _).drew) hq4))).c 1 _ rfl
                 clear ho4 hq4)
              | (refine step_file rfl _ _ rfl w7.heap.size _ (wof F dx) rfl ((by first | exact HO4.out | exact HO4.out.alloc _ : Own ef 58 2 _ _ _ _).mono (by simp)) ⟨dx, ⟨ya, yn, yc⟩, [] ++ L ++ dL⟩ _ rfl (by first | exact bk_new _ _ _ | exact (bk_new _ _ _).on (Q.trans ((Q.refl _).drew) HQ4.out)) (by have := wof_len F dx; omega) (by have := HQ4.out.size; simp at this ⊢; omega) ?_
                 intro v5 w5 ho5 hg5
                 have HZ := hid (HF7.out.put hlt HRK (by first | exact Q.trans ((Q.refl w7).drew) ((HQ4.out).alloc _) | exact Q.trans (((Q.refl w7).alloc _).drew) HQ4.out) ((by first | exact HO4.out | exact HO4.out.alloc _ : Own ef 58 2 _ _ _ _).mono (by simp)) hg5 ho5 (wof_len F dx) (fun e he => wof_mem he) (by
                   rw [stp0 _ _ rfl, List.map_append, wof_map]
                   show _ = _ ++ [(dx, gd (look (F.map Fn.p)) dx ++ dL)]
                   rw [show gd (look (F.map Fn.p)) dx = L by unfold gd; rw [HL.out]; rfl]
                   rfl) ⟨own_sb (e := 5) (by exact HO7.out), by have := HVd.out.2; have := HFB.out.2; show ([] ++ L ++ dL).length ≤ _; simp; omega⟩)
                 clear ho5 hg5))
            all_goals (go_wp2_with fail)
            all_goals (refine ⟨⟨k + 1, _, by omega, by go_num, HZ⟩, ?_⟩; simp [intOf]; omega))
      · by_cases hk1 : dk = 1
        · subst hk1
          have HPL := hid (place_any _ _ F dx HF1.out.sl hFl)
          go_upto_region 15 with (go_at_call 28; refine HPL.out.mono ?_; rintro e9 w2 ⟨hpl, rfl⟩; obtain ⟨r, rfl⟩ : ∃ r, e9 = .returned (.int .i64 r) := (by rcases hpl with ⟨h, _⟩ | ⟨i, h, _⟩ <;> exact ⟨_, h⟩); clear hpl)
          generalize wr.alloc (.cells #[.int .i64 1, .string dx, .string dy, .slice da dn dc] 36) = W1 at HX1 HF1 ⊢
          clear HPL HB1 x0 x1 x2 x3 c0
          have y1 : W1.cell? ⟨wr.heap.size, 1, none⟩ = some (.string dx) := HX1.out.c 1 _ rfl
          have y2 : (W1.alloc (.cells #[.string dx, .slice none 0 0] 58)).cell? ⟨wr.heap.size, 1, none⟩ = some (.string dx) := (HX1.out.on ((Q.refl W1).alloc _)).c 1 _ rfl
          go_region_law (first
            | (refine step_call2 rfl 29 _ _ _ rfl en29 _ _ rfl rfl ?_
               refine (without_any _ _ F dx (HF1.out.sl.on (by first | exact (Q.refl W1).drew | exact ((Q.refl W1).alloc _).drew)) hFl).mono ?_
               rintro e9 w4 ⟨v4, rfl, ho4, hq4⟩
               refine ⟨_, rfl, ?_⟩
               have HO4 := hid ho4
               have HQ4 := hid hq4
               have y3 : w4.cell? ⟨wr.heap.size, 1, none⟩ = some (.string dx) := (HX1.out.on ((Q.trans (by first | exact (Q.refl W1).drew | exact ((Q.refl W1).alloc _).drew) hq4))).c 1 _ rfl
               clear ho4 hq4)
            | (refine step_file rfl _ _ rfl W1.heap.size _ (wof F dx) rfl ((by first | exact HO4.out | exact HO4.out.alloc _ : Own ef 58 2 _ _ _ _).mono (by simp)) ⟨dx, nl, []⟩ _ rfl (by first | exact bk_new _ _ _ | exact (bk_new _ _ _).on (Q.trans ((Q.refl _).drew) HQ4.out)) (by have := wof_len F dx; omega) (by have := HQ4.out.size; simp at this ⊢; omega) ?_
               intro v5 w5 ho5 hg5
               have HZ := hid (HF1.out.put hlt HRK (by first | exact Q.trans ((Q.refl W1).drew) ((HQ4.out).alloc _) | exact Q.trans (((Q.refl W1).alloc _).drew) HQ4.out) ((by first | exact HO4.out | exact HO4.out.alloc _ : Own ef 58 2 _ _ _ _).mono (by simp)) hg5 ho5 (wof_len F dx) (fun e he => wof_mem he) (by
                 rw [stp1 _ _ rfl, List.map_append, wof_map]
                 rfl) ⟨sb_nil _, Nat.zero_le _⟩)
               clear ho5 hg5))
          all_goals (go_wp2_with fail)
          all_goals (refine ⟨⟨k + 1, _, by omega, by go_num, HZ⟩, ?_⟩; simp [intOf]; omega)
        · by_cases hk2 : dk = 2
          · subst hk2
            cases hlk : look (F.map Fn.p) dx with
            | none =>
              have HPL := hid (place_none HF1.out.sl hFl hlk)
              have HL := hid hlk
              clear hlk
              go_wp2_with (go_at_call 28; refine HPL.out.mono ?_; rintro e9 w2 ⟨rfl, rfl⟩)
              refine ⟨⟨k + 1, F, by omega, by go_num, hid (HF1.out.next hlt HF1.out.o (by rw [HRK.out, stp2n _ _ rfl HL.out]) (HF1.out.b.mono (by omega)) (by have := HF1.out.l; omega) HF1.out.q)⟩, ?_⟩
              simp [intOf]
              omega
            | some L =>
              have HPL := hid (place_some HF1.out.sl hFl hlk)
              have HL := hid hlk
              clear hlk
              go_upto_region 18 with (go_at_call 28; refine HPL.out.mono ?_; rintro e9 w2 ⟨i, rfl, hil, rfl⟩; have HIL := hid hil; clear hil)
              generalize wr.alloc (.cells #[.int .i64 2, .string dx, .string dy, .slice da dn dc] 36) = W1 at HX1 HF1 ⊢
              clear HPL HB1 x0 x1 x2 x3 c0
              obtain ⟨hi2, hiL⟩ := HIL.out
              obtain ⟨fb, foff, fcap, fe, _, _, fat⟩ := HF1.out.sl.at hi2
              obtain rfl := fe
              have hfb := HF1.out.b F[i] (List.getElem_mem hi2)
              rw [hiL] at hfb
              generalize F[i] = fd at fat hfb
              obtain ⟨fx, ⟨fa, fn, fc⟩, fL⟩ := fd
              have HFB : Hid (Sb W1 (sv ⟨fa, fn, fc⟩) L ∧ L.length ≤ 20 * k) := hid hfb
              have z1 : W1.cell? ⟨fb, foff + i * 2 + 1, none⟩ = some (.slice fa fn fc) := fat 1 _ rfl
              have z1a : (W1.alloc (.cells #[.string ⟨#[]⟩, .slice none 0 0] 58)).cell? ⟨fb, foff + i * 2 + 1, none⟩ = some (.slice fa fn fc) := (fat.on ((Q.refl W1).alloc _)) 1 _ rfl
              have y1 : W1.cell? ⟨wr.heap.size, 2, none⟩ = some (.string dy) := HX1.out.c 2 _ rfl
              have y2 : (W1.alloc (.cells #[.string ⟨#[]⟩, .slice none 0 0] 58)).cell? ⟨wr.heap.size, 2, none⟩ = some (.string dy) := (HX1.out.on ((Q.refl W1).alloc _)).c 2 _ rfl
              have hin : (i : Int) < (F.length : Int) := by omega
              clear fat hfb
              go_cut [8] from 76 to 83 (fun f W => ∃ b, f = .pointer (some ⟨b, 0, none⟩) ∧ Hid (Q W1 W) ∧ Hid (Bk W 58 b #[.string dy, .slice fa fn fc]))
              case first =>
                go_region_law (fail)
                all_goals (go_wp2_with fail; go_meet; exact ⟨_, rfl, hid (((Q.refl W1).alloc _).drew), hid ((bk_new W1 58 _).on ((Q.refl _).drew))⟩)
              case rest =>
                obtain ⟨b, rfl, HQ8, HB8⟩ := hcut
                have HF8 := hid (HF1.out.on HQ8.out)
                have HX8 := hid (HX1.out.on HQ8.out)
                clear z1 z1a y1 y2 HX1 HF1
                have yn : Hid (∀ W, Q wc W → W.cell? ⟨wr.heap.size, 1, none⟩ = some (.string dx)) := hid (fun W h => (HX8.out.on h).c 1 _ rfl)
                have yt : Hid (∀ W, Q wc W → W.cell? ⟨wr.heap.size, 2, none⟩ = some (.string dy)) := hid (fun W h => (HX8.out.on h).c 2 _ rfl)
                have yf0 : Hid (∀ W, Q wc W → W.cell? ⟨b, 0, none⟩ = some (.string dy)) := hid (fun W h => (HB8.out.on h).c 0 _ rfl)
                have yf1 : Hid (∀ W, Q wc W → W.cell? ⟨b, 1, none⟩ = some (.slice fa fn fc)) := hid (fun W h => (HB8.out.on h).c 1 _ rfl)
                go_upto_region 19 with fail
                refine wp_region_gi (by kernel_rfl) [84, 85, 86, 87, 88, 89, 90, 91, 92, 93, 3] 9 (fun i => 84 + i) 3 wc (F19 (.slice (some ⟨fb, foff, none⟩) F.length fcap) wr.heap.size dx dy (.slice fa fn fc) F wc.heap.size) (fun u W => Fst w W R (k + 1) u (wof (wof F dx) dy ++ [⟨dy, ⟨fa, fn, fc⟩, L⟩])) (by kernel_rfl) rfl (Q.refl wc) ?A (fun A => steps_list ⟨?o0, ?o1, ?o2, ?o3, ?o4, ?o5, ?o6, ?o7, ?o8, ?o9, ?o10, trivial⟩) ?done9
                case A =>
                  refine ⟨fun L c h => ?_, fun L c h => c 10 _ rfl h 9 (by decide), f19_on, fun j k _ _ h => by omega, fun k hk => by omega⟩
                  have a6 := c 9 _ rfl h 6 (by decide)
                  have a8 := c 9 _ rfl h 8 (by decide)
                  have a7 := c 8 _ rfl a8 7 (by decide)
                  have a3 := c 6 _ rfl a6 3 (by decide)
                  have a5 := c 6 _ rfl a6 5 (by decide)
                  have a4 := c 5 _ rfl a5 4 (by decide)
                  have a0 := c 3 _ rfl a3 0 (by decide)
                  have a2 := c 3 _ rfl a3 2 (by decide)
                  have a1 := c 2 _ rfl a2 1 (by decide)
                  intro k hk
                  rcases (by omega : k = 0 ∨ k = 1 ∨ k = 2 ∨ k = 3 ∨ k = 4 ∨ k = 5 ∨ k = 6 ∨ k = 7 ∨ k = 8) with rfl | rfl | rfl | rfl | rfl | rfl | rfl | rfl | rfl <;> assumption
                case o0 =>
                  intro L9 v9 W9 J hL hd
                  obtain ⟨hq9, hΦ⟩ := J.a (J.no A (k := 0) (by decide) hL)
                  have hz0 : v9 3 = .slice (some ⟨fb, foff, none⟩) F.length fcap := J.nz A (k := 0) (by decide) hL
                  refine op_valp rfl rfl rfl (by decide) (by simp only [frA, List.foldl_cons, List.foldl_nil, List.setIfInBounds_toArray, List.set_cons_zero, List.set_cons_succ]; (go_simp) <;> (first | exact ⟨⟨rfl, rfl⟩, rfl⟩ | exact ⟨rfl, rfl⟩ | with_reducible rfl)) (J.st A 0 (by decide) rfl hL hd (Q.refl _) (rfl))
                case o1 =>
                  intro L9 v9 W9 J hL hd
                  obtain ⟨hq9, hΦ⟩ := J.a (J.no A (k := 1) (by decide) hL)
                  refine op_valp rfl rfl rfl (by decide) (by simp only [frA, List.foldl_cons, List.foldl_nil, List.setIfInBounds_toArray, List.set_cons_zero, List.set_cons_succ]; (go_simp) <;> (first | exact ⟨⟨rfl, rfl⟩, rfl⟩ | exact ⟨rfl, rfl⟩ | with_reducible rfl)) (J.st A 1 (by decide) rfl hL hd (Q.refl _) (rfl))
                case o2 =>
                  intro L9 v9 W9 J hL hd
                  obtain ⟨hq9, hΦ⟩ := J.a (J.no A (k := 2) (by decide) hL)
                  have h1 : v9 85 = .pointer (some ⟨wr.heap.size, 1, none⟩) := hΦ 1 (by decide) (hd 1 (by decide))
                  have yy := yn.out W9 hq9
                  refine op_valp rfl rfl rfl (by decide) (by simp only [frA, List.foldl_cons, List.foldl_nil, List.setIfInBounds_toArray, List.set_cons_zero, List.set_cons_succ]; (go_simp) <;> (first | exact ⟨⟨rfl, rfl⟩, rfl⟩ | exact ⟨rfl, rfl⟩ | with_reducible rfl)) (J.st A 2 (by decide) rfl hL hd (Q.refl _) (rfl))
                case o3 =>
                  intro L9 v9 W9 J hL hd
                  obtain ⟨hq9, hΦ⟩ := J.a (J.no A (k := 3) (by decide) hL)
                  have h0 : v9 84 = .slice (some ⟨fb, foff, none⟩) F.length fcap := hΦ 0 (by decide) (hd 0 (by decide))
                  have h2 : v9 86 = .string dx := hΦ 2 (by decide) (hd 2 (by decide))
                  refine op_callp rfl rfl rfl (by decide) (ex_call rfl ((ev_in (by decide) rfl).trans h0) ((ev_in (by decide) rfl).trans h2) rfl en29) ?_
                  refine (without_any W9 _ F dx (HF8.out.sl.on hq9) hFl).mono ?_
                  rintro e9 w9 ⟨v9', rfl, ho9, hq9'⟩
                  exact ⟨_, rfl, J.st A 3 (by decide) rfl hL hd hq9' (ho9.mono hq9.size)⟩
                case o4 =>
                  intro L9 v9 W9 J hL hd
                  obtain ⟨hq9, hΦ⟩ := J.a (J.no A (k := 4) (by decide) hL)
                  refine op_valp rfl rfl rfl (by decide) (by simp only [frA, List.foldl_cons, List.foldl_nil, List.setIfInBounds_toArray, List.set_cons_zero, List.set_cons_succ]; (go_simp) <;> (first | exact ⟨⟨rfl, rfl⟩, rfl⟩ | exact ⟨rfl, rfl⟩ | with_reducible rfl)) (J.st A 4 (by decide) rfl hL hd (Q.refl _) (rfl))
                case o5 =>
                  intro L9 v9 W9 J hL hd
                  obtain ⟨hq9, hΦ⟩ := J.a (J.no A (k := 5) (by decide) hL)
                  have h4 : v9 88 = .pointer (some ⟨wr.heap.size, 2, none⟩) := hΦ 4 (by decide) (hd 4 (by decide))
                  have yy := yt.out W9 hq9
                  refine op_valp rfl rfl rfl (by decide) (by simp only [frA, List.foldl_cons, List.foldl_nil, List.setIfInBounds_toArray, List.set_cons_zero, List.set_cons_succ]; (go_simp) <;> (first | exact ⟨⟨rfl, rfl⟩, rfl⟩ | exact ⟨rfl, rfl⟩ | with_reducible rfl)) (J.st A 5 (by decide) rfl hL hd (Q.refl _) (rfl))
                case o6 =>
                  intro L9 v9 W9 J hL hd
                  obtain ⟨hq9, hΦ⟩ := J.a (J.no A (k := 6) (by decide) hL)
                  have h3 : Own ef 58 2 wc.heap.size W9 (v9 87) (wof F dx) := hΦ 3 (by decide) (hd 3 (by decide))
                  have h5 : v9 89 = .string dy := hΦ 5 (by decide) (hd 5 (by decide))
                  refine op_callp rfl rfl rfl (by decide) (ex_call rfl (ev_in (by decide) rfl) ((ev_in (by decide) rfl).trans h5) rfl en29) ?_
                  refine (without_any W9 _ (wof F dx) dy (h3.sl ef_len (by decide)) (by have := wof_len F dx; omega)).mono ?_
                  rintro e9 w9 ⟨v9', rfl, ho9, hq9'⟩
                  exact ⟨_, rfl, J.st A 6 (by decide) rfl hL hd hq9' (ho9.mono hq9.size)⟩
                case o7 =>
                  intro L9 v9 W9 J hL hd
                  obtain ⟨hq9, hΦ⟩ := J.a (J.no A (k := 7) (by decide) hL)
                  have yy := yf0.out W9 hq9
                  have yz := yf1.out W9 hq9
                  refine op_valp rfl rfl rfl (by decide) (by simp only [frA, List.foldl_cons, List.foldl_nil, List.setIfInBounds_toArray, List.set_cons_zero, List.set_cons_succ]; (go_simp) <;> (first | exact ⟨⟨rfl, rfl⟩, rfl⟩ | exact ⟨rfl, rfl⟩ | with_reducible rfl)) (J.st A 7 (by decide) rfl hL hd (Q.refl _) (rfl))
                case o8 =>
                  intro L9 v9 W9 J hL hd
                  obtain ⟨hq9, hΦ⟩ := J.a (J.no A (k := 8) (by decide) hL)
                  have h7 : v9 91 = .agg #[.string dy, .slice fa fn fc] := hΦ 7 (by decide) (hd 7 (by decide))
                  refine op_valp rfl rfl rfl (by decide) (by simp only [frA, List.foldl_cons, List.foldl_nil, List.setIfInBounds_toArray, List.set_cons_zero, List.set_cons_succ]; (go_simp) <;> (first | exact ⟨⟨rfl, rfl⟩, rfl⟩ | exact ⟨rfl, rfl⟩ | with_reducible rfl)) (J.st A 8 (by decide) rfl hL hd ((Q.refl _).alloc _) (⟨_, rfl, bk_new _ _ _⟩))
                case o9 =>
                  intro L9 v9 W9 J hL hd
                  obtain ⟨hq9, hΦ⟩ := J.rdy A rfl hL hd
                  have h6 : Own ef 58 2 wc.heap.size W9 (v9 90) (wof (wof F dx) dy) := hΦ 6 (by decide)
                  obtain ⟨b8, h8, hb8⟩ : ∃ b, v9 92 = .slice (some ⟨b, 0, none⟩) 1 1 ∧ Bk W9 58 b #[.string dy, .slice fa fn fc] := hΦ 8 (by decide)
                  obtain ⟨v5, w5, r5, ho5, hg5⟩ := run_file W9 55 wc.heap.size _ _ h6 ⟨dy, ⟨fa, fn, fc⟩, L⟩ b8 hb8 (by have := wof_len F dx; have := wof_len (wof F dx) dy; omega) hq9.size
                  refine op_valp rfl rfl rfl (by decide) (ex_append rfl (ev_in (by decide) rfl) ((ev_in (by decide) rfl).trans h8) r5) (J.ap A rfl hL hd ?_)
                  exact HF8.out.put hlt HRK hq9 h6 hg5 ho5 (by have := wof_len F dx; have := wof_len (wof F dx) dy; omega) (fun e he => wof_mem (wof_mem he)) (by
                    rw [stp2s _ _ rfl HL.out, List.map_append, wof_map, wof_map]
                    rfl) ⟨HFB.out.1.on HQ8.out, by have := HFB.out.2; show L.length ≤ _; omega⟩
                case o10 =>
                  intro L9 v9 W9 J hL hd
                  exact op_valp rfl rfl rfl (by decide) (by simp only [frA, List.foldl_cons, List.foldl_nil, List.setIfInBounds_toArray, List.set_cons_zero, List.set_cons_succ]; (go_simp) <;> (first | exact ⟨⟨rfl, rfl⟩, rfl⟩ | exact ⟨rfl, rfl⟩ | with_reducible rfl)) (J.as A rfl (hd 9 (by decide)) hd rfl)
                case done9 =>
                  intro v9 W9 hz he
                  have HZ := hid hz
                  simp only [frA, List.foldl_cons, List.foldl_nil, List.setIfInBounds_toArray, List.set_cons_zero, List.set_cons_succ]
                  rw [he]
                  clear hz he
                  go_wp2_with fail
                  refine ⟨⟨k + 1, _, by omega, by go_num, HZ⟩, ?_⟩
                  simp [intOf]
                  omega
          · have HPL := hid (place_any _ _ F dx HF1.out.sl hFl)
            have HWO := hid (without_any _ _ F dx HF1.out.sl hFl)
            go_wp2_with (first
              | (go_at_call 28; refine HPL.out.mono ?_; rintro e9 w2 ⟨hpl, rfl⟩; obtain ⟨r, rfl⟩ : ∃ r, e9 = .returned (.int .i64 r) := (by rcases hpl with ⟨h, _⟩ | ⟨i, h, _⟩ <;> exact ⟨_, h⟩); clear hpl)
              | (go_at_call 29; refine HWO.out.mono ?_; rintro e9 w4 ⟨v4, rfl, ho4, hq4⟩; have HO4 := hid ho4; have HQ4 := hid hq4; clear ho4 hq4))
            refine ⟨⟨k + 1, _, by omega, by go_num, hid (HF1.out.next hlt (HO4.out.mono HF1.out.q.size) (by rw [HRK.out, stp3 _ _ hk0 hk1 hk2, wof_map]; rfl) (((HF1.out.b.wof dx).on HQ4.out).mono (by omega)) (by have := HF1.out.l; have := wof_len F dx; omega) (HF1.out.q.trans (Q.trans (Q.refl _) HQ4.out)))⟩, ?_⟩
            simp [intOf]
            omega
    · obtain rfl : k = R.length := by omega
      go_wp2_with fail
      go_ret
      exact ⟨_, F, rfl, HF.out⟩
end Go.Proofs.Ytbknbffmpnomlaa
