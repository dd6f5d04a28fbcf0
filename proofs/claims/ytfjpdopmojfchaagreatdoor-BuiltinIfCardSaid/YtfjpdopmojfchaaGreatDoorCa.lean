/- Values of a slice, cut; the reference's worst error; an argument of one value. -/
import Derived.Test.YtfjpdopmojfchaaGreatDoorBo
namespace Go.Proofs.YtfjpdopmojfchaaGreatDoor
open Go.RowKit
set_option linter.unusedVariables false
set_option linter.unusedSimpArgs false
set_option maxHeartbeats 1000000 in
theorem rworst_sl (l : List Cv) (v : Value) (w : World) (h : Sl Cv.cells 5 w v l) (hm : l.length ≤ 1000) (hs : ∀ x ∈ l, x.sm) :
    Calls Tryz.prog 22 #[v] w fun e w' => e = .returned (.int .i64 (worst l)) ∧ Q w w' := by
  obtain ⟨ao, cap, rfl, h1, h2, h3⟩ := h
  rcases Nat.eq_zero_or_pos l.length with h0 | h0
  · have hl := List.eq_nil_of_length_eq_zero h0
    subst hl
    clear h3
    simp only [List.length_nil]
    go_enter Tryz.func22, Tryz.ntmps22
    go_wp2
    refine wp_loop_rounds 1 ?_
    rw [rounds_succ]
    go_wp2
    go_ret
    exact ⟨rfl, Q.refl _⟩
  · obtain ⟨b, off, rfl, hc⟩ := h3 h0
    refine rworst_row b off l.length cap l w rfl (by omega) (fun i hi => ?_) (fun i hi => ?_)
    · rw [getD_at _ hi]; exact hs _ (List.getElem_mem hi)
    · rw [getD_at _ hi]; exact at5_of (hc i hi)
theorem cut_snoc (l : List Cv) (k : Nat) (hk : k < l.length) : (l.take (k + 1)).map Cv.cut = (l.take k).map Cv.cut ++ [l[k].cut] := by
  rw [List.take_succ_eq_append_getElem hk, List.map_append]
  rfl
set_option maxRecDepth 100000 in
set_option maxHeartbeats 4000000 in
theorem cutAll_any (m n : Nat) (l : List Cv) (v : Value) (w : World) (h : Sl Cv.cells 5 w v l) (hm : m ≤ 30) (hn : (l.length ≤ m ∧ n = l.length) ∨ (m < l.length ∧ n = m)) :
    Calls Tryz.prog 11 #[v, .int .i64 m] w fun e w' => ∃ s, e = .returned s ∧ Own Cv.cells 37 5 w.heap.size w' s ((l.take n).map Cv.cut) ∧ Q w w' := by
  obtain ⟨ao, cap, rfl, h1, h2, h3⟩ := h
  obtain ⟨len, hlen⟩ : ∃ len, l.length = len := ⟨_, rfl⟩
  have HL := hid hlen
  have HC : Hid (0 < len → ∃ b off, ao = some ⟨b, off, none⟩ ∧ ∀ i (hp : i < l.length), At5 w b (off + i * 5) l[i]) := by
    intro h0
    obtain ⟨b, off, ha, hc⟩ := h3 (by omega)
    exact ⟨b, off, ha, fun i hp => at5_of (hc i hp)⟩
  have hbig : (len : Int) ≤ 9223372036854775807 := by unfold maxLen at h2; omega
  obtain ⟨i0, hi, hz0, hz1, hz2⟩ := inf_of info24
  rw [hlen] at h1 hn ⊢
  clear h3 hlen
  have hn30 : n ≤ 30 := by omega
  have hnl : n ≤ len := by omega
  go_enter Tryz.func11, Tryz.ntmps11
  go_wp2
  go_loopw [5, 6] (fun s i W => ∃ k : Nat, k ≤ n ∧ i = .int .i64 k ∧ Own Cv.cells 37 5 w.heap.size W s ((l.take k).map Cv.cut) ∧ Q w W) (fun _ i _ => n - (intOf i).toNat)
  case atStart => exact ⟨0, Nat.zero_le _, rfl, own_nil _, Q.refl _⟩
  case round =>
    obtain ⟨k, hk, rfl, hown, hq⟩ := hrel
    by_cases hlt : k < n
    · have hkl : (k : Int) < (len : Int) := by omega
      have hkm : (k : Int) < (m : Int) := by omega
      have hkp : k < l.length := by have := HL.out; omega
      obtain ⟨b, off, rfl, hc⟩ := HC.out (by omega)
      have a5 := (hc k hkp).on hq
      have hF := hid (cut_snoc l k hkp)
      have hLL : ((l.take k).map Cv.cut).length = k := by simp; omega
      clear hc
      generalize l[k] = x at *
      have HU := hid (fun W => cutv_any x W)
      obtain ⟨y, hy⟩ : ∃ y, x.cut = y := ⟨_, rfl⟩
      rw [hy] at HU
      have hF' : Hid ((l.take (k + 1)).map Cv.cut = (l.take k).map Cv.cut ++ [y]) := by show _ = _; rw [hF.out, hy]
      clear hy hF
      obtain ⟨xk, xn, xt, xb, xe⟩ := x
      obtain ⟨yk, yn, yt, yb, ye⟩ := y
      obtain ⟨c0, c1, c2, c3, c4⟩ := a5
      simp only [Cv.v, vv] at HU c0 c1 c2 c3 c4
      generalize (l.take k).map Cv.cut = L at hown hF' hLL
      have HOW := hid hown
      have HQ := hid hq
      have HLL := hid hLL
      clear hown hq hn hLL
      go_wp2_with (first
        | (go_at_call 17; refine (HU.out _).mono ?_; rintro r w2 ⟨rfl, q2⟩; have Q2 := hid q2; clear q2)
        | (at_builtin; refine wpList_append_own _ rfl _ _ 27 rfl w.heap.size 37 i0 (.agg #[.int .i64 0, .int .i64 0, .string ⟨#[]⟩, .bool false, .int .i64 0]) 5 48 Tryz.underlying27 hi hz0 hz1 hz2 rfl (by decide) _ _ _ rfl (World.ownsRow.alloc (Own.on HOW.out Q2.out) _) ⟨w2.heap.size, 0, none⟩ 1 1 [.int .i64 yk, .int .i64 yn, .string yt, .bool yb, .int .i64 ye] rfl rfl ?c1 ?c2 ?c3 ?c4 ?c5 ?_))
      case c1 => exact news_new w2 [.int .i64 yk, .int .i64 yn, .string yt, .bool yb, .int .i64 ye] 37
      case c2 =>
        intro u hu
        simp at hu
        rcases hu with rfl | rfl | rfl | rfl | rfl <;> rfl
      case c3 => have := HLL.out; unfold maxLen; omega
      case c4 => have := HLL.out; omega
      case c5 => have := (HQ.out.trans Q2.out).size; simp; omega
      · intro v' w3 hown' hgrow _
        have HO2 : Hid (Own Cv.cells 37 5 w.heap.size w3 v' ((l.take (k + 1)).map Cv.cut)) := by
          show Own _ _ _ _ _ _ _
          rw [hF'.out]
          exact own_snoc' (x := (⟨yk, yn, yt, yb, ye⟩ : Cv)) hown' rfl
        have HQ2 : Hid (Q w w3) := Below.grown ((HQ.out.trans Q2.out).alloc _) hgrow (by have := (HQ.out.trans Q2.out).size; simp; omega) (Own.blk HOW.out)
        clear hown' hgrow
        go_wp2
        go_roundw
        case rel => exact ⟨k + 1, by omega, by go_num, HO2.out, HQ2.out⟩
        case measure => simp [intOf]; omega
    · have hkn : k = n := by omega
      subst hkn
      have HOW := hid hown
      have HQ := hid hq
      clear hown hq
      rcases hn with ⟨g1, g2⟩ | ⟨g1, g2⟩
      · have hkl : ¬ (k : Int) < (len : Int) := by omega
        clear g1 g2 hn30 hnl hlt
        go_wp2
        go_ret
        exact ⟨_, rfl, (by rw [← List.map_take]; exact HOW.out), HQ.out⟩
      · have hkl : (k : Int) < (len : Int) := by omega
        have hk3 : ¬ (k : Int) < (m : Int) := by omega
        clear g1 g2 hn30 hnl hlt
        go_wp2
        go_ret
        exact ⟨_, rfl, (by rw [← List.map_take]; exact HOW.out), HQ.out⟩
/-- a slice that reads one value of a block of its own -/
def Ob (W : World) (s : Value) (x : Cv) : Prop := ∃ g, s = .slice (some ⟨g, 0, none⟩) 1 1 ∧ W.heap[g]? = some (.cells #[.int .i64 x.k, .int .i64 x.n, .string x.t, .bool x.b, .int .i64 x.e] 37 (0, 0))
theorem lt_of_heap {W : World} {g : Nat} {o : Obj} (h : W.heap[g]? = some o) : g < W.heap.size := by
  rcases Nat.lt_or_ge g W.heap.size with h' | h'
  · exact h'
  · rw [Array.getElem?_eq_none h'] at h; cases h
theorem Ob.on {W W' : World} {s : Value} {x : Cv} (h : Ob W s x) (q : Q W W') : Ob W' s x := by
  obtain ⟨g, e, hg⟩ := h
  exact ⟨g, e, (Q.block q (lt_of_heap hg)).trans hg⟩
theorem Ob.sl {W : World} {s : Value} {x : Cv} (h : Ob W s x) : Sl Cv.cells 5 W s [x] := by
  obtain ⟨g, rfl, hg⟩ := h
  refine ⟨_, 1, rfl, Nat.le_refl _, by unfold maxLen; omega, fun _ => ⟨g, 0, rfl, fun i hi j u hu => ?_⟩⟩
  simp at hi
  subst hi
  rw [Lib.cell_of_heap hg]
  simpa [Cv.cells] using hu
theorem Ob.grown {W W' : World} {B : Nat} {v s : Value} {x : Cv} {A : List Ag} (h : Ob W s x) (ho : Own Ag.cells 32 2 B W v A) (g : W.grownBy W' v.ownBlock) : Ob W' s x := by
  obtain ⟨b, e, hb⟩ := h
  refine ⟨b, e, (g.block b (lt_of_heap hb) fun hne => ?_).trans hb⟩
  obtain ⟨_, ho⟩ := ho
  rcases ho with ⟨hv, _⟩ | ⟨g', cap, cur, hv, _, hg, _⟩
  · rw [hv] at hne; cases hne
  · rw [hv] at hne
    simp only [Value.ownBlock, Option.some.injEq] at hne
    subst hne
    rw [hg] at hb
    cases hb
theorem hp_new (w : World) (o : Obj) (g : Nat) (hg : g = w.heap.size) : (w.alloc o).heap[g]? = some o := by
  subst hg
  show (w.heap.push o)[w.heap.size]? = some o
  simp
theorem arg1_ob (x : Cv) (w : World) : Calls Tryz.prog 24 #[x.v] w fun e w' => ∃ s, e = .returned (.agg #[.bool false, s]) ∧ Ob w' s x ∧ Q w w' := by
  obtain ⟨k, n, t, b, e⟩ := x
  unfold Cv.v vv
  go_enter Tryz.func24, Tryz.ntmps24
  go_wp2
  refine bodyPost_ret (v := .agg #[.bool false, .slice (some ⟨w.heap.size + 1 + 1, 0, none⟩) 1 1]) (by simp [results, Tryz.results24, go_sem]) rfl ⟨_, rfl, ⟨_, rfl, ?_⟩, (((Q.refl _).alloc _).alloc _).alloc _⟩
  exact hp_new _ _ _ (by simp only [World.size_alloc])
end Go.Proofs.YtfjpdopmojfchaaGreatDoor
