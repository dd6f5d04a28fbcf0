/- What the statements of layer 12 begin with. -/
/- BuiltinIf: the walk. -/
/- Values of a slice, cut; the reference's worst error; an argument of one value. -/
/- Functions of single values of which one is an error. -/
import Derived.Test.YtfmlhdpcdjkelaaGreatDoorBm
import Derived.Deep.CutBlock
namespace Go.Proofs.YtfmlhdpcdjkelaaGreatDoor
open Go.RowKit
set_option linter.unusedVariables false
set_option linter.unusedSimpArgs false

set_option maxRecDepth 100000 in
set_option maxHeartbeats 4000000 in
theorem bbegun_any (w : World) (hw : Std2 w) : Calls Tryz.prog 8 #[] w fun e w' => e = .returned (.bool true) ∧ Q w w' := by
  have HN := hid (fun n W => num_any n W)
  have HT := hid (fun W => txt_any ⟨#[120]⟩ W)
  have HS := hid (fun W2 W3 q2 q3 => beg_sum w W2 W3 hw q2 q3)
  have HD := hid (fun W (q : Q w W) => beg_div W (hw.on q))
  have HG := hid (fun W (q : Q w W) => beg_neg W (hw.on q))
  have HK := hid (fun W => known_if W)
  have HL := hid (fun W => known_no W)
  have hfd : ∀ W, (Instr.field 24 (.agg #[.int .i64 1, .int .i64 (-3), .string ⟨#[]⟩, .bool false, .int .i64 0]) 1).run Tryz.prog W = .ok (.int .i64 (-3)) W := fun W => by kernel_rfl
  have S0 : Hid True := trivial
  have S1 : Hid True := trivial
  have S2 : Hid True := trivial
  have S3 : Hid True := trivial
  simp only [vv, Cv.v, nu, er] at *
  clear hw
  go_enter Tryz.func8, Tryz.ntmps8
  go_wp2_with (first
    | (go_at_call 23; clear S0; refine (HN.out _ _).mono ?_; rintro e w1 ⟨rfl, q1⟩)
    | (go_at_call 24; refine (HT.out _).mono ?_; rintro e w2 ⟨rfl, q2⟩; have Q2 := hid (q1.trans q2); clear q2 q1)
    | (go_at_call 23; clear S1; refine (HN.out _ _).mono ?_; rintro e w3 ⟨rfl, q3⟩; have Q3 := hid q3; clear q3)
    | (go_at_call 18; refine (HS.out w2 w3 Q2.out Q3.out).mono ?_; rintro e w4 ⟨rfl, q4⟩; have Q4 := hid (((Q2.out.alloc _).trans Q3.out).trans q4); have X4 := hid (bx_new w4 (.int .i64 1) (.int .i64 15000) (.string ⟨#[]⟩) (.bool false) (.int .i64 0)); clear q4)
    | (go_at_call 23; clear S2; refine (HN.out _ _).mono ?_; rintro e w5 ⟨rfl, q5⟩; have Q5' := hid ((Q4.out.alloc _).trans q5); have X5 := hid (X4.out.on q5); clear q5)
    | (go_at_call 23; clear S3; refine (HN.out _ _).mono ?_; rintro e w6 ⟨rfl, q6⟩; have Q6 := hid (Q5'.out.trans q6); have X6 := hid (X5.out.on q6); clear q6)
    | (go_at_call 12; refine (HD.out _ Q6.out).mono ?_; rintro e w7 ⟨rfl, q7⟩; have Q7 := hid (Q6.out.trans q7); obtain ⟨x0, x1, x2, x3, x4, _, _, _, _, _, xl⟩ := X6.out.on q7; clear q7)
    | (go_at_call 25; refine (HK.out _).mono ?_; rintro e w8 ⟨rfl, q8⟩; have Q8 := hid ((Q7.out.alloc _).trans q8); clear q8 HK)
    | (go_at_call 25; refine (HL.out _).mono ?_; rintro e w9 ⟨rfl, q9⟩; have Q9 := hid (Q8.out.trans q9); clear q9)
    | (go_at_call 23; refine (HN.out _ _).mono ?_; rintro e w10 ⟨rfl, q10⟩; have Q10 := hid (Q9.out.trans q10); clear q10)
    | (go_at_call 14; refine (HG.out _ Q10.out).mono ?_; rintro e w11 ⟨rfl, q11⟩; have Q11 := hid (Q10.out.trans q11); clear q11))
  go_ret
  exact ⟨rfl, Q11.out⟩
end Go.Proofs.YtfmlhdpcdjkelaaGreatDoor
namespace Go.Proofs.YtfmlhdpcdjkelaaGreatDoor
open Go.RowKit
set_option linter.unusedVariables false
set_option linter.unusedSimpArgs false

/-- two values in their boxes -/
structure Bp (w : World) (a b : Cv) (W : World) : Prop where
  q : Q w W
  x : Bx W w.heap.size (.int .i64 a.k) (.int .i64 a.n) (.string a.t) (.bool a.b) (.int .i64 a.e)
  y : Bx W (w.heap.size + 1) (.int .i64 b.k) (.int .i64 b.n) (.string b.t) (.bool b.b) (.int .i64 b.e)
theorem Bp.on {w W W' : World} {a b : Cv} (h : Bp w a b W) (g : Q W W') : Bp w a b W' := ⟨h.q.trans g, h.x.on g, h.y.on g⟩
theorem Bp.drew {w W : World} {a b : Cv} (h : Bp w a b W) : Bp w a b W.drew := h.on (Q.refl _).drew
theorem bp_new (w : World) (a b : Cv) : Bp w a b ((w.alloc (.cells #[.int .i64 a.k, .int .i64 a.n, .string a.t, .bool a.b, .int .i64 a.e] 24)).alloc (.cells #[.int .i64 b.k, .int .i64 b.n, .string b.t, .bool b.b, .int .i64 b.e] 24)) := by
  refine ⟨((Q.refl _).alloc _).alloc _, (bx_new w _ _ _ _ _).on ((Q.refl _).alloc _), ?_⟩
  have h := bx_new (w.alloc (.cells #[.int .i64 a.k, .int .i64 a.n, .string a.t, .bool a.b, .int .i64 a.e] 24)) (.int .i64 b.k) (.int .i64 b.n) (.string b.t) (.bool b.b) (.int .i64 b.e)
  rw [World.size_alloc] at h
  exact h
theorem Bp.setTwo {w W : World} {a b : Cv} (J : Bp w a b W) (x z : Cv) : Bp w x z (set5 (set5 W w.heap.size (.int .i64 x.k) (.int .i64 x.n) (.string x.t) (.bool x.b) (.int .i64 x.e)) (w.heap.size + 1) (.int .i64 z.k) (.int .i64 z.n) (.string z.t) (.bool z.b) (.int .i64 z.e)) :=
  ⟨(J.q.set5 (Nat.le_refl _)).set5 (by omega), J.x.set5.far5 (by omega), (J.y.far5 (by omega)).set5⟩
theorem cutv_any (x : Cv) (w : World) : Calls Tryz.prog 10 #[x.v] w fun r w' => r = .returned x.cut.v ∧ Q w w' := cut_any2 x.k x.n x.t x.b x.e w
theorem cut_sm (x : Cv) : (x.cut.t.size : Int) ≤ 250 := by have := cutT_size x.t; show ((cutT x.t).size : Int) ≤ 250; omega
theorem cut_sm' (x : Cv) : x.cut.sm := by have := cut_sm x; unfold Cv.sm; omega
theorem rmayv_any (x : Cv) (w : World) (hs : x.sm) : Calls Tryz.prog 19 #[x.v] w fun r w' => r = .returned (.bool x.may) ∧ Q w w' := rmay_any x.k x.n x.t x.b x.e w hs
theorem eqv_same (x : Cv) (w : World) : Calls Tryz.prog 11 #[x.v, x.v] w fun r w' => r = .returned (.bool true) ∧ Q w w' := by
  have h := req_any x.k x.n x.t x.b x.e x.k x.n x.t x.b x.e w
  have e : eqB x.k x.n x.t.toList x.b x.e x.k x.n x.t.toList x.b x.e = true := by unfold eqB; simp
  rw [e] at h
  exact h

theorem args2 {V : World} {s1 s2 : Value} {x1 x2 : Cv} (h1 : Sl Cv.cells 5 V s1 [x1]) (h2 : Sl Cv.cells 5 V s2 [x2]) : Args (V.alloc (.cells #[.bool false, s1, .bool false, s2] 37)) (.slice (some ⟨V.heap.size, 0, none⟩) 2 2) (sg [(s1, x1), (s2, x2)]) := by
  refine ⟨sl_lit Ag.len V (sg [(s1, x1), (s2, x2)]) 2 rfl (by omega) 37, fun a ha => ?_⟩
  simp only [sg, List.map_cons, List.map_nil, List.mem_cons, List.not_mem_nil, or_false] at ha
  rcases ha with rfl | rfl
  · exact h1.on ((Q.refl _).alloc _)
  · exact h2.on ((Q.refl _).alloc _)
theorem args3 {V : World} {s1 s2 s3 : Value} {x1 x2 x3 : Cv} (h1 : Sl Cv.cells 5 V s1 [x1]) (h2 : Sl Cv.cells 5 V s2 [x2]) (h3 : Sl Cv.cells 5 V s3 [x3]) : Args (V.alloc (.cells #[.bool false, s1, .bool false, s2, .bool false, s3] 37)) (.slice (some ⟨V.heap.size, 0, none⟩) 3 3) (sg [(s1, x1), (s2, x2), (s3, x3)]) := by
  refine ⟨sl_lit Ag.len V (sg [(s1, x1), (s2, x2), (s3, x3)]) 3 rfl (by omega) 37, fun a ha => ?_⟩
  simp only [sg, List.map_cons, List.map_nil, List.mem_cons, List.not_mem_nil, or_false] at ha
  rcases ha with rfl | rfl | rfl
  · exact h1.on ((Q.refl _).alloc _)
  · exact h2.on ((Q.refl _).alloc _)
  · exact h3.on ((Q.refl _).alloc _)
theorem bsin {W : World} {p F : Nat} {f : Value} (hf : f = .func (.func 112) #[] #[.pointer (some ⟨p, 0, none⟩)]) (h : SinV W f F) : W.cell? ⟨p, 0, none⟩ = some (.func (.func F) #[] #[]) := by
  obtain ⟨p', e, c⟩ := h
  rw [hf] at e
  simp at e
  subst e
  exact c
/-- IF of three, of two -/
theorem if3 (c : Bool) (a b : Cv) (V : World) (hw : Std2 V) (ha : a.may = true) (hb : b.may = true) (sa : a.sm) (sb : b.sm) (s1 s2 s3 : Value) (h1 : Sl Cv.cells 5 V s1 [bo c]) (h2 : Sl Cv.cells 5 V s2 [a]) (h3 : Sl Cv.cells 5 V s3 [b]) :
    Calls Tryz.prog 18 #[.string ⟨#[73, 70]⟩, .slice (some ⟨V.heap.size, 0, none⟩) 3 3] (V.alloc (.cells #[.bool false, s1, .bool false, s2, .bool false, s3] 37)) fun r V' => r = .returned (if c = true then a else b).v ∧ Q V V' := by
  refine (call_if (some ⟨V.heap.size, 0, none⟩) 3 3 (if c = true then a else b) _ (by omega) (by omega) (fun W f p hf q hv => ?_)).mono fun r W' h => ⟨h.1, ((Q.refl _).alloc _).trans h.2⟩
  refine sing75 [(s1, bo c), (s2, a), (s3, b)] _ _ p W (hw.on (((Q.refl _).alloc _).trans q)) ((args3 h1 h2 h3).on q) (by simp) (fun p hp => ?_) (bsin hf hv) (fun W' s q' hs => ?_)
  · simp only [List.mem_cons, List.not_mem_nil, or_false] at hp
    rcases hp with rfl | rfl | rfl
    · exact nil_sm
    · exact sa
    · exact sb
  · simp only [List.map_cons, List.map_nil, ctd_may ha, ctd_may hb, ctd_may (bo_may c)] at hs
    have hW := hw.on ((((Q.refl _).alloc _).trans q).trans q')
    cases c
    · exact choose3_f a b s W' hW hs
    · exact choose3_t a b s W' hW hs
theorem if2 (c : Bool) (a : Cv) (V : World) (hw : Std2 V) (ha : a.may = true) (sa : a.sm) (s1 s2 : Value) (h1 : Sl Cv.cells 5 V s1 [bo c]) (h2 : Sl Cv.cells 5 V s2 [a]) :
    Calls Tryz.prog 18 #[.string ⟨#[73, 70]⟩, .slice (some ⟨V.heap.size, 0, none⟩) 2 2] (V.alloc (.cells #[.bool false, s1, .bool false, s2] 37)) fun r V' => r = .returned (if c = true then a else bo false).v ∧ Q V V' := by
  refine (call_if (some ⟨V.heap.size, 0, none⟩) 2 2 (if c = true then a else bo false) _ (by omega) (by omega) (fun W f p hf q hv => ?_)).mono fun r W' h => ⟨h.1, ((Q.refl _).alloc _).trans h.2⟩
  refine sing75 [(s1, bo c), (s2, a)] _ _ p W (hw.on (((Q.refl _).alloc _).trans q)) ((args2 h1 h2).on q) (by simp) (fun p hp => ?_) (bsin hf hv) (fun W' s q' hs => ?_)
  · simp only [List.mem_cons, List.not_mem_nil, or_false] at hp
    rcases hp with rfl | rfl
    · exact nil_sm
    · exact sa
  · simp only [List.map_cons, List.map_nil, ctd_may ha, ctd_may (bo_may c)] at hs
    have hW := hw.on ((((Q.refl _).alloc _).trans q).trans q')
    cases c
    · exact choose2_f a a s W' hW hs
    · exact choose2_t a a s W' hW hs
end Go.Proofs.YtfmlhdpcdjkelaaGreatDoor
namespace Go.Proofs.YtfmlhdpcdjkelaaGreatDoor
open Go.RowKit
set_option linter.unusedVariables false
set_option linter.unusedSimpArgs false

set_option maxHeartbeats 1000000 in
theorem rworst_sl (l : List Cv) (v : Value) (w : World) (h : Sl Cv.cells 5 w v l) (hm : l.length ≤ 1000) (hs : ∀ x ∈ l, x.sm) :
    Calls Tryz.prog 17 #[v] w fun e w' => e = .returned (.int .i64 (worst l)) ∧ Q w w' := by
  obtain ⟨ao, cap, rfl, h1, h2, h3⟩ := h
  rcases Nat.eq_zero_or_pos l.length with h0 | h0
  · have hl := List.eq_nil_of_length_eq_zero h0
    subst hl
    clear h3
    simp only [List.length_nil]
    go_enter Tryz.func17, Tryz.ntmps17
    go_wp2
    refine wp_loop_rounds 1 ?_
    rw [rounds_succ]
    go_wp2
    go_ret
    exact ⟨rfl, Q.refl _⟩
  · obtain ⟨b, off, rfl, hc⟩ := h3 h0
    refine rworst_row b off l.length cap l w rfl (by omega) (fun i hi => ?_) (fun i hi => ?_)
    · rw [getD_at _ hi]; exact hs _ (List.getElem_mem hi)
    · rw [getD_at _ hi]; exact at5_of (hc i hi)

theorem cut_snoc (l : List Cv) (k : Nat) (hk : k < l.length) : (l.take (k + 1)).map Cv.cut = (l.take k).map Cv.cut ++ [l[k].cut] := by
  rw [List.take_succ_eq_append_getElem hk, List.map_append]
  rfl
set_option maxRecDepth 100000 in
set_option maxHeartbeats 4000000 in
theorem cutAll_any (m n : Nat) (l : List Cv) (v : Value) (w : World) (h : Sl Cv.cells 5 w v l) (hm : m ≤ 30) (hn : (l.length ≤ m ∧ n = l.length) ∨ (m < l.length ∧ n = m)) :
    Calls Tryz.prog 16 #[v, .int .i64 m] w fun e w' => ∃ s, e = .returned s ∧ Own Cv.cells 24 5 w.heap.size w' s ((l.take n).map Cv.cut) ∧ Q w w' := by
  obtain ⟨ao, cap, rfl, h1, h2, h3⟩ := h
  obtain ⟨len, hlen⟩ : ∃ len, l.length = len := ⟨_, rfl⟩
  have HL := hid hlen
  have HC : Hid (0 < len → ∃ b off, ao = some ⟨b, off, none⟩ ∧ ∀ i (hp : i < l.length), At5 w b (off + i * 5) l[i]) := by
    intro h0
    obtain ⟨b, off, ha, hc⟩ := h3 (by omega)
    exact ⟨b, off, ha, fun i hp => at5_of (hc i hp)⟩
  have hbig : (len : Int) ≤ 9223372036854775807 := by unfold maxLen at h2; omega
  obtain ⟨i0, hi, hz0, hz1, hz2⟩ := inf_of info24
  rw [hlen] at h1 hn ⊢
  clear h3 hlen
  have hn30 : n ≤ 30 := by omega
  have hnl : n ≤ len := by omega
  go_enter Tryz.func16, Tryz.ntmps16
  go_wp2
  go_loopw [5, 6] (fun s i W => ∃ k : Nat, k ≤ n ∧ i = .int .i64 k ∧ Own Cv.cells 24 5 w.heap.size W s ((l.take k).map Cv.cut) ∧ Q w W) (fun _ i _ => n - (intOf i).toNat)
  case atStart => exact ⟨0, Nat.zero_le _, rfl, own_nil _, Q.refl _⟩
  case round =>
    obtain ⟨k, hk, rfl, hown, hq⟩ := hrel
    by_cases hlt : k < n
    · have hkl : (k : Int) < (len : Int) := by omega
      have hkm : (k : Int) < (m : Int) := by omega
      have hkp : k < l.length := by have := HL.out; omega
      obtain ⟨b, off, rfl, hc⟩ := HC.out (by omega)
      have a5 := (hc k hkp).on hq
      have hF := hid (cut_snoc l k hkp)
      have hLL : ((l.take k).map Cv.cut).length = k := by simp; omega
      clear hc
      generalize l[k] = x at *
      have HU := hid (fun W => cutv_any x W)
      obtain ⟨y, hy⟩ : ∃ y, x.cut = y := ⟨_, rfl⟩
      rw [hy] at HU
      have hF' : Hid ((l.take (k + 1)).map Cv.cut = (l.take k).map Cv.cut ++ [y]) := by show _ = _; rw [hF.out, hy]
      clear hy hF
      obtain ⟨xk, xn, xt, xb, xe⟩ := x
      obtain ⟨yk, yn, yt, yb, ye⟩ := y
      obtain ⟨c0, c1, c2, c3, c4⟩ := a5
      simp only [Cv.v, vv] at HU c0 c1 c2 c3 c4
      generalize (l.take k).map Cv.cut = L at hown hF' hLL
      have HOW := hid hown
      have HQ := hid hq
      have HLL := hid hLL
      clear hown hq hn hLL
      go_wp2_with (first
        | (go_at_call 10; refine (HU.out _).mono ?_; rintro r w2 ⟨rfl, q2⟩; have Q2 := hid q2; clear q2)
        | (at_builtin; refine wpList_append_own _ rfl _ _ 31 rfl w.heap.size 24 i0 (.agg #[.int .i64 0, .int .i64 0, .string ⟨#[]⟩, .bool false, .int .i64 0]) 5 48 Tryz.underlying31 hi hz0 hz1 hz2 rfl (by decide) _ _ _ rfl (World.ownsRow.alloc (Own.on HOW.out Q2.out) _) ⟨w2.heap.size, 0, none⟩ 1 1 [.int .i64 yk, .int .i64 yn, .string yt, .bool yb, .int .i64 ye] rfl rfl ?c1 ?c2 ?c3 ?c4 ?c5 ?_))
      case c1 => exact news_new w2 [.int .i64 yk, .int .i64 yn, .string yt, .bool yb, .int .i64 ye] 24
      case c2 =>
        intro u hu
        simp at hu
        rcases hu with rfl | rfl | rfl | rfl | rfl <;> rfl
      case c3 => have := HLL.out; unfold maxLen; omega
      case c4 => have := HLL.out; omega
      case c5 => have := (HQ.out.trans Q2.out).size; simp; omega
      · intro v' w3 hown' hgrow _
        have HO2 : Hid (Own Cv.cells 24 5 w.heap.size w3 v' ((l.take (k + 1)).map Cv.cut)) := by
          show Own _ _ _ _ _ _ _
          rw [hF'.out]
          exact own_snoc' (x := (⟨yk, yn, yt, yb, ye⟩ : Cv)) hown' rfl
        have HQ2 : Hid (Q w w3) := Below.grown ((HQ.out.trans Q2.out).alloc _) hgrow (by have := (HQ.out.trans Q2.out).size; simp; omega) (Own.blk HOW.out)
        clear hown' hgrow
        go_wp2
        go_roundw
        case rel => exact ⟨k + 1, by omega, by go_num, HO2.out, HQ2.out⟩
        case measure => simp [intOf]; omega
    · have hkn : k = n := by omega
      subst hkn
      have HOW := hid hown
      have HQ := hid hq
      clear hown hq
      rcases hn with ⟨g1, g2⟩ | ⟨g1, g2⟩
      · have hkl : ¬ (k : Int) < (len : Int) := by omega
        clear g1 g2 hn30 hnl hlt
        go_wp2
        go_ret
        exact ⟨_, rfl, (by rw [← List.map_take]; exact HOW.out), HQ.out⟩
      · have hkl : (k : Int) < (len : Int) := by omega
        have hk3 : ¬ (k : Int) < (m : Int) := by omega
        clear g1 g2 hn30 hnl hlt
        go_wp2
        go_ret
        exact ⟨_, rfl, (by rw [← List.map_take]; exact HOW.out), HQ.out⟩

/-- a slice that reads one value of a block of its own -/
def Ob (W : World) (s : Value) (x : Cv) : Prop := ∃ g, s = .slice (some ⟨g, 0, none⟩) 1 1 ∧ W.heap[g]? = some (.cells #[.int .i64 x.k, .int .i64 x.n, .string x.t, .bool x.b, .int .i64 x.e] 24 (0, 0))
theorem lt_of_heap {W : World} {g : Nat} {o : Obj} (h : W.heap[g]? = some o) : g < W.heap.size := by
  rcases Nat.lt_or_ge g W.heap.size with h' | h'
  · exact h'
  · rw [Array.getElem?_eq_none h'] at h; cases h
theorem Ob.on {W W' : World} {s : Value} {x : Cv} (h : Ob W s x) (q : Q W W') : Ob W' s x := by
  obtain ⟨g, e, hg⟩ := h
  exact ⟨g, e, (Q.block q (lt_of_heap hg)).trans hg⟩
theorem Ob.sl {W : World} {s : Value} {x : Cv} (h : Ob W s x) : Sl Cv.cells 5 W s [x] := by
  obtain ⟨g, rfl, hg⟩ := h
  refine ⟨_, 1, rfl, Nat.le_refl _, by unfold maxLen; omega, fun _ => ⟨g, 0, rfl, fun i hi j u hu => ?_⟩⟩
  simp at hi
  subst hi
  rw [Lib.cell_of_heap hg]
  simpa [Cv.cells] using hu
theorem Ob.grown {W W' : World} {B : Nat} {v s : Value} {x : Cv} {A : List Ag} (h : Ob W s x) (ho : Own Ag.cells 37 2 B W v A) (g : W.grownBy W' v.ownBlock) : Ob W' s x := by
  obtain ⟨b, e, hb⟩ := h
  refine ⟨b, e, (g.block b (lt_of_heap hb) fun hne => ?_).trans hb⟩
  obtain ⟨_, ho⟩ := ho
  rcases ho with ⟨hv, _⟩ | ⟨g', cap, cur, hv, _, hg, _⟩
  · rw [hv] at hne; cases hne
  · rw [hv] at hne
    simp only [Value.ownBlock, Option.some.injEq] at hne
    subst hne
    rw [hg] at hb
    cases hb
theorem hp_new (w : World) (o : Obj) (g : Nat) (hg : g = w.heap.size) : (w.alloc o).heap[g]? = some o := by
  subst hg
  show (w.heap.push o)[w.heap.size]? = some o
  simp
theorem arg1_ob (x : Cv) (w : World) : Calls Tryz.prog 20 #[x.v] w fun e w' => ∃ s, e = .returned (.agg #[.bool false, s]) ∧ Ob w' s x ∧ Q w w' := by
  obtain ⟨k, n, t, b, e⟩ := x
  unfold Cv.v vv
  go_enter Tryz.func20, Tryz.ntmps20
  go_wp2
  refine bodyPost_ret (v := .agg #[.bool false, .slice (some ⟨w.heap.size + 1 + 1, 0, none⟩) 1 1]) (by simp [results, Tryz.results20, go_sem]) rfl ⟨_, rfl, ⟨_, rfl, ?_⟩, (((Q.refl _).alloc _).alloc _).alloc _⟩
  exact hp_new _ _ _ (by simp only [World.size_alloc])
end Go.Proofs.YtfmlhdpcdjkelaaGreatDoor
namespace Go.Proofs.YtfmlhdpcdjkelaaGreatDoor
open Go.RowKit
set_option linter.unusedVariables false
set_option linter.unusedSimpArgs false

theorem bstr {W : World} {p F : Nat} {f : Value} (hf : f = .func (.func 112) #[] #[.pointer (some ⟨p, 0, none⟩)]) (h : StrV W f F) : ∃ q, W.cell? ⟨p, 0, none⟩ = some (.func (.func 115) #[] #[.pointer (some ⟨q, 0, none⟩)]) ∧ W.cell? ⟨q, 0, none⟩ = some (.func (.func F) #[] #[]) := by
  obtain ⟨p', q, e, c, d⟩ := h
  rw [hf] at e
  simp at e
  subst e
  exact ⟨q, c, d⟩
theorem map_may {P : List (Value × Cv)} (h : ∀ p ∈ P, p.2.may = true) : (P.map fun p => ctd p.2) = P.map (·.2) := List.map_congr_left fun p hp => ctd_may (h p hp)
theorem scall_and (P : List (Value × Cv)) (ao : Option Addr) (n cap : Nat) (w : World) (hw : Std2 w) (h : Args w (.slice ao n cap) (sg P)) (hn : P.length = n) (hm : n ≤ 1000) (h0 : 1 ≤ (n : Int)) (h1 : (n : Int) ≤ 9223372036854775807) (hs : ∀ p ∈ P, p.2.sm) (hy : ∀ p ∈ P, p.2.may = true) (hne : worst (P.map (·.2)) ≠ 0) :
    Calls Tryz.prog 18 #[.string ⟨#[65, 78, 68]⟩, .slice ao n cap] w fun r w' => r = .returned (er (worst (P.map (·.2)))).v ∧ Q w w' :=
  call_and ao n cap _ w h0 h1 fun W f p hf q hv => by
    obtain ⟨q', c1, c2⟩ := bstr hf hv
    refine sing115 P _ _ p q' W (hw.on q) (h.on q) (by omega) hs c1 (fun W' s g hs' => ?_)
    rw [map_may hy] at hs'
    exact strict_err q' _ _ s W' (hw.on (q.trans g)) (fcell c2 g) hs' (by simp; omega) (fun x hx => by obtain ⟨p, hp, rfl⟩ := List.mem_map.1 hx; exact hs p hp) hne
theorem scall_or (P : List (Value × Cv)) (ao : Option Addr) (n cap : Nat) (w : World) (hw : Std2 w) (h : Args w (.slice ao n cap) (sg P)) (hn : P.length = n) (hm : n ≤ 1000) (h0 : 1 ≤ (n : Int)) (h1 : (n : Int) ≤ 9223372036854775807) (hs : ∀ p ∈ P, p.2.sm) (hy : ∀ p ∈ P, p.2.may = true) (hne : worst (P.map (·.2)) ≠ 0) :
    Calls Tryz.prog 18 #[.string ⟨#[79, 82]⟩, .slice ao n cap] w fun r w' => r = .returned (er (worst (P.map (·.2)))).v ∧ Q w w' :=
  call_or ao n cap _ w h0 h1 fun W f p hf q hv => by
    obtain ⟨q', c1, c2⟩ := bstr hf hv
    refine sing115 P _ _ p q' W (hw.on q) (h.on q) (by omega) hs c1 (fun W' s g hs' => ?_)
    rw [map_may hy] at hs'
    exact strict_err q' _ _ s W' (hw.on (q.trans g)) (fcell c2 g) hs' (by simp; omega) (fun x hx => by obtain ⟨p, hp, rfl⟩ := List.mem_map.1 hx; exact hs p hp) hne
theorem scall_not (P : List (Value × Cv)) (ao : Option Addr) (n cap : Nat) (w : World) (hw : Std2 w) (h : Args w (.slice ao n cap) (sg P)) (hn : P.length = n) (hm : n ≤ 1000) (h0 : 1 ≤ (n : Int)) (h1 : (n : Int) ≤ 1) (hs : ∀ p ∈ P, p.2.sm) (hy : ∀ p ∈ P, p.2.may = true) (hne : worst (P.map (·.2)) ≠ 0) :
    Calls Tryz.prog 18 #[.string ⟨#[78, 79, 84]⟩, .slice ao n cap] w fun r w' => r = .returned (er (worst (P.map (·.2)))).v ∧ Q w w' :=
  call_not ao n cap _ w h0 h1 fun W f p hf q hv => by
    obtain ⟨q', c1, c2⟩ := bstr hf hv
    refine sing115 P _ _ p q' W (hw.on q) (h.on q) (by omega) hs c1 (fun W' s g hs' => ?_)
    rw [map_may hy] at hs'
    exact strict_err q' _ _ s W' (hw.on (q.trans g)) (fcell c2 g) hs' (by simp; omega) (fun x hx => by obtain ⟨p, hp, rfl⟩ := List.mem_map.1 hx; exact hs p hp) hne
theorem scall_abs (P : List (Value × Cv)) (ao : Option Addr) (n cap : Nat) (w : World) (hw : Std2 w) (h : Args w (.slice ao n cap) (sg P)) (hn : P.length = n) (hm : n ≤ 1000) (h0 : 1 ≤ (n : Int)) (h1 : (n : Int) ≤ 1) (hs : ∀ p ∈ P, p.2.sm) (hy : ∀ p ∈ P, p.2.may = true) (hne : worst (P.map (·.2)) ≠ 0) :
    Calls Tryz.prog 18 #[.string ⟨#[65, 66, 83]⟩, .slice ao n cap] w fun r w' => r = .returned (er (worst (P.map (·.2)))).v ∧ Q w w' :=
  call_abs ao n cap _ w h0 h1 fun W f p hf q hv => by
    obtain ⟨q', c1, c2⟩ := bstr hf hv
    refine sing115 P _ _ p q' W (hw.on q) (h.on q) (by omega) hs c1 (fun W' s g hs' => ?_)
    rw [map_may hy] at hs'
    exact strict_err q' _ _ s W' (hw.on (q.trans g)) (fcell c2 g) hs' (by simp; omega) (fun x hx => by obtain ⟨p, hp, rfl⟩ := List.mem_map.1 hx; exact hs p hp) hne
theorem scall_len (P : List (Value × Cv)) (ao : Option Addr) (n cap : Nat) (w : World) (hw : Std2 w) (h : Args w (.slice ao n cap) (sg P)) (hn : P.length = n) (hm : n ≤ 1000) (h0 : 1 ≤ (n : Int)) (h1 : (n : Int) ≤ 1) (hs : ∀ p ∈ P, p.2.sm) (hy : ∀ p ∈ P, p.2.may = true) (hne : worst (P.map (·.2)) ≠ 0) :
    Calls Tryz.prog 18 #[.string ⟨#[76, 69, 78]⟩, .slice ao n cap] w fun r w' => r = .returned (er (worst (P.map (·.2)))).v ∧ Q w w' :=
  call_len ao n cap _ w h0 h1 fun W f p hf q hv => by
    obtain ⟨q', c1, c2⟩ := bstr hf hv
    refine sing115 P _ _ p q' W (hw.on q) (h.on q) (by omega) hs c1 (fun W' s g hs' => ?_)
    rw [map_may hy] at hs'
    exact strict_err q' _ _ s W' (hw.on (q.trans g)) (fcell c2 g) hs' (by simp; omega) (fun x hx => by obtain ⟨p, hp, rfl⟩ := List.mem_map.1 hx; exact hs p hp) hne
theorem scall_concat (P : List (Value × Cv)) (ao : Option Addr) (n cap : Nat) (w : World) (hw : Std2 w) (h : Args w (.slice ao n cap) (sg P)) (hn : P.length = n) (hm : n ≤ 1000) (h0 : 0 ≤ (n : Int)) (h1 : (n : Int) ≤ 9223372036854775807) (hs : ∀ p ∈ P, p.2.sm) (hy : ∀ p ∈ P, p.2.may = true) (hne : worst (P.map (·.2)) ≠ 0) :
    Calls Tryz.prog 18 #[.string ⟨#[67, 79, 78, 67, 65, 84]⟩, .slice ao n cap] w fun r w' => r = .returned (er (worst (P.map (·.2)))).v ∧ Q w w' :=
  call_concat ao n cap _ w h0 h1 fun W f p hf q hv => by
    obtain ⟨q', c1, c2⟩ := bstr hf hv
    refine sing115 P _ _ p q' W (hw.on q) (h.on q) (by omega) hs c1 (fun W' s g hs' => ?_)
    rw [map_may hy] at hs'
    exact strict_err q' _ _ s W' (hw.on (q.trans g)) (fcell c2 g) hs' (by simp; omega) (fun x hx => by obtain ⟨p, hp, rfl⟩ := List.mem_map.1 hx; exact hs p hp) hne
theorem iscall (e : Int) (h1 : 1 ≤ e) (h7 : e ≤ 7) (s : Value) (V : World) (hw : Std2 V) (h : Sl Cv.cells 5 V s [er e]) :
    Calls Tryz.prog 18 #[.string ⟨#[73, 83, 69, 82, 82, 79, 82]⟩, .slice (some ⟨V.heap.size, 0, none⟩) 1 1] (V.alloc (.cells #[.bool false, s] 37)) fun r V' => r = .returned (bo true).v ∧ Q V V' := by
  have hA : Args (V.alloc (.cells #[.bool false, s] 37)) (.slice (some ⟨V.heap.size, 0, none⟩) 1 1) (sg [(s, er e)]) := by
    refine ⟨sl_lit Ag.len V (sg [(s, er e)]) 1 rfl (by omega) 37, fun a ha => ?_⟩
    simp only [sg, List.map_cons, List.map_nil, List.mem_cons, List.not_mem_nil, or_false] at ha
    subst ha
    exact h.on ((Q.refl _).alloc _)
  refine (call_iserror (some ⟨V.heap.size, 0, none⟩) 1 1 (bo true) _ (by omega) (by omega) (fun W f p hf q hv => ?_)).mono fun r W' h => ⟨h.1, ((Q.refl _).alloc _).trans h.2⟩
  refine sing82 [(s, er e)] _ _ p W (hw.on (((Q.refl _).alloc _).trans q)) (hA.on q) (by simp) (fun p hp => ?_) (bsin hf hv) (fun W' s g hs => ?_)
  · simp only [List.mem_cons, List.not_mem_nil, or_false] at hp
    subst hp
    exact nil_sm
  · simp only [List.map_cons, List.map_nil, ctd_may (er_may e h1 h7)] at hs
    exact iserr_any (er e) s W' hs
theorem Sl.take1 {W : World} {ao : Option Addr} {n cap : Nat} {X : List Cv} (h : Sl Cv.cells 5 W (.slice ao n cap) X) (hl : 1 < X.length) : Sl Cv.cells 5 W (.slice ao 1 cap) (X.take 1) := by
  obtain ⟨ao', cap', hv, h1, h2, h3⟩ := h
  simp only [Value.slice.injEq] at hv
  obtain ⟨rfl, rfl, rfl⟩ := hv
  obtain ⟨b, off, rfl, hc⟩ := h3 (by omega)
  refine ⟨_, cap, by rw [List.length_take, Nat.min_eq_left (by omega)], by simp; omega, h2, fun _ => ⟨b, off, rfl, fun i hi => ?_⟩⟩
  have hi' : i < 1 := by simp at hi; omega
  have := hc i (by omega)
  simpa using this
/-- arguments of one value each, in blocks of their own -/
structure Ao (B : Nat) (W : World) (s : Value) (P : List (Value × Cv)) : Prop where
  own : Own Ag.cells 37 2 B W s (sg P)
  ob : ∀ p ∈ P, Ob W p.1 p.2
theorem Ao.on {B : Nat} {W W' : World} {s : Value} {P : List (Value × Cv)} (h : Ao B W s P) (q : Q W W') : Ao B W' s P := ⟨h.own.on q, fun p hp => (h.ob p hp).on q⟩
theorem Ao.args {B : Nat} {W : World} {s : Value} {P : List (Value × Cv)} (h : Ao B W s P) : Args W s (sg P) := ⟨h.own.sl Ag.len (by omega), fun a ha => by
  simp only [sg, List.mem_map] at ha
  obtain ⟨p, hp, rfl⟩ := ha
  exact (h.ob p hp).sl⟩
theorem sg_app (P : List (Value × Cv)) (p : Value × Cv) : sg (P ++ [p]) = sg P ++ [⟨false, p.1, [p.2]⟩] := by simp [sg]
theorem sg_length (P : List (Value × Cv)) : (sg P).length = P.length := by simp [sg]
theorem Ao.snoc {B : Nat} {W W' : World} {s s' : Value} {P : List (Value × Cv)} {u : Value} {x : Cv} (h : Ao B W s P) (hu : Ob W u x) (ho : W'.ownsRow B 37 2 s' ((sg P).length + 1) (flat Ag.cells (sg P) ++ [.bool false, u])) (g : W.grownBy W' s.ownBlock) : Ao B W' s' (P ++ [(u, x)]) := by
  constructor
  · rw [sg_app]
    exact own_snoc (x := (⟨false, u, [x]⟩ : Ag)) ho
  · intro p hp
    rcases List.mem_append.1 hp with hp | hp
    · exact (h.ob p hp).grown h.own g
    · simp at hp
      subst hp
      exact hu.grown h.own g
theorem info37 : (Tryz.prog.info? 37).map (fun i => (i.zero, i.size, i.bytes)) = some (some (.agg #[.bool false, .slice none 0 0]), 2, 32) := by kernel_rfl
end Go.Proofs.YtfmlhdpcdjkelaaGreatDoor
