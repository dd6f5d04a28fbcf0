/- Package builtin: the worst err. -/
import Derived.Test.YtfjpdopmojfchaaGreatDoorKc16
import Derived.Lib.AppendStr
set_option linter.unusedVariables false
set_option linter.unusedSimpArgs false
set_option maxRecDepth 100000
set_option maxHeartbeats 8000000
namespace Go.Proofs.YtfjpdopmojfchaaGreatDoor
open Go.RowKit
def mn (a b : Int) : Int := if b = 0 then a else if a = 0 ∨ b < a then b else a
theorem mn_assoc {a b c : Int} (ha : 0 ≤ a) (hb : 0 ≤ b) (hc : 0 ≤ c) : mn (mn a b) c = mn a (mn b c) := by
  unfold mn
  repeat' split
  all_goals omega
theorem may_err {k n : Int} {t : ByteArray} {b : Bool} {e : Int} (hk : k = 4) (h : mayB k n t.toList b e = true) : 1 ≤ e ∧ e ≤ 7 := by
  subst hk
  simp [mayB] at h
  exact h.2.2.2
def ev (x : Cv) : Int := if x.k = 4 ∧ x.may = true then x.e else 0
theorem ev_lo (x : Cv) : 0 ≤ ev x ∧ ev x ≤ 7 := by
  unfold ev
  split
  · rename_i h
    have := may_err h.1 h.2
    omega
  · omega
theorem wstep_mn (a : Int) (x : Cv) (ha : 0 ≤ a) : wstep a x = mn a (ev x) := by
  unfold wstep ev mn
  by_cases h : x.k = 4 ∧ x.may = true
  · have := may_err h.1 h.2
    rw [if_pos h]
    by_cases h2 : a = 0 ∨ x.e < a
    · rw [if_pos ⟨h.1, h.2, h2⟩, if_neg (by omega), if_pos h2]
    · rw [if_neg (fun g => h2 g.2.2), if_neg (by omega), if_neg h2]
  · rw [if_neg h, if_pos rfl, if_neg (fun g => h ⟨g.1, g.2.1⟩)]
theorem mn_lo {a b : Int} (ha : 0 ≤ a) (hb : 0 ≤ b) : 0 ≤ mn a b := by
  unfold mn
  repeat' split
  all_goals omega
theorem mn_hi {a b : Int} (ha : a ≤ 7) (hb : b ≤ 7) : mn a b ≤ 7 := by
  unfold mn
  repeat' split
  all_goals omega
theorem mn_zero (a : Int) : mn a 0 = a := by simp [mn]
theorem zero_mn (a : Int) : mn 0 a = a := by unfold mn; split <;> simp_all
theorem fold_lo (l : List Cv) : ∀ a : Int, 0 ≤ a → a ≤ 7 → 0 ≤ l.foldl wstep a ∧ l.foldl wstep a ≤ 7 := by
  induction l with
  | nil => intro a h0 h1; exact ⟨h0, h1⟩
  | cons x l ih =>
    intro a h0 h1
    have e := ev_lo x
    rw [List.foldl_cons, wstep_mn a x h0]
    exact ih _ (mn_lo h0 e.1) (mn_hi h1 e.2)
theorem worst_lo (l : List Cv) : 0 ≤ worst l ∧ worst l ≤ 7 := fold_lo l 0 (by omega) (by omega)
theorem fold_mn (l : List Cv) : ∀ a : Int, 0 ≤ a → l.foldl wstep a = mn a (worst l) := by
  induction l with
  | nil => intro a h; exact (mn_zero a).symm
  | cons x l ih =>
    intro a h0
    have e := ev_lo x
    have hw : worst (x :: l) = mn (ev x) (worst l) := by
      show (x :: l).foldl wstep 0 = _
      rw [List.foldl_cons, wstep_mn 0 x (by omega), zero_mn, ih _ e.1]
    rw [List.foldl_cons, wstep_mn a x h0, ih _ (mn_lo h0 e.1), hw]
    exact mn_assoc h0 e.1 (worst_lo l).1
theorem worst_append (l m : List Cv) : worst (l ++ m) = mn (worst l) (worst m) := by
  show (l ++ m).foldl wstep 0 = _
  rw [List.foldl_append]
  exact fold_mn m _ (worst_lo l).1
theorem worst_er (e : Int) (h0 : 0 < e) (h7 : e ≤ 7) : worst [er e] = e := by
  show wstep 0 (er e) = e
  rw [wstep_mn 0 _ (by omega), zero_mn]
  unfold ev
  rw [if_pos ⟨rfl, (Vk.err e (by omega) h7).may⟩]
  rfl
set_option maxHeartbeats 4000000 in
theorem aworst_any (A : List Ag) (v : Value) (w : World) (hw : Std2 w) (h : Args w v A) (hm : A.length ≤ 1000) (hs : ∀ a ∈ A, a.l.length ≤ 1000 ∧ ∀ x ∈ a.l, x.sm) :
    Calls Tryz.prog 104 #[v] w fun e w' => e = .returned (.int .i64 (worst (A.flatMap (·.l)))) ∧ Q w w' := by
  obtain ⟨⟨ao, cap, rfl, h1, h2, h3⟩, hvs⟩ := h
  obtain ⟨n, hn⟩ : ∃ n, A.length = n := ⟨_, rfl⟩
  have HP := hid hn
  obtain ⟨i0, hi, hz0, hz1, hz2⟩ := inf_of info24
  have HC : Hid (0 < n → ∃ b off, ao = some ⟨b, off, none⟩ ∧ ∀ i (hp : i < A.length), At2 w b (off + i * 2) A[i] ∧ Sl Cv.cells 5 w A[i].s A[i].l ∧ A[i].l.length ≤ 1000 ∧ ∀ x ∈ A[i].l, x.sm) := by
    intro h0
    obtain ⟨b, off, ha, hc⟩ := h3 (by omega)
    exact ⟨b, off, ha, fun i hp => ⟨at2_of (hc i hp), hvs _ (List.getElem_mem hp), hs _ (List.getElem_mem hp)⟩⟩
  have HW := hid hw
  have hbz : i0.bytes = 48 := hz2
  obtain ⟨T, hT⟩ : ∃ T, worst (A.flatMap (·.l)) = T := ⟨_, rfl⟩
  have HT := hid hT
  rw [hn] at h1 hm ⊢
  rw [hT]
  clear hw hs h3 hvs hn hT
  go_enter Tryz.func104, Tryz.ntmps104
  go_wp2_with (at_make; refine wpList_make_own _ rfl _ _ 27 rfl w.heap.size 37 i0 (.agg #[.int .i64 0, .int .i64 0, .string ⟨#[]⟩, .bool false, .int .i64 0]) 5 Tryz.underlying27 hi hz0 hz1 .i64 .i64 _ n rfl rfl (by omega) (by rw [hbz]; omega) (by unfold maxLen; omega) (Nat.le_refl _) ?_; intro w0 hown0 hgrow0)
  have HQ0 : Hid (Q w w0) := Below.grown (Q.refl w) hgrow0 (Nat.le_refl _) (fun k hk => by cases hk)
  have HO0 : Hid (Own Cv.cells 37 5 w.heap.size w0 (.slice (some ⟨w.heap.size, 0, none⟩) 0 n) []) := hown0
  clear hown0 hgrow0
  go_wp2
  go_loopw [3, 12] (fun s i W => ∃ (k : Nat) (L : List Cv), k ≤ n ∧ i = .int .i64 k ∧ Own Cv.cells 37 5 w.heap.size W s L ∧ L.length ≤ k ∧ (∀ x ∈ L, x.sm) ∧ worst L = worst ((A.take k).flatMap (·.l)) ∧ Q w W) (fun _ i _ => n - (intOf i).toNat)
  case atStart => exact ⟨0, [], Nat.zero_le _, rfl, HO0.out, Nat.zero_le _, by simp, by simp, HQ0.out⟩
  case round =>
    obtain ⟨k, L, hk, rfl, hown, hLk, hLs, hLw, hq⟩ := hrel
    by_cases hlt : k < n
    · obtain ⟨b, off, rfl, hc⟩ := HC.out (by omega)
      have hkp : k < A.length := by have := HP.out; omega
      obtain ⟨⟨c0, c1⟩, hsl, hl1, hl2⟩ := hc k hkp
      have hF : Hid (worst ((A.take (k + 1)).flatMap (·.l)) = mn (worst L) (worst A[k].l)) := by
        show _ = _
        rw [hLw, List.take_succ_eq_append_getElem hkp, List.flatMap_append, worst_append]
        simp
      have c0' := (hq.cell (World.block_lt_of_cell? w _ c0)).trans c0
      have c1' := (hq.cell (World.block_lt_of_cell? w _ c1)).trans c1
      have HU := hid (fun W (q : Q w W) => worst_sl A[k].l A[k].s W (HW.out.on q) (hsl.on q) hl1 hl2)
      have he := worst_lo A[k].l
      obtain ⟨ao', cap', hsv, _, _⟩ := hsl.len
      rw [hsv] at c1' HU
      clear hsl hsv
      generalize A[k].l.length = ln at c1' HU
      generalize worst A[k].l = e at HU hF he
      generalize A[k].r = rr at c0'
      have hkl : (k : Int) < (n : Int) := by omega
      have HOW := hid hown
      have HQ := hid hq
      have HX := hid (And.intro hLk hLs)
      clear c0 c1 hc hown hq hl1 hl2 hLk hLs hLw
      by_cases hz : e = 0
      · subst hz
        have hF' : Hid (worst L = worst ((A.take (k + 1)).flatMap (·.l))) := by show _ = _; rw [hF.out, mn_zero]
        clear hF
        go_wp2_with (go_at_call 38; refine (HU.out _ (HQ.out.alloc _)).mono ?_; rintro r w2 ⟨rfl, q2⟩; have Q2 := hid (((Q.refl wr).alloc _).trans q2); clear q2)
        go_roundw
        case rel => exact ⟨k + 1, L, by omega, by go_num, HOW.out.on Q2.out, by have := HX.out.1; omega, HX.out.2, hF'.out, HQ.out.trans Q2.out⟩
        case measure => simp [intOf]; omega
      · have hz' : (e != 0) = true := bne_iff_ne.2 hz
        have HFa := hid (fun W => failure_any e W)
        simp only [Cv.v, vv, er] at HFa
        have hF' : Hid (worst (L ++ [er e]) = worst ((A.take (k + 1)).flatMap (·.l))) := by show _ = _; rw [hF.out, worst_append, worst_er e (by omega) he.2]
        have hLk := HX.out.1
        clear hF
        go_wp2_with (first
          | (go_at_call 38; refine (HU.out _ (HQ.out.alloc _)).mono ?_; rintro r w2 ⟨rfl, q2⟩; have Q2 := hid (((Q.refl wr).alloc _).trans q2); clear q2)
          | (go_at_call 30; refine (HFa.out _).mono ?_; rintro r w3 ⟨rfl, q3⟩; have Q3 := hid (Q2.out.trans q3); clear q3)
          | (at_builtin; refine wpList_append_own _ rfl _ _ 27 rfl w.heap.size 37 i0 (.agg #[.int .i64 0, .int .i64 0, .string ⟨#[]⟩, .bool false, .int .i64 0]) 5 48 Tryz.underlying27 hi hz0 hz1 hz2 rfl (by decide) _ _ _ rfl (World.ownsRow.alloc (Own.on HOW.out Q3.out) _) ⟨w3.heap.size, 0, none⟩ 1 1 [.int .i64 4, .int .i64 0, .string ⟨#[]⟩, .bool false, .int .i64 e] rfl rfl ?c1 ?c2 ?c3 ?c4 ?c5 ?_))
        case c1 => exact news_new w3 [.int .i64 4, .int .i64 0, .string ⟨#[]⟩, .bool false, .int .i64 e] 37
        case c2 =>
          intro u hu
          simp at hu
          rcases hu with rfl | rfl | rfl | rfl | rfl <;> rfl
        case c3 => unfold maxLen; omega
        case c4 => omega
        case c5 => have := (HQ.out.trans Q3.out).size; simp; omega
        · intro v' w4 hown' hgrow _
          have HO2 : Hid (Own Cv.cells 37 5 w.heap.size w4 v' (L ++ [er e])) := own_snoc' (x := er e) hown' rfl
          have HQ2 : Hid (Q w w4) := Below.grown ((HQ.out.trans Q3.out).alloc _) hgrow (by have := (HQ.out.trans Q3.out).size; simp; omega) (Own.blk HOW.out)
          clear hown' hgrow
          go_wp2
          go_roundw
          case rel => exact ⟨k + 1, L ++ [er e], by omega, by go_num, HO2.out, by simp; omega, fun x hx => by rcases List.mem_append.1 hx with h | h; exact HX.out.2 x h; simp at h; subst h; show (((⟨#[]⟩ : ByteArray).size : Nat) : Int) ≤ _; decide, hF'.out, HQ2.out⟩
          case measure => simp [intOf]; omega
    · have hkn : k = n := by omega
      subst hkn
      rw [List.take_of_length_le (by have := HP.out; omega)] at hLw
      have HE : Hid (worst L = T) := hLw.trans HT.out
      have HU := hid (fun W (q : Q w W) (s : Sl Cv.cells 5 W u3 L) => worst_sl L u3 W (HW.out.on q) s (by omega) hLs)
      have HOW : Hid (Sl Cv.cells 5 wr u3 L) := hown.sl Cv.len (by omega)
      have HQ := hid hq
      clear hown hLs hLw hq
      have hkl : ¬ (k : Int) < (k : Int) := by omega
      go_wp2_with (go_at_call 38; refine (HU.out _ HQ.out HOW.out).mono ?_; rintro r w2 ⟨rfl, q2⟩; have Q2 := hid (HQ.out.trans q2); clear q2)
      go_ret
      exact ⟨ret_int HE.out, Q2.out⟩
end Go.Proofs.YtfjpdopmojfchaaGreatDoor
namespace Go.Proofs.YtfjpdopmojfchaaGreatDoor
open Go.RowKit
set_option linter.unusedVariables false
set_option linter.unusedSimpArgs false
section
variable {α : Type} {enc : α → List Value} {k : Nat} {e : TypeId} {B : Nat}
theorem own_ne {β : Type} {enc' : β → List Value} {e' : TypeId} {k' B' : Nat} {W : World} {v v' : Value} {L : List α} {L' : List β} (h : Own enc e k B W v L) (h' : Own enc' e' k' B' W v' L') (hne : e ≠ e') : v.ownBlock = none ∨ v.ownBlock ≠ v'.ownBlock := by
  obtain ⟨_, h⟩ := h
  obtain ⟨_, h'⟩ := h'
  rcases h with ⟨hv, _⟩ | ⟨g, cap, cur, hv, hb, hg, _⟩
  · rw [hv]; exact .inl rfl
  · rcases h' with ⟨hv', _⟩ | ⟨g', cap', cur', hv', hb', hg', _⟩
    · rw [hv, hv']; exact .inr (fun h => by cases h)
    · rw [hv, hv']
      refine .inr (fun h => ?_)
      simp only [Value.ownBlock, Option.some.injEq] at h
      subst h
      rw [hg] at hg'
      simp only [Option.some.injEq, Obj.cells.injEq] at hg'
      exact hne hg'.2.1
end
def encB (b : Bool) : List Value := [.bool b]
def encS (s : ByteArray) : List Value := [.string s]
theorem encB_len (b : Bool) : (encB b).length = 1 := rfl
theorem encS_len (b : ByteArray) : (encS b).length = 1 := rfl
theorem info4 : (Tryz.prog.info? 4).map (fun i => (i.zero, i.size, i.bytes)) = some (some (.bool false), 1, 1) := by kernel_rfl
theorem info9 : (Tryz.prog.info? 9).map (fun i => (i.zero, i.size, i.bytes)) = some (some (.string ⟨#[]⟩), 1, 16) := by kernel_rfl
theorem info35 : (Tryz.prog.info? 35).map (fun i => (i.zero, i.size, i.bytes)) = some (some (.int .i64 0), 1, 8) := by kernel_rfl
theorem info37 : (Tryz.prog.info? 37).map (fun i => (i.zero, i.size, i.bytes)) = some (some (.agg #[.int .i64 0, .int .i64 0, .string ⟨#[]⟩, .bool false, .int .i64 0]), 5, 48) := by kernel_rfl
def fs (te : Cv → Int) (L : List Cv) : List Int := (L.map te).filter (fun e => e != 0)
def oks {T : Type} (te : Cv → Int) (tf : Cv → T) (L : List Cv) : List T := (L.filter (fun x => te x == 0)).map tf
def tw (te : Cv → Int) (L : List Cv) : Int := worst ((fs te L).map er)
theorem fs_step (te : Cv → Int) (L : List Cv) (k : Nat) (hk : k < L.length) : fs te (L.take (k + 1)) = fs te (L.take k) ++ (if te L[k] = 0 then [] else [te L[k]]) := by
  rw [List.take_succ_eq_append_getElem hk]
  unfold fs
  rw [List.map_append, List.filter_append]
  congr 1
  simp only [List.map_cons, List.map_nil, List.filter_cons, List.filter_nil]
  by_cases h : te L[k] = 0
  · simp [h]
  · simp [h]
theorem oks_step {T : Type} (te : Cv → Int) (tf : Cv → T) (L : List Cv) (k : Nat) (hk : k < L.length) : oks te tf (L.take (k + 1)) = oks te tf (L.take k) ++ (if te L[k] = 0 then [tf L[k]] else []) := by
  rw [List.take_succ_eq_append_getElem hk]
  unfold oks
  rw [List.filter_append, List.map_append]
  congr 1
  simp only [List.filter_cons, List.filter_nil]
  by_cases h : te L[k] = 0
  · simp [h]
  · simp [h]
theorem er_sm (e : Int) : (er e).sm := by show (((⟨#[]⟩ : ByteArray).size : Nat) : Int) ≤ _; decide
theorem fs_sm (F : List Int) : ∀ x ∈ F.map er, x.sm := by
  intro x hx
  obtain ⟨e, _, rfl⟩ := List.mem_map.1 hx
  exact er_sm e
end Go.Proofs.YtfjpdopmojfchaaGreatDoor
namespace Go.Proofs.YtfjpdopmojfchaaGreatDoor
open Go.RowKit
theorem size53 : (Tryz.prog.info? 99).map (·.size) = some 2 := by kernel_rfl
theorem lies53 : liesAt Tryz.prog Tryz.prog.depth 99 (2 / Tryz.prog.cellsOf 99) 0 99 1 = true := by kernel_rfl
theorem info5 : (Tryz.prog.info? 5).map (fun i => (i.zero, i.size, i.bytes)) = some (some (.int .u8 0), 1, 1) := by kernel_rfl
set_option maxHeartbeats 1000000 in
theorem check_used (b : Nat) (w : World) (h0 : w.cell? ⟨b, 0, none⟩ = some (.pointer (some ⟨b, 0, none⟩))) :
    Calls Tryz.prog 128 #[.pointer (some ⟨b, 0, none⟩)] w fun e w' => e = .returned (.tuple #[]) ∧ w' = w := by
  obtain ⟨j, hj, _⟩ := Option.map_eq_some_iff.1 size53
  go_enter Tryz.func128, Tryz.ntmps128
  go_wp2
  rw [Lib.run_neq_ptr_same w _ Tryz.underlying96 hj]
  go_wp2
  go_end0
  exact ⟨rfl, rfl⟩
set_option maxHeartbeats 1000000 in
theorem check_new (b : Nat) (w : World) (h0 : w.cell? ⟨b, 0, none⟩ = some (.pointer none)) (hsh : w.shape? b = some (99, 2)) (hfz : w.frozen? ⟨b, 0, none⟩ = false) :
    Calls Tryz.prog 128 #[.pointer (some ⟨b, 0, none⟩)] w fun e w' => e = .returned (.tuple #[]) ∧ w' = w.setCell ⟨b, 0, none⟩ (.pointer (some ⟨b, 0, none⟩)) := by
  obtain ⟨j, hj, hjs⟩ := Option.map_eq_some_iff.1 size53
  go_enter Tryz.func128, Tryz.ntmps128
  go_wp2
  rw [Lib.run_to_unsafe w ⟨b, 0, none⟩ Tryz.underlying96 Tryz.underlying148 hj (by rw [hjs]; decide) hsh (Nat.zero_lt_succ 1)]
  simp only [Result.andThen]
  rw [Oper.upon_value]
  go_wp2
  rw [run_callFunc_extern Tryz.func146 (by kernel_rfl) (by kernel_rfl) (by kernel_rfl) (e := Extern.AbiNoEscape.same) (by kernel_rfl)]
  rw [Lib.run_noEscape]
  simp only [Result.andThen]
  rw [Oper.upon_value]
  go_wp2
  rw [Lib.run_from_unsafe w ⟨b, 0, none⟩ Tryz.underlying148 Tryz.underlying96 hj hsh lies53]
  simp only [Result.andThen]
  rw [Oper.upon_value]
  go_wp2
  go_end0
  exact ⟨rfl, rfl⟩
theorem check_any (B b : Nat) (bs : List Value) (w : World) (h : Lib.IsBuilder 99 5 B b bs w) :
    Calls Tryz.prog 128 #[.pointer (some ⟨b, 0, none⟩)] w fun e w' => e = .returned (.tuple #[]) ∧ Lib.BuilderAt 99 5 B b (.pointer (some ⟨b, 0, none⟩)) bs w' ∧ Below B w w' := by
  rcases h with h | h
  · refine (check_new b w h.cell0 h.shape h.frozen0).mono ?_
    rintro e w' ⟨rfl, rfl⟩
    exact ⟨rfl, h.used _, (Below.refl B w).setCell (p := ⟨b, 0, none⟩) h.1 _⟩
  · refine (check_used b w h.cell0).mono ?_
    rintro e w' ⟨rfl, rfl⟩
    exact ⟨rfl, h, Below.refl B _⟩
set_option maxHeartbeats 2000000 in
theorem writeString_any (B b : Nat) (bs : List Value) (s : ByteArray) (w : World) (h : Lib.IsBuilder 99 5 B b bs w) (hlen : bs.length + s.size ≤ 1000000) (hBw : B ≤ w.heap.size) :
    Calls Tryz.prog 91 #[.pointer (some ⟨b, 0, none⟩), .string s] w fun e w' => (∃ v, e = .returned v) ∧ Lib.IsBuilder 99 5 B b (bs ++ Lib.strCells s) w' ∧ Below B w w' := by
  obtain ⟨i0, hi, hz0, hz1, hz2⟩ := inf_of info5
  have HC := hid (check_any B b bs w h)
  clear h
  go_enter Tryz.func91, Tryz.ntmps91
  go_wp2_with (go_at_call 128; refine HC.out.mono ?_)
  rintro e w1 ⟨rfl, h1, hb1⟩
  obtain ⟨hB, v, hbk, hown, hne⟩ := h1
  have c0 : w1.cell? ⟨b, 0, none⟩ = some (.pointer (some ⟨b, 0, none⟩)) := by rw [Lib.cell_of_heap hbk]; rfl
  have c1 : w1.cell? ⟨b, 1, none⟩ = some v := by rw [Lib.cell_of_heap hbk]; rfl
  go_wp2_with (at_builtin; (refine Lib.wpList_append_own_string _ rfl _ _ 97 9 rfl B 5 i0 Tryz.underlying97 Tryz.underlying9 hi hz0 hz1 hz2 _ _ _ rfl hown s rfl (by unfold maxLen; omega) (by omega) (by have := hb1.size; omega) ?_))
  intro v' w2 hown' hgrow _
  have hlt : b < w1.heap.size := by
    rcases Nat.lt_or_ge b w1.heap.size with h' | h'
    · exact h'
    · simp [Array.getElem?_eq_none h'] at hbk
  have hb2 : w2.heap[b]? = some (.cells #[.pointer (some ⟨b, 0, none⟩), v] 99 (0, 0)) := by
    rw [hgrow.block b (by omega) (fun e => hne e.symm)]
    exact hbk
  have d0 : w2.cell? ⟨b, 0, none⟩ = some (.pointer (some ⟨b, 0, none⟩)) := by rw [Lib.cell_of_heap hb2]; rfl
  have d1 : w2.cell? ⟨b, 1, none⟩ = some v := by rw [Lib.cell_of_heap hb2]; rfl
  have f1 : w2.frozen? ⟨b, 1, none⟩ = false := Lib.frozen_of_heap hb2 1
  have HB : Hid (Lib.BuilderAt 99 5 B b (.pointer (some ⟨b, 0, none⟩)) (bs ++ Lib.strCells s) (w2.setCell ⟨b, 1, none⟩ v')) := Lib.BuilderAt.put (T := 99) (e := 5) hB hb2 (bs' := bs ++ Lib.strCells s) (by rw [List.length_append, Lib.strCells_length]; exact hown') (by decide)
  have HQ : Hid (Below B w (w2.setCell ⟨b, 1, none⟩ v')) := (hb1.grown hgrow (by have := hb1.size; omega) (fun k hk => (hown.lt k hk).1)).setCell (p := ⟨b, 1, none⟩) hB _
  obtain ⟨ao, ln, cap, rfl⟩ : ∃ ao ln cap, v' = .slice ao ln cap := by
    rcases hown'.2 with ⟨hv, h0⟩ | ⟨g, cap, cur, hv, _⟩
    · exact ⟨none, 0, 0, hv⟩
    · exact ⟨some ⟨g, 0, none⟩, _, cap, hv⟩
  clear hown' hgrow hown hb1 hbk hb2 HC c0 c1 hne
  go_wp2
  go_ret2
  exact ⟨⟨_, rfl⟩, .inr HB.out, HQ.out⟩
def joinL (l : List ByteArray) : List UInt8 := l.flatMap (·.data.toList)
def joinV (l : List ByteArray) : Cv := if (joinL l).length ≤ 200 then tx ⟨(joinL l).toArray⟩ else er 5
theorem joinL_step (l : List ByteArray) (k : Nat) (hk : k < l.length) : joinL (l.take (k + 1)) = joinL (l.take k) ++ l[k].data.toList := by
  unfold joinL
  rw [List.take_succ_eq_append_getElem hk, List.flatMap_append]
  simp only [List.flatMap_cons, List.flatMap_nil, List.append_nil]
theorem joinL_le (l : List ByteArray) (k : Nat) : (joinL (l.take k)).length ≤ (joinL l).length := by
  have h : joinL l = joinL (l.take k) ++ joinL (l.drop k) := by
    unfold joinL
    rw [← List.flatMap_append, List.take_append_drop]
  rw [h, List.length_append]
  omega
theorem bytes_len (s : ByteArray) : s.data.toList.length = s.size := by rw [Array.length_toList]; rfl
theorem q_tr {a b c : World} {n : Nat} (h : a.heap.size = n) (q : Q a b) (r : Below n b c) : Q a c := by subst h; exact Below.trans q r
abbrev zb (w : World) : World := w.alloc (.cells #[.int .i64 0, .int .i64 0, .string ⟨#[]⟩, .bool false, .int .i64 0] 37)
set_option maxHeartbeats 2000000 in
theorem join_any (l : List ByteArray) (v : Value) (w : World) (h : Sl encS 1 w v l) (hm : l.length ≤ 1000) (hs : ∀ s ∈ l, s.size ≤ 100000) :
    Calls Tryz.prog 42 #[v] w fun r w' => r = .returned (joinV l).v ∧ Q w w' := by
  obtain ⟨ao, cap, rfl, h1, h2, h3⟩ := h
  obtain ⟨n, hn⟩ : ∃ n, l.length = n := ⟨_, rfl⟩
  have HP := hid hn
  have HS := hid hs
  have HC : Hid (0 < n → ∃ b off, ao = some ⟨b, off, none⟩ ∧ ∀ i (hp : i < l.length), w.cell? ⟨b, off + i, none⟩ = some (.string l[i])) := by
    intro h0
    obtain ⟨b, off, ha, hc⟩ := h3 (by omega)
    refine ⟨b, off, ha, fun i hp => ?_⟩
    have := hc i hp 0 (.string l[i]) rfl
    rw [Nat.mul_one, Nat.add_zero] at this
    exact this
  have HZ : Hid (Lib.IsBuilder 99 5 (zb w).heap.size (zb w).heap.size (Lib.byteCells []) ((zb w).alloc (.cells #[.pointer none, .slice none 0 0] 99))) := Lib.fresh_isBuilder 99 5 (zb w)
  have hls : (zb w).heap.size = w.heap.size + 1 := World.size_alloc _ _
  rw [hls] at HZ
  rw [hn] at h1 hm ⊢
  obtain ⟨Y, hY⟩ : ∃ Y, joinV l = Y := ⟨_, rfl⟩
  have HY := hid hY
  rw [hY]
  obtain ⟨yk, yn, yt, yb, ye⟩ := Y
  clear h3 hn hs hY
  simp only [Cv.v, vv]
  go_enter Tryz.func42, Tryz.ntmps42
  go_wp2
  go_loopw [8] (fun i W => ∃ k : Nat, k ≤ n ∧ i = .int .i64 k ∧ Lib.IsBuilder 99 5 (w.heap.size + 1) (w.heap.size + 1) (Lib.byteCells (joinL (l.take k))) W ∧ (joinL (l.take k)).length ≤ 200 ∧ Q (zb w) W) (fun i _ => n - (intOf i).toNat)
  case atStart => exact ⟨0, Nat.zero_le _, rfl, HZ.out, by simp [joinL], (Q.refl _).alloc _⟩
  case round =>
    obtain ⟨k, hk, rfl, hbl, hle, hq⟩ := hrel
    have hwr : w.heap.size + 1 ≤ wr.heap.size := by have := hq.size; rw [hls] at this; exact this
    by_cases hlt : k < n
    · obtain ⟨b, off, rfl, hc⟩ := HC.out (by omega)
      have hkp : k < l.length := by have := HP.out; omega
      have hst := hid (joinL_step l k hkp)
      have hsz := HS.out l[k] (List.getElem_mem hkp)
      have c0 := hc k hkp
      have c1 := ((bz_q hq).cell (World.block_lt_of_cell? w _ c0)).trans c0
      have hjl := hid (joinL_le l (k + 1))
      have hb1 := World.block_lt_of_cell? wr _ c1
      clear hc c0
      generalize l[k] = s at *
      obtain ⟨acc, hacc⟩ : ∃ acc, joinL (l.take k) = acc := ⟨_, rfl⟩
      rw [hacc] at hbl hle hst
      have HB := hid hbl
      have HQ := hid hq
      have HL := hid (Tryz.Builder_Len (w.heap.size + 1) (w.heap.size + 1) (Lib.byteCells acc) wr hbl)
      rw [Lib.byteCells_length] at HL
      have hkl : (k : Int) < (n : Int) := by omega
      have hwp : IntKind.i64.wrap ((acc.length : Int) + (s.size : Int)) = (acc.length : Int) + (s.size : Int) := by
        rw [IntKind.wrap_i64]; omega
      clear hbl hq hacc
      by_cases hg : 200 < acc.length + s.size
      · have hg' : (200 : Int) < (acc.length : Int) + (s.size : Int) := by omega
        have hF : Hid (joinV l = er 5) := by
          show _ = _
          have h5 := hjl.out
          rw [hst.out, List.length_append, bytes_len] at h5
          unfold joinV
          rw [if_neg (by omega)]
        have HFa := hid (fun W => failure_any 5 W)
        have hYY : (⟨yk, yn, yt, yb, ye⟩ : Cv) = er 5 := HY.out.symm.trans hF.out
        rw [← hYY] at HFa
        simp only [Cv.v, vv] at HFa
        clear hYY hjl hst
        go_wp2_with (first
          | (go_at_call 90; refine HL.out.mono ?_; rintro r w2 ⟨rfl, h⟩; replace h := h.symm; subst h)
          | (go_at_call 30; refine (HFa.out _).mono ?_; rintro r w3 ⟨rfl, q3⟩; have Q3 := hid (HQ.out.trans q3); clear q3; obtain ⟨d0, d1, d2, d3, d4, y0, y1, y2, y3, y4, _⟩ := bz_on Q3.out))
        exact bodyPost_ret (v := .agg #[.int .i64 yk, .int .i64 yn, .string yt, .bool yb, .int .i64 ye]) (by simp [results, Tryz.results42, go_sem, d0, d1, d2, d3, d4]) rfl ⟨rfl, Q5 (bz_q Q3.out) (Nat.le_refl _)⟩
      · have hg' : ¬ (200 : Int) < (acc.length : Int) + (s.size : Int) := by omega
        have HW := hid (writeString_any (w.heap.size + 1) (w.heap.size + 1) (Lib.byteCells acc) s wr HB.out (by rw [Lib.byteCells_length]; omega) hwr)
        go_wp2_with (first
          | (go_at_call 90; refine HL.out.mono ?_; rintro r w2 ⟨rfl, h⟩; replace h := h.symm; subst h)
          | (go_at_call 91; refine HW.out.mono ?_; rintro r w3 ⟨⟨r', rfl⟩, hb3, q3⟩; have B3 := hid hb3; have Q3 := hid q3; clear hb3 q3))
        go_roundw
        case rel =>
          refine ⟨k + 1, by omega, by go_num, ?_, ?_, ?_⟩
          · rw [hst.out, Lib.byteCells_append]; exact B3.out
          · rw [hst.out, List.length_append, bytes_len]; omega
          · exact q_tr hls HQ.out Q3.out
        case measure => simp [intOf]; omega
    · have hkn : k = n := by omega
      subst hkn
      have ht : l.take k = l := List.take_of_length_le (by have := HP.out; omega)
      rw [ht] at hbl hle
      have hF : Hid (joinV l = tx ⟨(joinL l).toArray⟩) := by show _ = _; unfold joinV; rw [if_pos hle]
      have HT := hid (fun W => btext_any ⟨(joinL l).toArray⟩ W)
      have hYY : (⟨yk, yn, yt, yb, ye⟩ : Cv) = tx ⟨(joinL l).toArray⟩ := HY.out.symm.trans hF.out
      rw [← hYY] at HT
      simp only [Cv.v, vv] at HT
      have HG := hid (Tryz.Builder_String_any (w.heap.size + 1) (w.heap.size + 1) (joinL l) wr hbl hwr)
      have HQ := hid hq
      have hkl : ¬ (k : Int) < (k : Int) := by omega
      clear hbl hq hle ht hYY
      go_wp2_with (first
        | (go_at_call 93; refine HG.out.mono ?_; rintro r w2 ⟨rfl, q2⟩; have Q2 := hid q2; clear q2)
        | (go_at_call 92; refine (HT.out _).mono ?_; rintro r w3 ⟨rfl, q3⟩; have Q3 : Hid (Q (zb w) w3) := hid ((q_tr hls HQ.out Q2.out).trans q3); clear q3; obtain ⟨d0, d1, d2, d3, d4, y0, y1, y2, y3, y4, _⟩ := bz_on Q3.out))
      exact bodyPost_ret (v := .agg #[.int .i64 yk, .int .i64 yn, .string yt, .bool yb, .int .i64 ye]) (by simp [results, Tryz.results42, go_sem, d0, d1, d2, d3, d4]) rfl ⟨rfl, Q5 (bz_q Q3.out) (Nat.le_refl _)⟩
theorem info22 : (Tryz.prog.info? 35).map (fun i => (i.zero, i.size, i.bytes)) = some (some (.int .i64 0), 1, 8) := by kernel_rfl
def encN (n : Int) : List Value := [.int .i64 n]
theorem encN_len (n : Int) : (encN n).length = 1 := rfl
def nf (x : Cv) : Option Int := if x.k = 1 ∧ x.may = true then some x.n else none
def nums (l : List Cv) : List Int := l.filterMap nf
theorem nums_append (l m : List Cv) : nums (l ++ m) = nums l ++ nums m := by simp [nums]
theorem nums_step (l : List Cv) (j : Nat) (hj : j < l.length) : nums (l.take (j + 1)) = nums (l.take j) ++ nums [l[j]] := by
  rw [List.take_succ_eq_append_getElem hj, nums_append]
theorem nums_one (x : Cv) (h : x.k = 1) (hm : x.may = true) : nums [x] = [x.n] := by simp [nums, nf, h, hm]
theorem nums_none (x : Cv) (h : x.k ≠ 1 ∨ x.may = false) : nums [x] = [] := by
  have : nf x = none := by unfold nf; rw [if_neg]; rintro ⟨h1, h2⟩; rcases h with h | h; exact h h1; rw [h] at h2; cases h2
  simp [nums, this]
set_option maxHeartbeats 4000000 in
theorem numbers_any (A : List Ag) (v : Value) (w : World) (hw : Std2 w) (h : Args w v A) (hm : A.length ≤ 1000) (hs : ∀ a ∈ A, a.l.length ≤ 1000 ∧ ∀ x ∈ a.l, x.sm) :
    Calls Tryz.prog 105 #[v] w fun e w' => ∃ s, e = .returned s ∧ Sl encN 1 w' s (nums (A.flatMap (·.l))) ∧ Q w w' := by
  obtain ⟨⟨ao, cap, rfl, h1, h2, h3⟩, hvs⟩ := h
  obtain ⟨n, hn⟩ : ∃ n, A.length = n := ⟨_, rfl⟩
  have HP := hid hn
  obtain ⟨i0, hi, hz0, hz1, hz2⟩ := inf_of info22
  have HC : Hid (0 < n → ∃ b off, ao = some ⟨b, off, none⟩ ∧ ∀ i (hp : i < A.length), At2 w b (off + i * 2) A[i] ∧ Sl Cv.cells 5 w A[i].s A[i].l ∧ A[i].l.length ≤ 1000 ∧ ∀ x ∈ A[i].l, x.sm) := by
    intro h0
    obtain ⟨b, off, ha, hc⟩ := h3 (by omega)
    exact ⟨b, off, ha, fun i hp => ⟨at2_of (hc i hp), hvs _ (List.getElem_mem hp), hs _ (List.getElem_mem hp)⟩⟩
  have HW := hid hw
  obtain ⟨T, hT⟩ : ∃ T, nums (A.flatMap (·.l)) = T := ⟨_, rfl⟩
  have HT := hid hT
  rw [hn] at h1 hm ⊢
  rw [hT]
  clear hw hs h3 hvs hn hT
  go_enter Tryz.func105, Tryz.ntmps105
  go_wp2
  go_loopw [3, 10] (fun s i W => ∃ (k : Nat) (L : List Int), k ≤ n ∧ i = .int .i64 k ∧ Own encN 35 1 w.heap.size W s L ∧ L.length ≤ k * 1000 ∧ Hid (L = nums ((A.take k).flatMap (·.l))) ∧ Q w W) (fun _ i _ => n - (intOf i).toNat)
  case atStart => exact ⟨0, [], Nat.zero_le _, rfl, own_nil _, Nat.zero_le _, (by show _ = _; simp [nums]), Q.refl _⟩
  case round =>
    obtain ⟨k, L, hk, rfl, hown, hLk, hLw, hq⟩ := hrel
    by_cases hlt : k < n
    · obtain ⟨b, off, rfl, hc⟩ := HC.out (by omega)
      have hkp : k < A.length := by have := HP.out; omega
      obtain ⟨⟨c0, c1⟩, hsl, hl1, hl2⟩ := hc k hkp
      have hF : Hid (nums ((A.take (k + 1)).flatMap (·.l)) = L ++ nums A[k].l) := by
        show _ = _
        rw [hLw.out, List.take_succ_eq_append_getElem hkp, List.flatMap_append, nums_append]
        simp
      have c0' := (hq.cell (World.block_lt_of_cell? w _ c0)).trans c0
      have c1' := (hq.cell (World.block_lt_of_cell? w _ c1)).trans c1
      have HLL := hid hl2
      obtain ⟨ao', cap', hsv, g1, g2, g3⟩ := hsl
      have HG3 := hid g3
      rw [hsv] at c1'
      clear hsv c0 c1 hc g3 hl2 hLw
      generalize A[k].r = rr at c0'
      generalize A[k].l = l at *
      generalize hln : l.length = ln at c1' hl1 g1
      have HLn := hid hln
      clear hln
      have hkl : (k : Int) < (n : Int) := by omega
      have HOW := hid hown
      have HQ := hid hq
      clear hown hq
      obtain ⟨w1, rfl⟩ : ∃ w1, w1 = wr := ⟨wr, rfl⟩
      go_upto_region 6 with fail
      go_loopw [3, 17] (fun s i W => ∃ (j : Nat) (M : List Int), j ≤ ln ∧ i = .int .i64 j ∧ Own encN 35 1 w.heap.size W s M ∧ M.length ≤ k * 1000 + j ∧ Hid (M = L ++ nums (l.take j)) ∧ Q w W) (fun _ i _ => ln - (intOf i).toNat)
      case atStart => exact ⟨0, L, Nat.zero_le _, rfl, Own.alloc HOW.out _, by omega, (by show _ = _; simp [nums]), HQ.out.alloc _⟩
      case round =>
        obtain ⟨j, M, hj, rfl, hown, hMk, hMw, hq⟩ := hrel
        by_cases hjl : j < ln
        · have hjp : j < l.length := by have := HLn.out; omega
          obtain ⟨b', off', rfl, hcc⟩ := HG3.out (by omega)
          have a5 := (at5_of (hcc j hjp)).on hq
          have hsm := HLL.out _ (List.getElem_mem hjp)
          have hst : Hid (M ++ nums [l[j]] = L ++ nums (l.take (j + 1))) := by
            show _ = _
            rw [hMw.out, nums_step l j hjp, List.append_assoc]
          clear hcc hMw
          generalize l[j] = x at *
          have HM := hid (fun W (q : Q w W) => may_any x.k x.n x.t x.b x.e W (HW.out.on q) hsm)
          have hjl' : (j : Int) < (ln : Int) := by omega
          have HOW2 := hid hown
          have HQ2 := hid hq
          clear hown hq
          by_cases hk1 : x.k = 1
          · cases hA : mayB x.k x.n x.t.toList x.b x.e with
            | false =>
              rw [hA] at HM
              have HZ : Hid (M = L ++ nums (l.take (j + 1))) := by show _ = _; rw [← hst.out, nums_none x (.inr hA)]; simp
              obtain ⟨xk, xn, xt, xb, xe⟩ := x
              obtain ⟨d0, d1, d2, d3, d4⟩ := a5
              simp only at d0 d1 d2 d3 d4 hk1 HM
              subst hk1
              simp only [vv] at HM
              clear hA hst hsm
              go_wp2_with (go_at_call 80; refine (HM.out _ (HQ2.out.alloc _)).mono ?_; rintro x w2 ⟨rfl, q1⟩)
              go_roundw
              case rel => exact ⟨j + 1, M, by omega, by go_num, HOW2.out.on (q1a q1), by omega, HZ, HQ2.out.trans (q1a q1)⟩
              case measure => simp [intOf]; omega
            | true =>
              rw [hA] at HM
              have HZ : Hid (M ++ [x.n] = L ++ nums (l.take (j + 1))) := by show _ = _; rw [← hst.out, nums_one x hk1 hA]
              obtain ⟨xk, xn, xt, xb, xe⟩ := x
              obtain ⟨d0, d1, d2, d3, d4⟩ := a5
              simp only at d0 d1 d2 d3 d4 hk1 HM HZ
              subst hk1
              simp only [vv] at HM
              clear hA hst hsm
              go_wp2_with (first
                | (go_at_call 80; refine (HM.out _ (HQ2.out.alloc _)).mono ?_; rintro x w2 ⟨rfl, q1⟩; obtain ⟨g0, g1, g2, g3, g4⟩ := box0 q1; have Q2 := hid (q1a q1); clear q1)
                | (at_builtin; refine wpList_append_own _ rfl _ _ 89 rfl w.heap.size 35 i0 (.int .i64 0) 1 8 Tryz.underlying89 hi hz0 hz1 hz2 rfl (by decide) _ _ _ rfl (World.ownsRow.alloc (Own.on HOW2.out Q2.out) _) ⟨w2.heap.size, 0, none⟩ 1 1 [.int .i64 xn] rfl rfl ?c1 ?c2 ?c3 ?c4 ?c5 ?_))
              case c1 => exact news_new w2 [.int .i64 xn] 35
              case c2 =>
                intro u hu
                simp at hu
                subst hu
                rfl
              case c3 => unfold maxLen; omega
              case c4 => omega
              case c5 => have := (HQ2.out.trans Q2.out).size; simp; omega
              · intro v' w3 hown' hgrow _
                have HO3 : Hid (Own encN 35 1 w.heap.size w3 v' (M ++ [xn])) := own_snoc' (x := xn) hown' rfl
                have HQ3 : Hid (Q w w3) := Below.grown ((HQ2.out.trans Q2.out).alloc _) hgrow (by have := (HQ2.out.trans Q2.out).size; simp; omega) (Own.blk HOW2.out)
                clear hown' hgrow
                go_wp2
                go_roundw
                case rel => exact ⟨j + 1, M ++ [xn], by omega, by go_num, HO3.out, by simp; omega, HZ, HQ3.out⟩
                case measure => simp [intOf]; omega
          · have HZ : Hid (M = L ++ nums (l.take (j + 1))) := by show _ = _; rw [← hst.out, nums_none x (.inl hk1)]; simp
            obtain ⟨xk, xn, xt, xb, xe⟩ := x
            obtain ⟨d0, d1, d2, d3, d4⟩ := a5
            simp only at d0 d1 d2 d3 d4 hk1
            have hkb : (xk == 1) = false := beq_eq_false_iff_ne.2 hk1
            clear hst hsm HM
            go_wp2_with fail
            go_roundw
            case rel => exact ⟨j + 1, M, by omega, by go_num, HOW2.out.alloc _, by omega, HZ, HQ2.out.alloc _⟩
            case measure => simp [intOf]; omega
        · have hjn : j = ln := by omega
          subst hjn
          have hMF : Hid (M = nums ((A.take (k + 1)).flatMap (·.l))) := by
            show _ = _
            have h1 := hMw.out
            rw [List.take_of_length_le (by have := HLn.out; omega)] at h1
            rw [h1, hF.out]
          have hjl' : ¬ (j : Int) < (j : Int) := by omega
          have HOW2 := hid hown
          have HQ2 := hid hq
          clear hown hq hMw
          go_wp2
          go_roundw
          case rel => exact ⟨k + 1, M, by omega, by go_num, HOW2.out, by omega, hMF, HQ2.out⟩
          case measure => simp [intOf]; omega
    · have hkn : k = n := by omega
      subst hkn
      have HE : Hid (L = T) := by
        show _ = _
        have h1 := hLw.out
        rw [List.take_of_length_le (by have := HP.out; omega)] at h1
        exact h1.trans HT.out
      have HOW : Hid (Sl encN 1 wr u3 T) := by
        show Sl _ _ _ _ _
        rw [← HE.out]
        exact hown.sl encN_len (by omega)
      have HQ := hid hq
      clear hown hLw hq
      have hkl : ¬ (k : Int) < (k : Int) := by omega
      go_wp2
      go_ret
      exact ⟨_, rfl, HOW.out, HQ.out⟩
set_option maxHeartbeats 2000000 in
theorem taken_not (L : List Cv) (te : Cv → Int) (tf : Cv → Bool) (v : Value) (y : Cv) (p q : Nat) (w : World) (hw : Std2 w) (h : Sl Cv.cells 5 w v L) (hm : L.length ≤ 1000)
    (hp : w.cell? ⟨p, 0, none⟩ = some (.func (.func 66) #[] #[])) (hq : w.cell? ⟨q, 0, none⟩ = some (.func (.func 69) #[] #[]))
    (hte : ∀ x ∈ L, 0 ≤ te x ∧ te x ≤ 7)
    (HA : ∀ x ∈ L, ∀ W, Q w W → Calls Tryz.prog 66 #[x.v] W fun r W' => r = .returned (.tuple #[.bool (tf x), .int .i64 (te x)]) ∧ Q W W')
    (HG : tw te L = 0 → ∀ W s, Q w W → Sl encB 1 W s (oks te tf L) → Calls Tryz.prog 69 #[s] W fun r W' => r = .returned y.v ∧ Q W W') :
    Calls Tryz.prog 112 #[v, .pointer (some ⟨p, 0, none⟩), .pointer (some ⟨q, 0, none⟩)] w fun r w' => r = .returned (if tw te L = 0 then y else er (tw te L)).v ∧ Q w w' := by
  obtain ⟨ao, cap, rfl, h1, h2, h3⟩ := h
  obtain ⟨n, hn⟩ : ∃ n, L.length = n := ⟨_, rfl⟩
  have HP := hid hn
  obtain ⟨i0, hi, hz0, hz1, hz2⟩ := inf_of info37
  obtain ⟨i1, hj, hy0, hy1, hy2⟩ := inf_of info4
  have HC : Hid (0 < n → ∃ b off, ao = some ⟨b, off, none⟩ ∧ ∀ i (hp : i < L.length), At5 w b (off + i * 5) L[i]) := by
    intro h0
    obtain ⟨b, off, ha, hc⟩ := h3 (by omega)
    exact ⟨b, off, ha, fun i hp => at5_of (hc i hp)⟩
  have HW := hid hw
  have hbz : i1.bytes = 1 := hy2
  obtain ⟨T, hT⟩ : ∃ T, tw te L = T := ⟨_, rfl⟩
  have HT := hid hT
  have HTE := hid hte
  have HA' := hid HA
  have HG' := hid HG
  have HCP := hid (fun W (g : Q w W) => fcell hp g)
  have HCQ := hid (fun W (g : Q w W) => fcell hq g)
  rw [hn] at h1 hm ⊢
  rw [hT]
  obtain ⟨Y, hY⟩ : ∃ Y, (if T = 0 then y else er T) = Y := ⟨_, rfl⟩
  have HY := hid hY
  rw [hY]
  obtain ⟨yk, yn, yt, yb, ye⟩ := Y
  clear hw h3 hn hT hte HA HG hp hq hY
  simp only [Cv.v, vv]
  have hls : (w.alloc (.cells #[.int .i64 0, .int .i64 0, .string ⟨#[]⟩, .bool false, .int .i64 0] 37)).heap.size = w.heap.size + 1 := World.size_alloc _ _
  go_enter Tryz.func112, Tryz.ntmps112
  go_wp2_with (at_make; refine wpList_make_own _ rfl _ _ 92 rfl (w.heap.size + 1) 4 i1 (.bool false) 1 Tryz.underlying92 hj hy0 hy1 .i64 .i64 _ n rfl rfl (by omega) (by rw [hbz]; omega) (by unfold maxLen; omega) (by rw [hls]; exact Nat.le_refl _) ?_; intro w0 hown0 hgrow0)
  have HQ0 : Hid (Q (w.alloc (.cells #[.int .i64 0, .int .i64 0, .string ⟨#[]⟩, .bool false, .int .i64 0] 37)) w0) := Below.grown (Q.refl _) hgrow0 (Nat.le_refl _) (fun k hk => by cases hk)
  have HO0 : Hid (Own encB 4 1 (w.heap.size + 1) w0 (.slice (some ⟨w.heap.size + 1, 0, none⟩) 0 n) []) := by show Own _ _ _ _ _ _ _; rw [hls] at hown0; exact hown0
  clear hown0 hgrow0
  go_wp2
  go_loopw [5, 6, 17] (fun s f i W => ∃ (k : Nat) (M : List Bool) (E : List Int), k ≤ n ∧ i = .int .i64 k ∧ Own encB 4 1 (w.heap.size + 1) W s M ∧ Own Cv.cells 37 5 (w.heap.size + 1) W f (E.map er) ∧ M.length ≤ k ∧ E.length ≤ k ∧ Hid (M = oks te tf (L.take k)) ∧ Hid (E = fs te (L.take k)) ∧ Q (w.alloc (.cells #[.int .i64 0, .int .i64 0, .string ⟨#[]⟩, .bool false, .int .i64 0] 37)) W) (fun _ _ i _ => n - (intOf i).toNat)
  case atStart => exact ⟨0, [], [], Nat.zero_le _, rfl, HO0.out, own_nil _, Nat.zero_le _, Nat.zero_le _, (by show _ = _; simp [oks]), (by show _ = _; simp [fs]), HQ0.out⟩
  case round =>
    obtain ⟨k, M, E, hk, rfl, hown, howf, hMk, hEk, hMw, hEw, hq⟩ := hrel
    by_cases hlt : k < n
    · obtain ⟨b, off, rfl, hc⟩ := HC.out (by omega)
      have hkp : k < L.length := by have := HP.out; omega
      have a5 := (hc k hkp).on (bz_q hq)
      have hM1 := hid (oks_step te tf L k hkp)
      have hE1 := hid (fs_step te L k hkp)
      have HU := hid (HA'.out L[k] (List.getElem_mem hkp))
      have cp := HCP.out wr (bz_q hq)
      have hpb := World.block_lt_of_cell? wr _ cp
      clear hc
      generalize L[k] = x at *
      obtain ⟨e, he⟩ : ∃ e, te x = e := ⟨_, rfl⟩
      obtain ⟨t, ht⟩ : ∃ t, tf x = t := ⟨_, rfl⟩
      rw [he] at hM1 hE1 HU
      rw [ht] at hM1 HU
      clear he ht
      obtain ⟨xk, xn, xt, xb, xe⟩ := x
      obtain ⟨d0, d1, d2, d3, d4⟩ := a5
      simp only [Cv.v, vv] at HU d0 d1 d2 d3 d4
      have hb1 := World.block_lt_of_cell? wr _ d0
      have hkl : (k : Int) < (n : Int) := by omega
      have HOW := hid hown
      have HOF := hid howf
      have HQ := hid hq
      have HB1 := hid (bx_new wr (.int .i64 xk) (.int .i64 xn) (.string xt) (.bool xb) (.int .i64 xe))
      have hnp : p ≠ wr.heap.size := Nat.ne_of_lt hpb
      clear hown howf hq
      by_cases hz : e = 0
      · subst hz
        have hM2 : Hid (M ++ [t] = oks te tf (L.take (k + 1))) := by show _ = _; rw [hM1.out, ← hMw.out]; simp
        have hE2 : Hid (E = fs te (L.take (k + 1))) := by show _ = _; rw [hE1.out, ← hEw.out]; simp
        clear hM1 hE1 hMw hEw
        go_wp2_with (first
          | (go_at_call 66; refine (HU.out _ ((bz_q HQ.out).alloc _)).mono ?_; rintro r w2 ⟨rfl, q2⟩; have Q2 := hid (((Q.refl wr).alloc _).trans q2); clear q2)
          | (at_builtin; refine wpList_append_own _ rfl _ _ 92 rfl (w.heap.size + 1) 4 i1 (.bool false) 1 1 Tryz.underlying92 hj hy0 hy1 hy2 rfl (by decide) _ _ _ rfl (World.ownsRow.alloc (Own.on HOW.out Q2.out) _) ⟨w2.heap.size, 0, none⟩ 1 1 [.bool t] rfl rfl ?c1 ?c2 ?c3 ?c4 ?c5 ?_))
        case c1 => exact news_new w2 [.bool t] 4
        case c2 =>
          intro u hu
          simp at hu
          subst hu
          rfl
        case c3 => unfold maxLen; omega
        case c4 => omega
        case c5 => have := (HQ.out.trans Q2.out).size; simp at this ⊢; omega
        · intro v' w3 hown' hgrow _
          have HO3 : Hid (Own encB 4 1 (w.heap.size + 1) w3 v' (M ++ [t])) := own_snoc' (x := t) hown' rfl
          have HQ3 : Hid (Q (w.alloc (.cells #[.int .i64 0, .int .i64 0, .string ⟨#[]⟩, .bool false, .int .i64 0] 37)) w3) := Below.grown ((HQ.out.trans Q2.out).alloc _) hgrow (by have := (HQ.out.trans Q2.out).size; simp at this ⊢; omega) (by rw [hls]; exact Own.blk HOW.out)
          have HF3 : Hid (Own Cv.cells 37 5 (w.heap.size + 1) w3 u6 (E.map er)) := Own.grown ((HOF.out.on Q2.out).alloc _) hgrow (own_ne HOF.out HOW.out (by decide))
          clear hown' hgrow
          go_wp2
          go_roundw
          case rel => exact ⟨k + 1, M ++ [t], E, by omega, by go_num, HO3.out, HF3.out, by simp; omega, by omega, hM2, hE2, HQ3.out⟩
          case measure => simp [intOf]; omega
      · have hz' : (e != 0) = true := bne_iff_ne.2 hz
        have HFa := hid (fun W => failure_any e W)
        simp only [Cv.v, vv, er] at HFa
        have hM2 : Hid (M = oks te tf (L.take (k + 1))) := by show _ = _; rw [hM1.out, ← hMw.out]; simp [hz]
        have hE2 : Hid (E ++ [e] = fs te (L.take (k + 1))) := by show _ = _; rw [hE1.out, ← hEw.out]; simp [hz]
        have hel : (E.map er).length = E.length := List.length_map ..
        clear hM1 hE1 hMw hEw
        go_wp2_with (first
          | (go_at_call 66; refine (HU.out _ ((bz_q HQ.out).alloc _)).mono ?_; rintro r w2 ⟨rfl, q2⟩; have Q2 := hid (((Q.refl wr).alloc _).trans q2); clear q2)
          | (go_at_call 30; refine (HFa.out _).mono ?_; rintro r w3 ⟨rfl, q3⟩; have Q3 := hid (Q2.out.trans q3); clear q3)
          | (at_builtin; refine wpList_append_own _ rfl _ _ 27 rfl (w.heap.size + 1) 37 i0 (.agg #[.int .i64 0, .int .i64 0, .string ⟨#[]⟩, .bool false, .int .i64 0]) 5 48 Tryz.underlying27 hi hz0 hz1 hz2 rfl (by decide) _ _ _ rfl (World.ownsRow.alloc (Own.on HOF.out Q3.out) _) ⟨w3.heap.size, 0, none⟩ 1 1 [.int .i64 4, .int .i64 0, .string ⟨#[]⟩, .bool false, .int .i64 e] rfl rfl ?c1 ?c2 ?c3 ?c4 ?c5 ?_))
        case c1 => exact news_new w3 [.int .i64 4, .int .i64 0, .string ⟨#[]⟩, .bool false, .int .i64 e] 37
        case c2 =>
          intro u hu
          simp at hu
          rcases hu with rfl | rfl | rfl | rfl | rfl <;> rfl
        case c3 => unfold maxLen; omega
        case c4 => omega
        case c5 => have := (HQ.out.trans Q3.out).size; simp at this ⊢; omega
        · intro v' w4 hown' hgrow _
          have HF4 : Hid (Own Cv.cells 37 5 (w.heap.size + 1) w4 v' ((E ++ [e]).map er)) := by show Own _ _ _ _ _ _ _; rw [List.map_append]; exact own_snoc' (x := er e) hown' (by rw [hel])
          have HQ4 : Hid (Q (w.alloc (.cells #[.int .i64 0, .int .i64 0, .string ⟨#[]⟩, .bool false, .int .i64 0] 37)) w4) := Below.grown ((HQ.out.trans Q3.out).alloc _) hgrow (by have := (HQ.out.trans Q3.out).size; simp at this ⊢; omega) (by rw [hls]; exact Own.blk HOF.out)
          have HO4 : Hid (Own encB 4 1 (w.heap.size + 1) w4 u5 M) := Own.grown ((HOW.out.on Q3.out).alloc _) hgrow (own_ne HOW.out HOF.out (by decide))
          clear hown' hgrow
          go_wp2
          go_roundw
          case rel => exact ⟨k + 1, M, E ++ [e], by omega, by go_num, HO4.out, HF4.out, by omega, by simp; omega, hM2, hE2, HQ4.out⟩
          case measure => simp [intOf]; omega
    · have hkn : k = n := by omega
      subst hkn
      have ht : L.take k = L := List.take_of_length_le (by have := HP.out; omega)
      rw [ht] at hMw hEw
      have hME := hMw.out
      have hEE := hEw.out
      have HE : Hid (worst (E.map er) = T) := by show _ = _; rw [hEE]; exact HT.out
      have HOW : Hid (Sl encB 1 wr u5 (oks te tf L)) := by show Sl _ _ _ _ _; rw [← hME]; exact hown.sl encB_len (by omega)
      have HU := hid (fun W (g : Q w W) (s : Sl Cv.cells 5 W u6 (E.map er)) => worst_sl (E.map er) u6 W (HW.out.on g) s (by rw [List.length_map]; omega) (fs_sm E))
      rw [HE.out] at HU
      have HOF : Hid (Sl Cv.cells 5 wr u6 (E.map er)) := howf.sl Cv.len (by omega)
      have HQ := hid hq
      have hkl : ¬ (k : Int) < (k : Int) := by omega
      clear hown howf hMw hEw hME hEE hq hMk hEk HE ht
      by_cases hz : T = 0
      · subst hz
        have hY := HY.out
        rw [if_pos rfl] at hY
        have HG2 := hid (HG'.out HT.out)
        rw [hY] at HG2
        simp only [Cv.v, vv] at HG2
        clear hY
        go_wp2_with (first
          | (go_at_call 38; refine (HU.out _ (bz_q HQ.out) HOF.out).mono ?_; rintro r w2 ⟨rfl, q2⟩; have Q2 := hid (HQ.out.trans q2); have SO := hid (HOW.out.on q2); have cq := HCQ.out _ (bz_q Q2.out); clear q2)
          | (go_at_call 69; refine (HG2.out _ _ (bz_q Q2.out) SO.out).mono ?_; rintro r w3 ⟨rfl, q3⟩; have Q3 := hid (Q2.out.trans q3); clear q3; obtain ⟨d0, d1, d2, d3, d4, y0, y1, y2, y3, y4, _⟩ := bz_on Q3.out))
        exact bodyPost_ret (v := .agg #[.int .i64 yk, .int .i64 yn, .string yt, .bool yb, .int .i64 ye]) (by simp [results, Tryz.results112, go_sem, d0, d1, d2, d3, d4]) rfl ⟨rfl, Q5 (bz_q Q3.out) (Nat.le_refl _)⟩
      · have hY := HY.out
        rw [if_neg hz] at hY
        have hz' : (T != 0) = true := bne_iff_ne.2 hz
        have HFa := hid (fun W => failure_any T W)
        rw [hY] at HFa
        simp only [Cv.v, vv] at HFa
        clear hY
        go_wp2_with (first
          | (go_at_call 38; refine (HU.out _ (bz_q HQ.out) HOF.out).mono ?_; rintro r w2 ⟨rfl, q2⟩; have Q2 := hid (HQ.out.trans q2); clear q2)
          | (go_at_call 30; refine (HFa.out _).mono ?_; rintro r w3 ⟨rfl, q3⟩; have Q3 := hid (Q2.out.trans q3); clear q3; obtain ⟨d0, d1, d2, d3, d4, y0, y1, y2, y3, y4, _⟩ := bz_on Q3.out))
        exact bodyPost_ret (v := .agg #[.int .i64 yk, .int .i64 yn, .string yt, .bool yb, .int .i64 ye]) (by simp [results, Tryz.results112, go_sem, d0, d1, d2, d3, d4]) rfl ⟨rfl, Q5 (bz_q Q3.out) (Nat.le_refl _)⟩
set_option maxHeartbeats 2000000 in
theorem taken_len (L : List Cv) (te : Cv → Int) (tf : Cv → ByteArray) (v : Value) (y : Cv) (p q : Nat) (w : World) (hw : Std2 w) (h : Sl Cv.cells 5 w v L) (hm : L.length ≤ 1000)
    (hp : w.cell? ⟨p, 0, none⟩ = some (.func (.func 41) #[] #[])) (hq : w.cell? ⟨q, 0, none⟩ = some (.func (.func 73) #[] #[]))
    (hte : ∀ x ∈ L, 0 ≤ te x ∧ te x ≤ 7)
    (HA : ∀ x ∈ L, ∀ W, Q w W → Calls Tryz.prog 41 #[x.v] W fun r W' => r = .returned (.tuple #[.string (tf x), .int .i64 (te x)]) ∧ Q W W')
    (HG : tw te L = 0 → ∀ W s, Q w W → Sl encS 1 W s (oks te tf L) → Calls Tryz.prog 73 #[s] W fun r W' => r = .returned y.v ∧ Q W W') :
    Calls Tryz.prog 86 #[v, .pointer (some ⟨p, 0, none⟩), .pointer (some ⟨q, 0, none⟩)] w fun r w' => r = .returned (if tw te L = 0 then y else er (tw te L)).v ∧ Q w w' := by
  obtain ⟨ao, cap, rfl, h1, h2, h3⟩ := h
  obtain ⟨n, hn⟩ : ∃ n, L.length = n := ⟨_, rfl⟩
  have HP := hid hn
  obtain ⟨i0, hi, hz0, hz1, hz2⟩ := inf_of info37
  obtain ⟨i1, hj, hy0, hy1, hy2⟩ := inf_of info9
  have HC : Hid (0 < n → ∃ b off, ao = some ⟨b, off, none⟩ ∧ ∀ i (hp : i < L.length), At5 w b (off + i * 5) L[i]) := by
    intro h0
    obtain ⟨b, off, ha, hc⟩ := h3 (by omega)
    exact ⟨b, off, ha, fun i hp => at5_of (hc i hp)⟩
  have HW := hid hw
  have hbz : i1.bytes = 16 := hy2
  obtain ⟨T, hT⟩ : ∃ T, tw te L = T := ⟨_, rfl⟩
  have HT := hid hT
  have HTE := hid hte
  have HA' := hid HA
  have HG' := hid HG
  have HCP := hid (fun W (g : Q w W) => fcell hp g)
  have HCQ := hid (fun W (g : Q w W) => fcell hq g)
  rw [hn] at h1 hm ⊢
  rw [hT]
  obtain ⟨Y, hY⟩ : ∃ Y, (if T = 0 then y else er T) = Y := ⟨_, rfl⟩
  have HY := hid hY
  rw [hY]
  obtain ⟨yk, yn, yt, yb, ye⟩ := Y
  clear hw h3 hn hT hte HA HG hp hq hY
  simp only [Cv.v, vv]
  have hls : (w.alloc (.cells #[.int .i64 0, .int .i64 0, .string ⟨#[]⟩, .bool false, .int .i64 0] 37)).heap.size = w.heap.size + 1 := World.size_alloc _ _
  go_enter Tryz.func86, Tryz.ntmps86
  go_wp2_with (at_make; refine wpList_make_own _ rfl _ _ 46 rfl (w.heap.size + 1) 9 i1 (.string ⟨#[]⟩) 1 Tryz.underlying46 hj hy0 hy1 .i64 .i64 _ n rfl rfl (by omega) (by rw [hbz]; omega) (by unfold maxLen; omega) (by rw [hls]; exact Nat.le_refl _) ?_; intro w0 hown0 hgrow0)
  have HQ0 : Hid (Q (w.alloc (.cells #[.int .i64 0, .int .i64 0, .string ⟨#[]⟩, .bool false, .int .i64 0] 37)) w0) := Below.grown (Q.refl _) hgrow0 (Nat.le_refl _) (fun k hk => by cases hk)
  have HO0 : Hid (Own encS 9 1 (w.heap.size + 1) w0 (.slice (some ⟨w.heap.size + 1, 0, none⟩) 0 n) []) := by show Own _ _ _ _ _ _ _; rw [hls] at hown0; exact hown0
  clear hown0 hgrow0
  go_wp2
  go_loopw [5, 6, 17] (fun s f i W => ∃ (k : Nat) (M : List ByteArray) (E : List Int), k ≤ n ∧ i = .int .i64 k ∧ Own encS 9 1 (w.heap.size + 1) W s M ∧ Own Cv.cells 37 5 (w.heap.size + 1) W f (E.map er) ∧ M.length ≤ k ∧ E.length ≤ k ∧ Hid (M = oks te tf (L.take k)) ∧ Hid (E = fs te (L.take k)) ∧ Q (w.alloc (.cells #[.int .i64 0, .int .i64 0, .string ⟨#[]⟩, .bool false, .int .i64 0] 37)) W) (fun _ _ i _ => n - (intOf i).toNat)
  case atStart => exact ⟨0, [], [], Nat.zero_le _, rfl, HO0.out, own_nil _, Nat.zero_le _, Nat.zero_le _, (by show _ = _; simp [oks]), (by show _ = _; simp [fs]), HQ0.out⟩
  case round =>
    obtain ⟨k, M, E, hk, rfl, hown, howf, hMk, hEk, hMw, hEw, hq⟩ := hrel
    by_cases hlt : k < n
    · obtain ⟨b, off, rfl, hc⟩ := HC.out (by omega)
      have hkp : k < L.length := by have := HP.out; omega
      have a5 := (hc k hkp).on (bz_q hq)
      have hM1 := hid (oks_step te tf L k hkp)
      have hE1 := hid (fs_step te L k hkp)
      have HU := hid (HA'.out L[k] (List.getElem_mem hkp))
      have cp := HCP.out wr (bz_q hq)
      have hpb := World.block_lt_of_cell? wr _ cp
      clear hc
      generalize L[k] = x at *
      obtain ⟨e, he⟩ : ∃ e, te x = e := ⟨_, rfl⟩
      obtain ⟨t, ht⟩ : ∃ t, tf x = t := ⟨_, rfl⟩
      rw [he] at hM1 hE1 HU
      rw [ht] at hM1 HU
      clear he ht
      obtain ⟨xk, xn, xt, xb, xe⟩ := x
      obtain ⟨d0, d1, d2, d3, d4⟩ := a5
      simp only [Cv.v, vv] at HU d0 d1 d2 d3 d4
      have hb1 := World.block_lt_of_cell? wr _ d0
      have hkl : (k : Int) < (n : Int) := by omega
      have HOW := hid hown
      have HOF := hid howf
      have HQ := hid hq
      have HB1 := hid (bx_new wr (.int .i64 xk) (.int .i64 xn) (.string xt) (.bool xb) (.int .i64 xe))
      have hnp : p ≠ wr.heap.size := Nat.ne_of_lt hpb
      clear hown howf hq
      by_cases hz : e = 0
      · subst hz
        have hM2 : Hid (M ++ [t] = oks te tf (L.take (k + 1))) := by show _ = _; rw [hM1.out, ← hMw.out]; simp
        have hE2 : Hid (E = fs te (L.take (k + 1))) := by show _ = _; rw [hE1.out, ← hEw.out]; simp
        clear hM1 hE1 hMw hEw
        go_wp2_with (first
          | (go_at_call 41; refine (HU.out _ ((bz_q HQ.out).alloc _)).mono ?_; rintro r w2 ⟨rfl, q2⟩; have Q2 := hid (((Q.refl wr).alloc _).trans q2); clear q2)
          | (at_builtin; refine wpList_append_own _ rfl _ _ 46 rfl (w.heap.size + 1) 9 i1 (.string ⟨#[]⟩) 1 16 Tryz.underlying46 hj hy0 hy1 hy2 rfl (by decide) _ _ _ rfl (World.ownsRow.alloc (Own.on HOW.out Q2.out) _) ⟨w2.heap.size, 0, none⟩ 1 1 [.string t] rfl rfl ?c1 ?c2 ?c3 ?c4 ?c5 ?_))
        case c1 => exact news_new w2 [.string t] 9
        case c2 =>
          intro u hu
          simp at hu
          subst hu
          rfl
        case c3 => unfold maxLen; omega
        case c4 => omega
        case c5 => have := (HQ.out.trans Q2.out).size; simp at this ⊢; omega
        · intro v' w3 hown' hgrow _
          have HO3 : Hid (Own encS 9 1 (w.heap.size + 1) w3 v' (M ++ [t])) := own_snoc' (x := t) hown' rfl
          have HQ3 : Hid (Q (w.alloc (.cells #[.int .i64 0, .int .i64 0, .string ⟨#[]⟩, .bool false, .int .i64 0] 37)) w3) := Below.grown ((HQ.out.trans Q2.out).alloc _) hgrow (by have := (HQ.out.trans Q2.out).size; simp at this ⊢; omega) (by rw [hls]; exact Own.blk HOW.out)
          have HF3 : Hid (Own Cv.cells 37 5 (w.heap.size + 1) w3 u6 (E.map er)) := Own.grown ((HOF.out.on Q2.out).alloc _) hgrow (own_ne HOF.out HOW.out (by decide))
          clear hown' hgrow
          go_wp2
          go_roundw
          case rel => exact ⟨k + 1, M ++ [t], E, by omega, by go_num, HO3.out, HF3.out, by simp; omega, by omega, hM2, hE2, HQ3.out⟩
          case measure => simp [intOf]; omega
      · have hz' : (e != 0) = true := bne_iff_ne.2 hz
        have HFa := hid (fun W => failure_any e W)
        simp only [Cv.v, vv, er] at HFa
        have hM2 : Hid (M = oks te tf (L.take (k + 1))) := by show _ = _; rw [hM1.out, ← hMw.out]; simp [hz]
        have hE2 : Hid (E ++ [e] = fs te (L.take (k + 1))) := by show _ = _; rw [hE1.out, ← hEw.out]; simp [hz]
        have hel : (E.map er).length = E.length := List.length_map ..
        clear hM1 hE1 hMw hEw
        go_wp2_with (first
          | (go_at_call 41; refine (HU.out _ ((bz_q HQ.out).alloc _)).mono ?_; rintro r w2 ⟨rfl, q2⟩; have Q2 := hid (((Q.refl wr).alloc _).trans q2); clear q2)
          | (go_at_call 30; refine (HFa.out _).mono ?_; rintro r w3 ⟨rfl, q3⟩; have Q3 := hid (Q2.out.trans q3); clear q3)
          | (at_builtin; refine wpList_append_own _ rfl _ _ 27 rfl (w.heap.size + 1) 37 i0 (.agg #[.int .i64 0, .int .i64 0, .string ⟨#[]⟩, .bool false, .int .i64 0]) 5 48 Tryz.underlying27 hi hz0 hz1 hz2 rfl (by decide) _ _ _ rfl (World.ownsRow.alloc (Own.on HOF.out Q3.out) _) ⟨w3.heap.size, 0, none⟩ 1 1 [.int .i64 4, .int .i64 0, .string ⟨#[]⟩, .bool false, .int .i64 e] rfl rfl ?c1 ?c2 ?c3 ?c4 ?c5 ?_))
        case c1 => exact news_new w3 [.int .i64 4, .int .i64 0, .string ⟨#[]⟩, .bool false, .int .i64 e] 37
        case c2 =>
          intro u hu
          simp at hu
          rcases hu with rfl | rfl | rfl | rfl | rfl <;> rfl
        case c3 => unfold maxLen; omega
        case c4 => omega
        case c5 => have := (HQ.out.trans Q3.out).size; simp at this ⊢; omega
        · intro v' w4 hown' hgrow _
          have HF4 : Hid (Own Cv.cells 37 5 (w.heap.size + 1) w4 v' ((E ++ [e]).map er)) := by show Own _ _ _ _ _ _ _; rw [List.map_append]; exact own_snoc' (x := er e) hown' (by rw [hel])
          have HQ4 : Hid (Q (w.alloc (.cells #[.int .i64 0, .int .i64 0, .string ⟨#[]⟩, .bool false, .int .i64 0] 37)) w4) := Below.grown ((HQ.out.trans Q3.out).alloc _) hgrow (by have := (HQ.out.trans Q3.out).size; simp at this ⊢; omega) (by rw [hls]; exact Own.blk HOF.out)
          have HO4 : Hid (Own encS 9 1 (w.heap.size + 1) w4 u5 M) := Own.grown ((HOW.out.on Q3.out).alloc _) hgrow (own_ne HOW.out HOF.out (by decide))
          clear hown' hgrow
          go_wp2
          go_roundw
          case rel => exact ⟨k + 1, M, E ++ [e], by omega, by go_num, HO4.out, HF4.out, by omega, by simp; omega, hM2, hE2, HQ4.out⟩
          case measure => simp [intOf]; omega
    · have hkn : k = n := by omega
      subst hkn
      have ht : L.take k = L := List.take_of_length_le (by have := HP.out; omega)
      rw [ht] at hMw hEw
      have hME := hMw.out
      have hEE := hEw.out
      have HE : Hid (worst (E.map er) = T) := by show _ = _; rw [hEE]; exact HT.out
      have HOW : Hid (Sl encS 1 wr u5 (oks te tf L)) := by show Sl _ _ _ _ _; rw [← hME]; exact hown.sl encS_len (by omega)
      have HU := hid (fun W (g : Q w W) (s : Sl Cv.cells 5 W u6 (E.map er)) => worst_sl (E.map er) u6 W (HW.out.on g) s (by rw [List.length_map]; omega) (fs_sm E))
      rw [HE.out] at HU
      have HOF : Hid (Sl Cv.cells 5 wr u6 (E.map er)) := howf.sl Cv.len (by omega)
      have HQ := hid hq
      have hkl : ¬ (k : Int) < (k : Int) := by omega
      clear hown howf hMw hEw hME hEE hq hMk hEk HE ht
      by_cases hz : T = 0
      · subst hz
        have hY := HY.out
        rw [if_pos rfl] at hY
        have HG2 := hid (HG'.out HT.out)
        rw [hY] at HG2
        simp only [Cv.v, vv] at HG2
        clear hY
        go_wp2_with (first
          | (go_at_call 38; refine (HU.out _ (bz_q HQ.out) HOF.out).mono ?_; rintro r w2 ⟨rfl, q2⟩; have Q2 := hid (HQ.out.trans q2); have SO := hid (HOW.out.on q2); have cq := HCQ.out _ (bz_q Q2.out); clear q2)
          | (go_at_call 73; refine (HG2.out _ _ (bz_q Q2.out) SO.out).mono ?_; rintro r w3 ⟨rfl, q3⟩; have Q3 := hid (Q2.out.trans q3); clear q3; obtain ⟨d0, d1, d2, d3, d4, y0, y1, y2, y3, y4, _⟩ := bz_on Q3.out))
        exact bodyPost_ret (v := .agg #[.int .i64 yk, .int .i64 yn, .string yt, .bool yb, .int .i64 ye]) (by simp [results, Tryz.results86, go_sem, d0, d1, d2, d3, d4]) rfl ⟨rfl, Q5 (bz_q Q3.out) (Nat.le_refl _)⟩
      · have hY := HY.out
        rw [if_neg hz] at hY
        have hz' : (T != 0) = true := bne_iff_ne.2 hz
        have HFa := hid (fun W => failure_any T W)
        rw [hY] at HFa
        simp only [Cv.v, vv] at HFa
        clear hY
        go_wp2_with (first
          | (go_at_call 38; refine (HU.out _ (bz_q HQ.out) HOF.out).mono ?_; rintro r w2 ⟨rfl, q2⟩; have Q2 := hid (HQ.out.trans q2); clear q2)
          | (go_at_call 30; refine (HFa.out _).mono ?_; rintro r w3 ⟨rfl, q3⟩; have Q3 := hid (Q2.out.trans q3); clear q3; obtain ⟨d0, d1, d2, d3, d4, y0, y1, y2, y3, y4, _⟩ := bz_on Q3.out))
        exact bodyPost_ret (v := .agg #[.int .i64 yk, .int .i64 yn, .string yt, .bool yb, .int .i64 ye]) (by simp [results, Tryz.results86, go_sem, d0, d1, d2, d3, d4]) rfl ⟨rfl, Q5 (bz_q Q3.out) (Nat.le_refl _)⟩
end Go.Proofs.YtfjpdopmojfchaaGreatDoor
