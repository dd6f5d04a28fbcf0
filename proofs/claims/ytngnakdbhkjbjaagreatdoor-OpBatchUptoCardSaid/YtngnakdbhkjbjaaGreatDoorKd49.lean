/- op.Edit, walked; What the stat. -/
import Derived.Test.YtngnakdbhkjbjaaGreatDoorKd48
import Derived.Great.BuildSlice
set_option linter.unusedVariables false
set_option linter.unusedSimpArgs false
set_option maxRecDepth 100000
set_option maxHeartbeats 8000000
namespace Go.Proofs.YtngnakdbhkjbjaaGreatDoor
open Go.RowKit
def OpE (W : World) (x : Rv) (b nb : Bool) : Prop := ∃ X M mr, RO W x X M ∧ OK1 x X M ∧ MR M mr ∧ b = mayO x X M mr ∧ nb = (nlB x && inB 1099511627776 M)
theorem OpE.on {W W' : World} {x : Rv} {b nb : Bool} (h : OpE W x b nb) (q : Q W W') : OpE W' x b nb := by
  obtain ⟨X, M, mr, h1, h2, h3, h4⟩ := h
  exact ⟨X, M, mr, h1.on q, h2, h3, h4⟩
theorem OpE.g {W : World} {x : Rv} {b nb : Bool} (h : OpE W x b nb) : OpG W x b := by
  obtain ⟨X, M, mr, h1, h2, h3, h4, _⟩ := h
  exact ⟨X, M, mr, h1, h2, h3, h4⟩
theorem near_g (x : Rv) (b nb : Bool) (w : World) (h : OpE w x b nb) : Calls Tryz.prog 37 #[.agg x.L.toArray] w fun e V' => e = .returned (.bool nb) ∧ Q w V' := by
  obtain ⟨X, M, mr, h1, h2, h3, _, rfl⟩ := h
  exact near_any x M w h1.r
def on1 (c : Int) (nb : Rv → Bool) (x : Rv) : Bool := nb x && (decide (x.k ≠ 5) || decide (ownK x.sh.data.toList = c))
def edB (c : Int) (xs : List Rv) (mb nb : Rv → Bool) : Bool := decide (0 ≤ c ∧ c < 16 ∧ 0 < xs.length) && ((decide (xs.length ≤ 32) && xs.all mb) && xs.all (on1 c nb))
set_option maxHeartbeats 8000000 in
theorem edit_any (c : Int) (v : Value) (xs : List Rv) (mb nb : Rv → Bool) (w : World) (hg : Gd w) (h : Sl Rv.L 23 w v xs) (ho : ∀ x ∈ xs, OpE w x (mb x) (nb x)) : Calls Tryz.prog 12 #[.int .i64 c, v] w fun e V' => e = .returned (.bool (edB c xs mb nb)) ∧ Q w V' := by
  have HS := hid h
  have HG := hid hg
  have HO := hid ho
  have HBt := hid (batch_any v xs mb w hg h (fun x hx => (ho x hx).g))
  obtain ⟨ao, cap, rfl, h1, h2⟩ := h.len
  clear h hg ho
  have h3 : xs.length ≤ 9223372036854775807 := Nat.le_trans h1 (by unfold maxLen at h2; omega)
  by_cases c0 : c < 0
  · have HR : Hid (edB c xs mb nb = false) := hid (by unfold edB; rw [decide_eq_false (by omega)]; rfl)
    generalize edB c xs mb nb = r at HR ⊢
    go_enter Tryz.func12, Tryz.ntmps12
    go_wp2_with fail
    go_ret
    exact ⟨ret_bool HR.out.symm, Q.refl _⟩
  by_cases c1 : 16 ≤ c
  · have HR : Hid (edB c xs mb nb = false) := hid (by unfold edB; rw [decide_eq_false (by omega)]; rfl)
    generalize edB c xs mb nb = r at HR ⊢
    go_enter Tryz.func12, Tryz.ntmps12
    go_wp2_with fail
    go_ret
    exact ⟨ret_bool HR.out.symm, Q.refl _⟩
  by_cases c2 : xs.length = 0
  · have HR : Hid (edB c xs mb nb = false) := hid (by unfold edB; rw [decide_eq_false (by omega)]; rfl)
    generalize edB c xs mb nb = r at HR ⊢
    have e0 : ((xs.length : Int) == 0) = true := by rw [c2]; rfl
    clear c2
    go_enter Tryz.func12, Tryz.ntmps12
    go_wp2_with fail
    go_ret
    exact ⟨ret_bool HR.out.symm, Q.refl _⟩
  have e0 : ((xs.length : Int) == 0) = false := by rw [beq_eq_false_iff_ne]; omega
  have HR : Hid (edB c xs mb nb = ((decide (xs.length ≤ 32) && xs.all mb) && xs.all (on1 c nb))) := hid (by unfold edB; rw [decide_eq_true (by omega)]; rfl)
  generalize edB c xs mb nb = r at HR ⊢
  obtain ⟨bt, hbt⟩ : ∃ bt, (decide (xs.length ≤ 32) && xs.all mb) = bt := ⟨_, rfl⟩
  rw [hbt] at HBt HR
  clear hbt c2
  cases bt with
  | false =>
    go_enter Tryz.func12, Tryz.ntmps12
    go_wp2_with (go_at_call 15; refine HBt.out.mono ?_; rintro e9 y1 ⟨rfl, q9⟩; have QY : Hid (Q w y1) := hid q9; clear q9)
    go_ret
    exact ⟨ret_bool (by rw [HR.out]; rfl), QY.out⟩
  | true =>
    rw [Bool.true_and] at HR
    go_enter Tryz.func12, Tryz.ntmps12
    go_wp2_with (go_at_call 15; refine HBt.out.mono ?_; rintro e9 y1 ⟨rfl, q9⟩; have QY : Hid (Q w y1) := hid q9; clear q9)
    go_loopw [25] (fun s W => ∃ (n : Nat), n ≤ xs.length ∧ s = .int .i64 n ∧ Hid ((xs.take n).all (on1 c nb) = true) ∧ Q w W) (fun s _ => xs.length - (intOf s).toNat)
    case atStart => exact ⟨0, Nat.zero_le _, rfl, hid rfl, QY.out⟩
    case round =>
      obtain ⟨n, hn, rfl, ha, hq⟩ := hrel
      have HQ := hid hq
      clear hq
      by_cases hlt : n < xs.length
      · have hlt' : (n : Int) < (xs.length : Int) := by omega
        obtain ⟨g, off, cap', e, _, _, hc⟩ := (HS.out.on HQ.out).at hlt
        cases e
        have HX := hid ((HO.out _ (List.getElem_mem hlt)).on HQ.out)
        have HRg : Hid (wr.rangeAt g (off + n * 23) (xs[n]).L) := hid (fun j u hu => hc j u hu)
        have HYes := hid (fun hm => all_succ (mb := on1 c nb) hlt hm ha.out)
        have HNo := hid (fun hm => all_no' (mb := on1 c nb) hlt hm)
        have hsz : (xs[n]).sh.size ≤ 1000000 := by obtain ⟨_, _, _, _, k1, _⟩ := HX.out; exact k1.sh
        clear hc
        generalize xs[n] = x at HX HRg HYes HNo hsz
        have HW := hid (fun V (q : Q w V) => owner_any x.sh V (HG.out.on q).1 (by omega))
        have HU : Hid (on1 c nb x = (nb x && (decide (x.k ≠ 5) || decide (ownK x.sh.data.toList = c)))) := hid rfl
        generalize on1 c nb x = ob at HYes HNo HU
        generalize ownK x.sh.data.toList = ow at HW HU
        clear hsz
        cases hm : nb x
        · have HN := hid (HNo.out (by rw [HU.out, hm]; rfl))
          rw [hm] at HX
          clear HYes HNo hm HU HW
          go_wp2_with (first
            | (with_reducible refine wpl_loadm _ (by with_unfolding_all rfl) (by with_unfolding_all rfl) g (off + n * 23) x (by with_unfolding_all exact HRg.out) (by with_unfolding_all rfl) ?_)
            | (with_reducible refine wpl_lay wr _ _ (by with_unfolding_all rfl) (by with_unfolding_all rfl) x (by with_unfolding_all rfl) (by with_unfolding_all rfl) (by with_unfolding_all rfl) ?_)
            | (with_reducible refine wpl_loadg _ (by with_unfolding_all rfl) (by with_unfolding_all rfl) wr.heap.size (by with_unfolding_all rfl) x.L (by with_unfolding_all exact cq_new wr x.L) (by with_unfolding_all rfl) ?_)
            | (go_at_call 37; refine (near_g x _ _ _ (HX.out.on ((Q.refl _).alloc _))).mono ?_; rintro e9 y2 ⟨rfl, q9⟩; have QY2 : Hid (Q w y2) := hid ((HQ.out.alloc _).trans q9); clear q9))
          go_ret
          exact ⟨ret_bool (by rw [HR.out, HN.out]), QY2.out⟩
        · rw [hm] at HX HU
          rw [Bool.true_and] at HU
          clear hm
          by_cases hk : x.k = 5
          · have ek : (x.k == 5) = true := by simpa using hk
            by_cases hw : ow = c
            · have ew : (ow != c) = false := by simpa using hw
              have HN := hid (HYes.out (by rw [HU.out, decide_eq_true hw]; simp))
              clear HYes HNo HU hw hk
              go_wp2_with (first
                | (with_reducible refine wpl_loadm _ (by with_unfolding_all rfl) (by with_unfolding_all rfl) g (off + n * 23) x (by with_unfolding_all exact HRg.out) (by with_unfolding_all rfl) ?_)
                | (with_reducible refine wpl_lay wr _ _ (by with_unfolding_all rfl) (by with_unfolding_all rfl) x (by with_unfolding_all rfl) (by with_unfolding_all rfl) (by with_unfolding_all rfl) ?_)
                | (with_reducible refine wpl_loadg _ (by with_unfolding_all rfl) (by with_unfolding_all rfl) wr.heap.size (by with_unfolding_all rfl) x.L (by with_unfolding_all exact cq_new wr x.L) (by with_unfolding_all rfl) ?_)
                | (go_at_call 37; refine (near_g x _ _ _ (HX.out.on ((Q.refl _).alloc _))).mono ?_; rintro e9 y2 ⟨rfl, q9⟩; have QY2 : Hid (Q w y2) := hid ((HQ.out.alloc _).trans q9); have ZY := hid ((cq_new wr x.L).on q9); clear q9; have d0 := ZY.out.c 0 _ rfl; have d1 := ZY.out.c 1 _ rfl)
                | (go_at_call 38; refine (HW.out _ QY2.out).mono ?_; rintro e9 y3 ⟨rfl, q9⟩; have QY3 : Hid (Q w y3) := hid (QY2.out.trans q9); clear q9))
              go_roundw
              case rel => exact ⟨n + 1, by omega, by go_num, HN, QY3.out⟩
              case measure => simp [intOf]; omega
            · have ew : (ow != c) = true := by simpa using hw
              have HN := hid (HNo.out (by rw [HU.out, decide_eq_false hw, decide_eq_false (fun x => x hk)]; rfl))
              clear HYes HNo HU hw hk
              go_wp2_with (first
                | (with_reducible refine wpl_loadm _ (by with_unfolding_all rfl) (by with_unfolding_all rfl) g (off + n * 23) x (by with_unfolding_all exact HRg.out) (by with_unfolding_all rfl) ?_)
                | (with_reducible refine wpl_lay wr _ _ (by with_unfolding_all rfl) (by with_unfolding_all rfl) x (by with_unfolding_all rfl) (by with_unfolding_all rfl) (by with_unfolding_all rfl) ?_)
                | (with_reducible refine wpl_loadg _ (by with_unfolding_all rfl) (by with_unfolding_all rfl) wr.heap.size (by with_unfolding_all rfl) x.L (by with_unfolding_all exact cq_new wr x.L) (by with_unfolding_all rfl) ?_)
                | (go_at_call 37; refine (near_g x _ _ _ (HX.out.on ((Q.refl _).alloc _))).mono ?_; rintro e9 y2 ⟨rfl, q9⟩; have QY2 : Hid (Q w y2) := hid ((HQ.out.alloc _).trans q9); have ZY := hid ((cq_new wr x.L).on q9); clear q9; have d0 := ZY.out.c 0 _ rfl; have d1 := ZY.out.c 1 _ rfl)
                | (go_at_call 38; refine (HW.out _ QY2.out).mono ?_; rintro e9 y3 ⟨rfl, q9⟩; have QY3 : Hid (Q w y3) := hid (QY2.out.trans q9); clear q9))
              go_ret
              exact ⟨ret_bool (by rw [HR.out, HN.out]), QY3.out⟩
          · have ek : (x.k == 5) = false := by simpa using hk
            have HN := hid (HYes.out (by rw [HU.out, decide_eq_true hk]; rfl))
            clear HYes HNo HU hk HW
            go_wp2_with (first
              | (with_reducible refine wpl_loadm _ (by with_unfolding_all rfl) (by with_unfolding_all rfl) g (off + n * 23) x (by with_unfolding_all exact HRg.out) (by with_unfolding_all rfl) ?_)
              | (with_reducible refine wpl_lay wr _ _ (by with_unfolding_all rfl) (by with_unfolding_all rfl) x (by with_unfolding_all rfl) (by with_unfolding_all rfl) (by with_unfolding_all rfl) ?_)
              | (with_reducible refine wpl_loadg _ (by with_unfolding_all rfl) (by with_unfolding_all rfl) wr.heap.size (by with_unfolding_all rfl) x.L (by with_unfolding_all exact cq_new wr x.L) (by with_unfolding_all rfl) ?_)
              | (go_at_call 37; refine (near_g x _ _ _ (HX.out.on ((Q.refl _).alloc _))).mono ?_; rintro e9 y2 ⟨rfl, q9⟩; have QY2 : Hid (Q w y2) := hid ((HQ.out.alloc _).trans q9); have ZY := hid ((cq_new wr x.L).on q9); clear q9; have d0 := ZY.out.c 0 _ rfl; have d1 := ZY.out.c 1 _ rfl))
            go_roundw
            case rel => exact ⟨n + 1, by omega, by go_num, HN, QY2.out⟩
            case measure => simp [intOf]; omega
      · have HN : Hid (xs.all (on1 c nb) = true) := by
          show _ = _
          have := ha.out
          rw [List.take_of_length_le (by omega)] at this
          exact this
        go_wp2_with fail
        go_ret
        exact ⟨ret_bool (by rw [HR.out, HN.out]), HQ.out⟩
theorem info35x : (Tryz.prog.info? 35).map (fun i => (i.zero, i.size)) = some (some (.agg zero23), 23) := by kernel_rfl
theorem wpl_bsl {w : World} {ops : Array Oper} {rest : List Oper} {o : Oper} {a : Act} {Q : Exit → Act → World → Prop} (len : Nat) (parts : Array (Nat × Operand)) (ho : o.op = .buildSlice 42 len parts) (hw : Region.wanted o (yielded ops a.tmps) = true)
    (xs : List Rv) (hl : 0 < len ∧ len ≤ 1000)
    (hf : Instr.fill (fun i => some (i * 23, 23)) ((Array.range (len * 23)).map (zero23[· % zero23.size]!)) (parts.map fun (i, x) => (i, a.eval x)).toList = some (flat Rv.L xs).toArray)
    (h : wpList Tryz.prog ops Q rest (a.put o.dst (.slice (some ⟨w.heap.size, 0, none⟩) len len)) (w.alloc (.cells (flat Rv.L xs).toArray 35))) : wpList Tryz.prog ops Q (o :: rest) a w := by
  simp only [wpList, hw, if_true]
  cases hq : Tryz.prog.info? 35 with
  | none =>
    have hx := info35x
    rw [hq] at hx
    cases hx
  | some ie =>
    have hx := info35x
    rw [hq] at hx
    simp only [Option.map_some, Option.some.injEq, Prod.mk.injEq] at hx
    obtain ⟨hz, hs⟩ := hx
    refine .inl (wp_buildSlice 42 35 len parts ho (flat Rv.L xs).toArray ie (.agg zero23) Tryz.underlying42 hq hz (by rw [hs]; omega) (by rw [hs]; omega) ?_ h)
    rw [hs]
    exact hf
theorem sl_lit23 (W : World) (xs : List Rv) (hl : xs.length ≤ 1000) : Sl Rv.L 23 (W.alloc (.cells (flat Rv.L xs).toArray 35)) (.slice (some ⟨W.heap.size, 0, none⟩) xs.length xs.length) xs := by
  refine ⟨some ⟨W.heap.size, 0, none⟩, xs.length, rfl, Nat.le_refl _, by unfold maxLen; omega, fun _ => ⟨W.heap.size, 0, rfl, fun i hi j u hu => ?_⟩⟩
  have hj : j < 23 := (List.getElem?_eq_some_iff.1 hu).1
  rw [World.cell?_alloc_at _ _ _ _ rfl]
  rw [← hu, ← flat_at Rv.L Rv.len xs i hi j hj]
  simp
def opA : Rv := ⟨7, ⟨#[99, 48, 110, 48]⟩, 0, 0, false, 0, 0, ⟨#[]⟩, false, 0, 0, 0, ⟨#[]⟩, false, 0, none, 0, 0, none, 0, 0, 0, 0, 0, none, 0, 0, 0, ⟨#[]⟩⟩
def opB : Rv := ⟨5, ⟨#[99, 49, 110, 49]⟩, 0, 0, false, 0, 0, ⟨#[]⟩, false, 0, 0, 0, ⟨#[]⟩, false, 0, none, 0, 0, none, 0, 0, 0, 0, 0, none, 0, 0, 0, ⟨#[120]⟩⟩
theorem mr_nil : MR [] false := ⟨fun e => absurd e Bool.false_ne_true, fun e => absurd e.1 (by simp)⟩
theorem sm_zero : Sm zeroE := by unfold zeroE; simp [Sm, Sm.SmL]
theorem opA_e (W : World) : OpE W opA true true := ⟨zeroE, [], false, ⟨rd_zero W, R.sl_nil W⟩, ⟨by decide, by decide, by decide, sm_zero, by decide, by decide⟩, mr_nil, by kernel_rfl, by kernel_rfl⟩
theorem opB_e (W : World) : OpE W opB true true := ⟨zeroE, [], false, ⟨rd_zero W, R.sl_nil W⟩, ⟨by decide, by decide, by decide, sm_zero, by decide, by decide⟩, mr_nil, by kernel_rfl, by kernel_rfl⟩
theorem begA (V : World) (hg : Gd V) : Calls Tryz.prog 8 #[.agg opA.L.toArray] V fun e V' => e = .returned (.bool true) ∧ Q V V' := opmay_g opA true V hg (opA_e V).g
theorem begAB (V : World) (hg : Gd V) : Calls Tryz.prog 15 #[.slice (some ⟨V.heap.size, 0, none⟩) 2 2] (V.alloc (.cells (flat Rv.L [opA, opB]).toArray 35)) fun e V' => e = .returned (.bool true) ∧ Q V V' :=
  (batch_any _ [opA, opB] (fun _ => true) _ (hg.on ((Q.refl _).alloc _)) (sl_lit23 V [opA, opB] (by decide)) (fun x hx => by
    simp only [List.mem_cons, List.not_mem_nil, or_false] at hx
    rcases hx with rfl | rfl
    · exact (opA_e _).g
    · exact (opB_e _).g)).mono fun e V' h => ⟨h.1, ((Q.refl _).alloc _).trans h.2⟩
theorem begEd (c : Int) (r : Bool) (hr : edB c [opB] (fun _ => true) (fun _ => true) = r) (V : World) (hg : Gd V) : Calls Tryz.prog 12 #[.int .i64 c, .slice (some ⟨V.heap.size, 0, none⟩) 1 1] (V.alloc (.cells (flat Rv.L [opB]).toArray 35)) fun e V' => e = .returned (.bool r) ∧ Q V V' := by
  rw [← hr]
  exact (edit_any c _ [opB] (fun _ => true) (fun _ => true) _ (hg.on ((Q.refl _).alloc _)) (sl_lit23 V [opB] (by decide)) (fun x hx => by
    simp only [List.mem_cons, List.not_mem_nil, or_false] at hx
    subst hx
    exact opB_e _)).mono fun e V' h => ⟨h.1, ((Q.refl _).alloc _).trans h.2⟩
theorem begAA (V : World) : Calls Tryz.prog 10 #[.agg opA.L.toArray, .agg opA.L.toArray] V fun e V' => e = .returned (.bool true) ∧ Q V V' :=
  opeq_any opA opA zeroE zeroE [] [] true V ⟨rd_zero V, R.sl_nil V⟩ ⟨rd_zero V, R.sl_nil V⟩ (by decide) (by decide) (by decide) ⟨fun _ => ⟨rfl, rfl, rfl, rfl, ⟨rfl, rfl, rfl⟩, rfl, rfl, rfl, rfl, ⟨rfl, rfl, rfl, rfl, rfl⟩, rfl⟩, fun _ => rfl⟩
theorem begANB (V : World) : Calls Tryz.prog 10 #[.agg opA.L.toArray, .agg opB.L.toArray] V fun e V' => e = .returned (.bool false) ∧ Q V V' :=
  opeq_any opA opB zeroE zeroE [] [] false V ⟨rd_zero V, R.sl_nil V⟩ ⟨rd_zero V, R.sl_nil V⟩ (by decide) (by decide) (by decide) ⟨fun e => absurd e Bool.false_ne_true, fun e => absurd e.1 (by decide)⟩
theorem begN (V : World) (hg : Gd V) : Calls Tryz.prog 15 #[.slice none 0 0] V fun e V' => e = .returned (.bool true) ∧ Q V V' :=
  batch_any _ [] (fun _ => true) V hg (sl_nil V) (fun x hx => absurd hx (by simp))
set_option maxHeartbeats 8000000 in
theorem begun_any (w : World) (hg : Gd w) : Calls Tryz.prog 6 #[] w fun e V' => e = .returned (.bool true) ∧ Q w V' := by
  have HG := hid hg
  clear hg
  have HE1 := hid (begEd 1 true (by kernel_rfl))
  have HE2 := hid (begEd 2 false (by kernel_rfl))
  go_enter Tryz.func6, Tryz.ntmps6
  go_upto_region 2 with (first
    | (with_reducible refine wpl_buildt 35 _ (by with_unfolding_all rfl) (by with_unfolding_all rfl) opA.L.toArray (by kernel_rfl) ?_)
    | (with_reducible refine wpl_lay w _ _ (by with_unfolding_all rfl) (by with_unfolding_all rfl) opA (by with_unfolding_all rfl) (by with_unfolding_all rfl) (by with_unfolding_all rfl) ?_))
  have ZA := hid (cq_new w opA.L)
  have QA : Hid (Q w (w.alloc (.cells opA.L.toArray 35))) := hid ((Q.refl w).alloc _)
  generalize w.alloc (.cells opA.L.toArray 35) = w1 at ZA QA ⊢
  generalize w.heap.size = p at ZA ⊢
  go_upto_region 3 with (first
    | (with_reducible refine wpl_buildt 35 _ (by with_unfolding_all rfl) (by with_unfolding_all rfl) opB.L.toArray (by kernel_rfl) ?_)
    | (with_reducible refine wpl_lay w1 _ _ (by with_unfolding_all rfl) (by with_unfolding_all rfl) opB (by with_unfolding_all rfl) (by with_unfolding_all rfl) (by with_unfolding_all rfl) ?_))
  have HZ : Hid (∀ V, Q (w1.alloc (.cells opB.L.toArray 35)) V → Cq V p opA.L ∧ Cq V w1.heap.size opB.L ∧ Gd V ∧ Q w V) := hid (fun V q => ⟨(ZA.out.on ((Q.refl _).alloc _)).on q, (cq_new w1 opB.L).on q, HG.out.on ((QA.out.alloc _).trans q), (QA.out.alloc _).trans q⟩)
  clear ZA QA HG
  generalize w1.alloc (.cells opB.L.toArray 35) = w2 at HZ ⊢
  generalize w1.heap.size = q at HZ ⊢
  have Q0 : Q w2 w2 := Q.refl _
  go_wp2_with (first
    | (with_reducible refine wpl_loadg _ (by with_unfolding_all rfl) (by with_unfolding_all rfl) p (by with_unfolding_all rfl) opA.L (by with_unfolding_all exact (HZ.out _ (by assumption)).1) (by with_unfolding_all rfl) ?_)
    | (with_reducible refine wpl_loadg _ (by with_unfolding_all rfl) (by with_unfolding_all rfl) q (by with_unfolding_all rfl) opB.L (by with_unfolding_all exact (HZ.out _ (by assumption)).2.1) (by with_unfolding_all rfl) ?_)
    | (with_reducible refine wpl_bsl 2 _ (by with_unfolding_all rfl) (by with_unfolding_all rfl) [opA, opB] (by decide) (by kernel_rfl) ?_)
    | (with_reducible refine wpl_bsl 1 _ (by with_unfolding_all rfl) (by with_unfolding_all rfl) [opB] (by decide) (by kernel_rfl) ?_)
    | (go_at_call 15; have hQ := Q6; refine (begN _ (HZ.out _ Q6).2.2.1).mono ?_; rintro e9 y7 ⟨rfl, q9⟩; have Q7 : Q w2 y7 := Q6.trans q9; clear q9 hQ)
    | (go_at_call 10; have hQ := Q5; refine (begANB _).mono ?_; rintro e9 y6 ⟨rfl, q9⟩; have Q6 : Q w2 y6 := Q5.trans q9; clear q9 hQ)
    | (go_at_call 10; have hQ := Q4; refine (begAA _).mono ?_; rintro e9 y5 ⟨rfl, q9⟩; have Q5 : Q w2 y5 := Q4.trans q9; clear q9 hQ)
    | (go_at_call 12; have hQ := Q3; refine (HE2.out _ (HZ.out _ Q3).2.2.1).mono ?_; rintro e9 y4 ⟨rfl, q9⟩; have Q4 : Q w2 y4 := Q3.trans q9; clear q9 hQ)
    | (go_at_call 12; have hQ := Q2; refine (HE1.out _ (HZ.out _ Q2).2.2.1).mono ?_; rintro e9 y3 ⟨rfl, q9⟩; have Q3 : Q w2 y3 := Q2.trans q9; clear q9 hQ)
    | (go_at_call 15; have hQ := Q1; refine (begAB _ (HZ.out _ Q1).2.2.1).mono ?_; rintro e9 y2 ⟨rfl, q9⟩; have Q2 : Q w2 y2 := Q1.trans q9; clear q9 hQ)
    | (go_at_call 8; refine (begA _ (HZ.out _ Q0).2.2.1).mono ?_; rintro e9 y1 ⟨rfl, q9⟩; have Q1 : Q w2 y1 := Q0.trans q9; clear q9))
  go_ret
  exact ⟨rfl, (HZ.out _ Q7).2.2.2⟩
theorem rmayo_g (x : Rv) (b : Bool) (w : World) (h : OpG w x b) : Calls Tryz.prog 9 #[.agg x.L.toArray] w fun e V' => e = .returned (.bool b) ∧ Q w V' := by
  obtain ⟨X, M, mr, h1, h2, h3, rfl⟩ := h
  exact rmayo_any x X M mr w h1 h2 h3
set_option maxHeartbeats 4000000 in
theorem rbatch_any (v : Value) (xs : List Rv) (mb : Rv → Bool) (w : World) (h : Sl Rv.L 23 w v xs) (ho : ∀ x ∈ xs, OpG w x (mb x)) : Calls Tryz.prog 16 #[v] w fun e V' => e = .returned (.bool (decide (xs.length ≤ 32) && xs.all mb)) ∧ Q w V' := by
  have HS := hid h
  have HO := hid ho
  obtain ⟨ao, cap, rfl, h1, h2⟩ := h.len
  clear h ho
  have h3 : xs.length ≤ 9223372036854775807 := Nat.le_trans h1 (by unfold maxLen at h2; omega)
  obtain ⟨r, hr⟩ : ∃ r, (decide (xs.length ≤ 32) && xs.all mb) = r := ⟨_, rfl⟩
  rw [hr]
  have HR := hid hr
  clear hr
  go_enter Tryz.func16, Tryz.ntmps16
  go_wp2_with fail
  go_loopw [3] (fun s W => ∃ (n : Nat), n ≤ xs.length ∧ s = .int .i64 n ∧ Hid ((xs.take n).all mb = true) ∧ Q w W) (fun s _ => xs.length - (intOf s).toNat)
  case atStart => exact ⟨0, Nat.zero_le _, rfl, hid rfl, Q.refl _⟩
  case round =>
    obtain ⟨n, hn, rfl, ha, hq⟩ := hrel
    have HQ := hid hq
    clear hq
    by_cases hlt : n < xs.length
    · have hlt' : (n : Int) < (xs.length : Int) := by omega
      obtain ⟨g, off, cap', e, _, _, hc⟩ := (HS.out.on HQ.out).at hlt
      cases e
      have HX := hid ((HO.out _ (List.getElem_mem hlt)).on HQ.out)
      have HRg : Hid (wr.rangeAt g (off + n * 23) (xs[n]).L) := hid (fun j u hu => hc j u hu)
      have HYes := hid (fun hm => all_succ hlt hm ha.out)
      have HNo := hid (fun hm => all_no' (mb := mb) hlt hm)
      clear hc
      generalize xs[n] = x at HX HRg HYes HNo
      cases hm : mb x
      · have HN := hid (HNo.out hm)
        rw [hm] at HX
        clear HYes HNo hm
        go_wp2_with (first
          | (with_reducible refine wpl_loadm _ (by with_unfolding_all rfl) (by with_unfolding_all rfl) g (off + n * 23) x (by with_unfolding_all exact HRg.out) (by with_unfolding_all rfl) ?_)
          | (go_at_call 9; refine (rmayo_g x _ _ HX.out).mono ?_; rintro e9 y1 ⟨rfl, q9⟩; have QY : Hid (Q w y1) := hid (HQ.out.trans q9); clear q9))
        go_ret
        exact ⟨ret_bool (by rw [← HR.out, HN.out, Bool.and_false]), QY.out⟩
      · have HN := hid (HYes.out hm)
        rw [hm] at HX
        clear HYes HNo hm
        go_wp2_with (first
          | (with_reducible refine wpl_loadm _ (by with_unfolding_all rfl) (by with_unfolding_all rfl) g (off + n * 23) x (by with_unfolding_all exact HRg.out) (by with_unfolding_all rfl) ?_)
          | (go_at_call 9; refine (rmayo_g x _ _ HX.out).mono ?_; rintro e9 y1 ⟨rfl, q9⟩; have QY : Hid (Q w y1) := hid (HQ.out.trans q9); clear q9))
        go_roundw
        case rel => exact ⟨n + 1, by omega, by go_num, HN, QY.out⟩
        case measure => simp [intOf]; omega
    · have HN : Hid (xs.all mb = true) := by
        show _ = _
        have := ha.out
        rw [List.take_of_length_le (by omega)] at this
        exact this
      by_cases h32 : (xs.length : Int) ≤ 32
      · have HE : Hid (r = true) := hid (by rw [← HR.out, HN.out, decide_eq_true (by omega)]; rfl)
        go_wp2_with fail
        go_ret
        exact ⟨ret_bool HE.out.symm, HQ.out⟩
      · have HE : Hid (r = false) := hid (by rw [← HR.out, HN.out, decide_eq_false (by omega)]; rfl)
        go_wp2_with fail
        go_ret
        exact ⟨ret_bool HE.out.symm, HQ.out⟩
end Go.Proofs.YtngnakdbhkjbjaaGreatDoor
