/- The program's reader: names. What the program reads: all of it. lex.Scan, walked. What the words of a text are. one formula, walked; Short. parse.Parse, walked. The formula that the statements begin with. slices.Equal of references. Two trees held against each other by a list of pairs still open and pairs begun, plainly. -/
import Derived.Test.YtgheopdadfnilaaDoorMa12
import Derived.Test.YtgheopdadfnilaaDoorMa07
import Derived.Test.YtgheopdadfnilaaDoorMa11
import Derived.Test.YtgheopdadfnilaaDoorMa01
import Derived.Laws.StructEq
namespace Go.Proofs.YtgheopdadfnilaaDoor
open Go.RowKit
set_option linter.unusedVariables false
set_option linter.unusedSimpArgs false


set_option maxRecDepth 100000 in
set_option maxHeartbeats 8000000 in
theorem pnamed_true (L : List Wd) (p b off cap i : Nat) (W : World) (T : ByteArray) (t : List UInt8) (hT : T.data.toList = t) (h : PT W p L b off cap i) (hi : i < L.length) (hr : L.length ≤ 50000) (hz : t.length ≤ 1000) (ht : t = truW) :
    Calls Tryd.prog 49 #[.pointer (some ⟨p, 0, none⟩), .string T] W fun e W' => RepP p L b off cap W (some (boolE (decide (t = truW)), i)) e W' := by
  have hlt := h.lt
  have hbW := h.blk i hi
  have HP := hid h
  have HZ := hid (tb_new W (.int .i64 0) (.int .i64 0) (.string ⟨#[]⟩) (.bool false) (.int .i64 0) (.slice none 0 0) (.slice none 0 0) 30)
  have hsz : T.size ≤ 1000 := by rw [← hT] at hz; simpa using hz
  have HTr := hid (fun W1 => ptruth_any T W1)
  have HNm := hid (fun W1 => mayname_any T W1 (by omega))
  rw [hT] at HTr HNm
  have et := hid (toL T)
  have f1 : (T.toList == [84, 82, 85, 69]) = true := by rw [et.out, hT, ht]; rfl
  rw [decide_eq_true (.inl ht)] at HTr
  have HD : Hid (decide (t = truW) = true) := by show _ = _; rw [ht]; decide
  clear hT ht et
  clear h hz
  go_enter Tryd.func49, Tryd.ntmps49
  go_wp2_with (go_at_call 52; refine (HTr.out _).mono ?_; rintro e9 w9 ⟨rfl, h9⟩; replace h9 := h9.symm; subst h9)
  refine bodyPost_ret (v := .tuple #[.agg #[.int .i64 3, .int .i64 0, .string ⟨#[]⟩, .bool true, .int .i64 0, .slice none 0 0, .slice none 0 0], .bool true]) (by simp [results, Tryd.results49, go_sem]) rfl ?_
  rw [HD.out]
  refine ⟨3, 0, ⟨#[]⟩, true, 0, none, 0, 0, none, 0, 0, rfl, (Qx.refl p _).alloc _, fun x j e => ?_⟩
  cases e
  exact ⟨rdg_leaf 3 0 [] ⟨#[]⟩ rfl true 0, HP.out.on ((Q.refl _).alloc _)⟩

set_option maxRecDepth 100000 in
set_option maxHeartbeats 8000000 in
theorem pnamed_false (L : List Wd) (p b off cap i : Nat) (W : World) (T : ByteArray) (t : List UInt8) (hT : T.data.toList = t) (h : PT W p L b off cap i) (hi : i < L.length) (hr : L.length ≤ 50000) (hz : t.length ≤ 1000) (ht : t = flsW) :
    Calls Tryd.prog 49 #[.pointer (some ⟨p, 0, none⟩), .string T] W fun e W' => RepP p L b off cap W (some (boolE (decide (t = truW)), i)) e W' := by
  have hlt := h.lt
  have hbW := h.blk i hi
  have HP := hid h
  have HZ := hid (tb_new W (.int .i64 0) (.int .i64 0) (.string ⟨#[]⟩) (.bool false) (.int .i64 0) (.slice none 0 0) (.slice none 0 0) 30)
  have hsz : T.size ≤ 1000 := by rw [← hT] at hz; simpa using hz
  have HTr := hid (fun W1 => ptruth_any T W1)
  have HNm := hid (fun W1 => mayname_any T W1 (by omega))
  rw [hT] at HTr HNm
  have et := hid (toL T)
  have f1 : (T.toList == [84, 82, 85, 69]) = false := by rw [et.out, hT, ht]; rfl
  rw [decide_eq_true (.inr ht)] at HTr
  have HD : Hid (decide (t = truW) = false) := by show _ = _; rw [ht]; decide
  clear hT ht et
  clear h hz
  go_enter Tryd.func49, Tryd.ntmps49
  go_wp2_with (go_at_call 52; refine (HTr.out _).mono ?_; rintro e9 w9 ⟨rfl, h9⟩; replace h9 := h9.symm; subst h9)
  refine bodyPost_ret (v := .tuple #[.agg #[.int .i64 3, .int .i64 0, .string ⟨#[]⟩, .bool false, .int .i64 0, .slice none 0 0, .slice none 0 0], .bool true]) (by simp [results, Tryd.results49, go_sem]) rfl ?_
  rw [HD.out]
  refine ⟨3, 0, ⟨#[]⟩, false, 0, none, 0, 0, none, 0, 0, rfl, (Qx.refl p _).alloc _, fun x j e => ?_⟩
  cases e
  exact ⟨rdg_leaf 3 0 [] ⟨#[]⟩ rfl false 0, HP.out.on ((Q.refl _).alloc _)⟩

set_option maxRecDepth 100000 in
set_option maxHeartbeats 8000000 in
theorem pnamed_bad (L : List Wd) (p b off cap i : Nat) (W : World) (T : ByteArray) (t : List UInt8) (hT : T.data.toList = t) (h : PT W p L b off cap i) (hi : i < L.length) (hr : L.length ≤ 50000) (hz : t.length ≤ 1000) (ht : ¬ (t = truW ∨ t = flsW)) (hnm : namF t = false) :
    Calls Tryd.prog 49 #[.pointer (some ⟨p, 0, none⟩), .string T] W fun e W' => RepP p L b off cap W none e W' := by
  have hlt := h.lt
  have hbW := h.blk i hi
  have HP := hid h
  have HZ := hid (tb_new W (.int .i64 0) (.int .i64 0) (.string ⟨#[]⟩) (.bool false) (.int .i64 0) (.slice none 0 0) (.slice none 0 0) 30)
  have hsz : T.size ≤ 1000 := by rw [← hT] at hz; simpa using hz
  have HTr := hid (fun W1 => ptruth_any T W1)
  have HNm := hid (fun W1 => mayname_any T W1 (by omega))
  rw [hT] at HTr HNm
  have et := hid (toL T)
  rw [decide_eq_false ht] at HTr
  rw [hnm] at HNm
  clear hT ht et hnm
  clear h hz
  go_enter Tryd.func49, Tryd.ntmps49
  go_wp2_with (first | (go_at_call 52; refine (HTr.out _).mono ?_; rintro e9 w9 ⟨rfl, h9⟩; replace h9 := h9.symm; subst h9) | (go_at_call 37; refine (HNm.out _).mono ?_; rintro e9 w9 ⟨rfl, h9⟩; replace h9 := h9.symm; subst h9))
  refine bodyPost_ret (v := .tuple #[.agg #[.int .i64 0, .int .i64 0, .string ⟨#[]⟩, .bool false, .int .i64 0, .slice none 0 0, .slice none 0 0], .bool false]) (by simp [results, Tryd.results49, go_sem]) rfl ?_
  exact ⟨0, 0, ⟨#[]⟩, false, 0, none, 0, 0, none, 0, 0, rfl, (Qx.refl p _).alloc _, fun x j e => by cases e⟩

set_option maxRecDepth 100000 in
set_option maxHeartbeats 8000000 in
theorem pnamed_none (L : List Wd) (p b off cap i : Nat) (W : World) (T : ByteArray) (t : List UInt8) (hT : T.data.toList = t) (h : PT W p L b off cap i) (hi : i < L.length) (hr : L.length ≤ 50000) (hz : t.length ≤ 1000) (ht : ¬ (t = truW ∨ t = flsW)) (hnm : namF t = true) (hw : isW L i [40] = false) :
    Calls Tryd.prog 49 #[.pointer (some ⟨p, 0, none⟩), .string T] W fun e W' => RepP p L b off cap W none e W' := by
  have hlt := h.lt
  have hbW := h.blk i hi
  have HP := hid h
  have HZ := hid (tb_new W (.int .i64 0) (.int .i64 0) (.string ⟨#[]⟩) (.bool false) (.int .i64 0) (.slice none 0 0) (.slice none 0 0) 30)
  have hsz : T.size ≤ 1000 := by rw [← hT] at hz; simpa using hz
  have HTr := hid (fun W1 => ptruth_any T W1)
  have HNm := hid (fun W1 => mayname_any T W1 (by omega))
  rw [hT] at HTr HNm
  have et := hid (toL T)
  rw [decide_eq_false ht] at HTr
  rw [hnm] at HNm
  have hc := hid (fun W1 (g : PT W1 p L b off cap i) => ptake_any W1 p L b off cap i ⟨#[40]⟩ g hi hr (by simp))
  rw [show (⟨#[40]⟩ : ByteArray).data.toList = [40] from rfl, hw] at hc
  clear hT ht et hnm
  clear h hz
  go_enter Tryd.func49, Tryd.ntmps49
  go_wp2_with (first | (go_at_call 52; refine (HTr.out _).mono ?_; rintro e9 w9 ⟨rfl, h9⟩; replace h9 := h9.symm; subst h9) | (go_at_call 37; refine (HNm.out _).mono ?_; rintro e9 w9 ⟨rfl, h9⟩; replace h9 := h9.symm; subst h9) | (go_at_call 31; refine (hc.out _ (HP.out.on (by repeat (first | with_reducible exact Q.refl _ | with_reducible refine Q.drewN ?_ _ | with_reducible refine Q.drew ?_ | with_reducible refine Q.alloc ?_ _ | with_reducible refine Q.setCell ?_ (by simp) _)))).mono ?_; rintro e w1 ⟨rfl, q1, p1⟩; have Q1 : Hid (Qx p W w1) := hid (Qx.trans (by repeat (first | with_reducible exact Qx.refl _ _ | with_reducible refine Qx.drewN ?_ _ | with_reducible refine Qx.drew ?_ | with_reducible refine Qx.alloc ?_ _ | with_reducible refine Qx.own ?_ _ _ | with_reducible refine Qx.new ?_ (by simp) _ _)) q1); have P1 := hid p1; have Z1 := hid (HZ.out.on q1 (by omega)); have hsw : W.heap.size < w1.heap.size := World.block_lt_of_cell? w1 ⟨W.heap.size, 0, none⟩ Z1.out.g0; clear q1 p1; have d0 := Z1.out.g0; have d1 := Z1.out.g1; have d2 := Z1.out.g2; have d3 := Z1.out.g3; have d4 := Z1.out.g4; have d5 := Z1.out.g5; have d6 := Z1.out.g6; have y0 := Z1.out.f 0; have y1 := Z1.out.f 1; have y2 := Z1.out.f 2; have y3 := Z1.out.f 3; have y4 := Z1.out.f 4; have y5 := Z1.out.f 5; have y6 := Z1.out.f 6))
  refine bodyPost_ret (v := .tuple #[.agg #[.int .i64 0, .int .i64 0, .string ⟨#[]⟩, .bool false, .int .i64 0, .slice none 0 0, .slice none 0 0], .bool false]) (by simp [results, Tryd.results49, go_sem, d0, d1, d2, d3, d4, d5, d6]) rfl ?_
  exact finP none 0 0 ⟨#[]⟩ false 0 none 0 0 none 0 0 hlt hbW Q1.out (fun x j e => by cases e)

set_option maxRecDepth 100000 in
set_option maxHeartbeats 8000000 in
theorem pnamed_args (L : List Wd) (p b off cap i : Nat) (W : World) (T : ByteArray) (t : List UInt8) (hT : T.data.toList = t) (h : PT W p L b off cap i) (hi : i < L.length) (hr : L.length ≤ 50000) (hz : t.length ≤ 1000) (ht : ¬ (t = truW ∨ t = flsW)) (hnm : namF t = true) (hw : isW L i [40] = true) (o : Option (Ex × Nat)) (HG : Hid (∀ W1, PT W1 p L b off cap (i + 1) → Calls Tryd.prog 64 #[.pointer (some ⟨p, 0, none⟩)] W1 fun e W' => RepG p L b off cap t W1 o e W')) :
    Calls Tryd.prog 49 #[.pointer (some ⟨p, 0, none⟩), .string T] W fun e W' => RepP p L b off cap W o e W' := by
  have hlt := h.lt
  have hbW := h.blk i hi
  have HP := hid h
  have HZ := hid (tb_new W (.int .i64 0) (.int .i64 0) (.string ⟨#[]⟩) (.bool false) (.int .i64 0) (.slice none 0 0) (.slice none 0 0) 30)
  have hsz : T.size ≤ 1000 := by rw [← hT] at hz; simpa using hz
  have HTr := hid (fun W1 => ptruth_any T W1)
  have HNm := hid (fun W1 => mayname_any T W1 (by omega))
  rw [hT] at HTr HNm
  have et := hid (toL T)
  rw [decide_eq_false ht] at HTr
  rw [hnm] at HNm
  have hc := hid (fun W1 (g : PT W1 p L b off cap i) => ptake_any W1 p L b off cap i ⟨#[40]⟩ g hi hr (by simp))
  rw [show (⟨#[40]⟩ : ByteArray).data.toList = [40] from rfl, hw] at hc
  have HTT := hid hT
  clear hT ht et hnm
  clear h hz
  go_enter Tryd.func49, Tryd.ntmps49
  go_wp2_with (first | (go_at_call 52; refine (HTr.out _).mono ?_; rintro e9 w9 ⟨rfl, h9⟩; replace h9 := h9.symm; subst h9) | (go_at_call 37; refine (HNm.out _).mono ?_; rintro e9 w9 ⟨rfl, h9⟩; replace h9 := h9.symm; subst h9) | (go_at_call 31; refine (hc.out _ (HP.out.on (by repeat (first | with_reducible exact Q.refl _ | with_reducible refine Q.drewN ?_ _ | with_reducible refine Q.drew ?_ | with_reducible refine Q.alloc ?_ _ | with_reducible refine Q.setCell ?_ (by simp) _)))).mono ?_; rintro e w1 ⟨rfl, q1, p1⟩; have Q1 : Hid (Qx p W w1) := hid (Qx.trans (by repeat (first | with_reducible exact Qx.refl _ _ | with_reducible refine Qx.drewN ?_ _ | with_reducible refine Qx.drew ?_ | with_reducible refine Qx.alloc ?_ _ | with_reducible refine Qx.own ?_ _ _ | with_reducible refine Qx.new ?_ (by simp) _ _)) q1); have P1 := hid p1; have Z1 := hid (HZ.out.on q1 (by omega)); have hsw : W.heap.size < w1.heap.size := World.block_lt_of_cell? w1 ⟨W.heap.size, 0, none⟩ Z1.out.g0; clear q1 p1) | (go_at_call 64; refine (HG.out _ P1.out).mono ?_; rintro e w2 ⟨ao, l, cp, rfl, q2, r2⟩; have Q2 := hid q2; have R2 := hid r2; have Z2 := hid (Z1.out.on q2 (by omega)); clear q2 r2; have d0 := Z2.out.g0; have d1 := Z2.out.g1; have d2 := Z2.out.g2; have d3 := Z2.out.g3; have d4 := Z2.out.g4; have d5 := Z2.out.g5; have d6 := Z2.out.g6; have y0 := Z2.out.f 0; have y1 := Z2.out.f 1; have y2 := Z2.out.f 2; have y3 := Z2.out.f 3; have y4 := Z2.out.f 4; have y5 := Z2.out.f 5; have y6 := Z2.out.f 6))
  refine bodyPost_ret (v := .tuple #[.agg #[.int .i64 9, .int .i64 0, .string T, .bool false, .int .i64 0, .slice none 0 0, .slice ao l cp], .bool o.isSome]) (by simp [results, Tryd.results49, go_sem, d0, d1, d2, d3, d4, d5, d6]) rfl ?_
  exact finP o 9 0 T false 0 none 0 0 ao l cp hlt hbW (Q1.out.trans Q2.out) (fun x j e => ⟨Rdg.mono (fun b hb => by omega) _ _ ((R2.out x j e).1 T HTT.out), (R2.out x j e).2⟩)
end Go.Proofs.YtgheopdadfnilaaDoor
namespace Go.Proofs.YtgheopdadfnilaaDoor
open Go.RowKit
set_option linter.unusedVariables false
set_option linter.unusedSimpArgs false


/-- what the program reads -/
theorem pro_all (L : List Wd) (hE : Ends L) (hG : Good EE L) (hK : ∀ i, i < L.length → 1 ≤ kAt L i ∧ kAt L i ≤ 7) (hr : L.length ≤ 50000) (hz : ∀ i, (tAt L i).length ≤ 1000) (p b off cap : Nat) : ∀ f : Nat,
    (∀ (lv i : Nat) (o : Option (Ex × Nat)) (W : World), 1 ≤ lv → lv ≤ 5 → ptF EE L f lv i = some o → PT W p L b off cap i → i < L.length → Calls Tryd.prog 11 #[.pointer (some ⟨p, 0, none⟩), .int .i64 (lv : Int)] W fun e W' => RepP p L b off cap W o e W') ∧
    (∀ (i : Nat) (o : Option (Ex × Nat)) (W : World), ptF.paF EE L f i = some o → PT W p L b off cap i → i < L.length → Calls Tryd.prog 20 #[.pointer (some ⟨p, 0, none⟩)] W fun e W' => RepP p L b off cap W o e W') ∧
    (∀ (i : Nat) (o : Option (Ex × Nat)) (W : World), ptF.pfF EE L f i = some o → PT W p L b off cap i → i < L.length → Calls Tryd.prog 32 #[.pointer (some ⟨p, 0, none⟩)] W fun e W' => RepP p L b off cap W o e W') := by
  intro f
  induction f using Nat.strongRecOn with
  | ind f ih =>
    cases f with
    | zero =>
      refine ⟨?_, ?_, ?_⟩
      · intro lv i o W _ _ h; unfold ptF at h; cases h
      · intro i o W h; unfold ptF.paF at h; cases h
      · intro i o W h; unfold ptF.pfF at h; cases h
    | succ f =>
      have IT := fun f' (h : f' < f + 1) => (ih f' h).1
      obtain ⟨iT, iA, iF⟩ := ih f (Nat.lt_succ_self f)
      refine ⟨?_, ?_, ?_⟩
      · intro lv i o W hv hv5 h hP hi
        rw [ptF] at h
        obtain ⟨oa, h1, h2⟩ := Option.bind_eq_some_iff.1 h
        refine ptree_step L hE p b off cap lv i W hP hi hr hv hv5 oa o f (fun e => ?_) (hid fun r e => ?_) (hid fun W1 g => iA i oa W1 h1 g hi) (hid fun f' lv' j o' W1 hf a1 a2 a3 a4 a5 => IT f' (by omega) lv' j o' W1 a1 a2 a3 a4 a5)
        · subst e; exact (Option.some.inj h2).symm
        · subst e; exact ⟨h2, ((pfwd_all EE L hE f).2.2.1 _ _ _ hi h1).2⟩
      · intro i o W h hP hi
        rw [ptF.paF] at h
        split at h
        · rename_i hw
          obtain ⟨oa, h1, h2⟩ := Option.bind_eq_some_iff.1 h
          have e : o = oa.map fun r => (negE r.1, r.2) := by
            cases oa with
            | none => exact (Option.some.inj h2).symm
            | some r => exact (Option.some.inj h2).symm
          rw [e]
          exact pahead_yes L p b off cap i W hP hi hr hw oa (hid fun W1 g => iA (i + 1) oa W1 h1 g (hE.sign hw))
        · rename_i hw
          exact pahead_no L p b off cap i W hP hi hr (by simpa using hw) o (hid fun W1 g => iF i o W1 h g hi)
      · intro i o W h hP hi
        rw [ptF.pfF] at h
        split at h
        · rename_i hw
          obtain ⟨ob, h1, h2⟩ := Option.bind_eq_some_iff.1 h
          have hi1 := hE.sign hw
          refine pfirst_paren L p b off cap i W hP hi hr hw o (hid fun W1 g => ?_)
          have HT := hid fun W2 (g2 : PT W2 p L b off cap (i + 1)) => iT 1 (i + 1) ob W2 (by omega) (by omega) h1 g2 hi1
          cases ob with
          | none =>
            have e : o = none := (Option.some.inj h2).symm
            rw [e]
            exact pbrack_none L p b off cap (i + 1) W1 g hi1 hr HT
          | some r =>
            obtain ⟨x, j⟩ := r
            have hj := ((pfwd_all EE L hE f).1 _ _ _ _ (by omega) hi1 h1).2
            have e : (if isW L j [41] then some (x, j + 1) else none) = o := Option.some.inj h2
            cases hw2 : isW L j [41]
            · rw [hw2] at e
              rw [← e]
              exact pbrack_no L p b off cap (i + 1) W1 g hi1 hr x j hj hw2 HT
            · rw [hw2] at e
              rw [← e]
              exact pbrack_yes L p b off cap (i + 1) W1 g hi1 hr x j hj hw2 HT
        · rename_i hw0
          have hw : isW L i [40] = false := by simpa using hw0
          split at h
          · rename_i hk
            have hi1 := hE i hi (by omega)
            refine pfirst_named L p b off cap i W hP hi hr hw hk o (hid fun W1 T hT _ g => ?_)
            split at h
            · rename_i ht
              rw [← Option.some.inj h]
              by_cases htr : tAt L i = truW
              · exact pnamed_true L p b off cap (i + 1) W1 T (tAt L i) hT g hi1 hr (hz i) htr
              · exact pnamed_false L p b off cap (i + 1) W1 T (tAt L i) hT g hi1 hr (hz i) (ht.resolve_left htr)
            · rename_i ht
              split at h
              · rename_i hc
                have hi2 := hE.sign hc.2
                have hnm : namF (tAt L i) = true := hc.1
                refine pnamed_args L p b off cap (i + 1) W1 T (tAt L i) hT g hi1 hr (hz i) ht hnm hc.2 o (hid fun W2 g2 => ?_)
                split at h
                · rename_i h41
                  rw [← Option.some.inj h]
                  exact pargs_nil L p b off cap (i + 2) W2 (tAt L i) g2 hi2 hr h41
                · rename_i h41
                  exact pargs_more L hE p b off cap (i + 2) W2 (tAt L i) g2 hi2 hr (by simpa using h41) o f (hid h) (hid fun f' j o' W3 hf a1 a2 a3 => IT f' (by omega) 1 j o' W3 (by omega) (by omega) a1 a2 a3)
              · rename_i hc
                rw [← Option.some.inj h]
                cases hnm : namF (tAt L i)
                · exact pnamed_bad L p b off cap (i + 1) W1 T (tAt L i) hT g hi1 hr (hz i) ht hnm
                · have hw1 : isW L (i + 1) [40] = false := by
                    cases hww : isW L (i + 1) [40]
                    · rfl
                    · exact absurd ⟨hnm, hww⟩ hc
                  exact pnamed_none L p b off cap (i + 1) W1 T (tAt L i) hT g hi1 hr (hz i) ht hnm hw1
          · rename_i hk4
            rw [← Option.some.inj h]
            unfold poneF
            have hk := hK i hi
            by_cases k1 : kAt L i = 1
            · rw [if_pos k1, if_pos (hG.num i hi k1)]
              exact pfirst_num L p b off cap i W hP hi hr hw k1 hz (hG.num i hi k1) hP.sd hP.p5
            · rw [if_neg k1]
              by_cases k2 : kAt L i = 2
              · rw [if_pos k2]; exact pfirst_text L p b off cap i W hP hi hr hw k2
              · rw [if_neg k2]
                by_cases k5 : kAt L i = 5
                · rw [if_pos k5]
                  exact pfirst_err L p b off cap i W hP hi hr hw k5 hP.sd hP.p5 (hid fun W1 T hT hs => errof_any T _ hT W1 hs (hG.err i hi k5))
                · rw [if_neg k5]
                  by_cases k3 : kAt L i = 3
                  · have hok := hG.ref i hi k3
                    have hok' : refF (tAt L i) = true := hok
                    rw [if_pos k3, if_neg (show ¬ EE.rok (tAt L i) = false by rw [hok]; simp)]
                    have hi1 := hE i hi (by omega)
                    refine pfirst_ref L p b off cap i W hP hi hr hw k3 _ (hid fun W1 T hT _ g => ?_)
                    by_cases hc : isW L (i + 1) [58] = true
                    · rw [if_pos hc]
                      by_cases h3 : kAt L (i + 2) = 3
                      · by_cases ho : refF (tAt L (i + 2)) = true
                        · by_cases hsh : (refT (tAt L (i + 2))).1 = []
                          · rw [if_pos ⟨h3, ho, hsh⟩]
                            exact pref_range L p b off cap (i + 1) W1 T (tAt L i) hT g hi1 hr g.sd g.p5 (hz i) hok' hE hz hc h3 ho hsh
                          · rw [if_neg (fun e => hsh e.2.2)]
                            exact pref_sheet L p b off cap (i + 1) W1 T (tAt L i) hT g hi1 hr g.sd g.p5 (hz i) hok' hE hz hc h3 ho hsh
                        · rw [if_neg (fun e => ho e.2.1)]
                          exact pref_none L p b off cap (i + 1) W1 T (tAt L i) hT g hi1 hr g.sd g.p5 (hz i) hok' hE hz hc h3 (by simpa using ho)
                      · rw [if_neg (fun e => h3 e.1)]
                        exact pref_kind L p b off cap (i + 1) W1 T (tAt L i) hT g hi1 hr g.sd g.p5 (hz i) hok' hE hc h3
                    · rw [if_neg hc]
                      exact pref_one L p b off cap (i + 1) W1 T (tAt L i) hT g hi1 hr g.sd g.p5 (hz i) hok' (by simpa using hc)
                  · rw [if_neg k3]
                    exact pfirst_other L p b off cap i W hP hi hr hw (by omega)
end Go.Proofs.YtgheopdadfnilaaDoor
namespace Go.Proofs.YtgheopdadfnilaaDoor
open Go.RowKit
set_option linter.unusedVariables false
set_option linter.unusedSimpArgs false


/-- what Scan answers -/
def scanL (l : List UInt8) : Option (List Wd) × Nat := if 1000 < l.length then (none, 0) else
  match scanF l 0 [] with
  | (some L, n) => (some (L ++ [⟨7, [], l.length⟩]), 0)
  | (none, n) => (none, n)
theorem scanL_long {l : List UInt8} (h : 1000 < l.length) : scanL l = (none, 0) := by unfold scanL; rw [if_pos h]
theorem scanL_yes {l : List UInt8} {L : List Wd} {n : Nat} (h : ¬ 1000 < l.length) (e : scanF l 0 [] = (some L, n)) : scanL l = (some (L ++ [⟨7, [], l.length⟩]), 0) := by unfold scanL; rw [if_neg h, e]
theorem scanL_no {l : List UInt8} {n : Nat} (h : ¬ 1000 < l.length) (e : scanF l 0 [] = (none, n)) : scanL l = (none, n) := by unfold scanL; rw [if_neg h, e]
/-- what is handed back, as the world holds it -/
def ScanRet (o : Option (List Wd) × Nat) (e : Ending) (W : World) : Prop :=
  match o with
  | (some L, n) => ∃ v, e = .returned (.tuple #[v, .int .i64 0, .bool true]) ∧ Sl wd 3 W v L
  | (none, n) => e = .returned (.tuple #[.slice none 0 0, .int .i64 (n : Int), .bool false])
theorem ScanRet.no {o : Option (List Wd) × Nat} {n : Nat} {W : World} {k : Int} (h : o = (none, n)) (hk : k = (n : Int)) : ScanRet o (.returned (.tuple #[.slice none 0 0, .int .i64 k, .bool false])) W := by
  subst h
  subst hk
  rfl
theorem ScanRet.yes {o : Option (List Wd) × Nat} {L : List Wd} {W : World} {v : Value} (h : o = (some L, 0)) (hv : Sl wd 3 W v L) : ScanRet o (.returned (.tuple #[v, .int .i64 0, .bool true])) W := by
  subst h
  exact ⟨v, rfl, hv⟩
theorem drop_head (s : ByteArray) (k : Nat) (h : k < s.size) : s.data.toList.drop k ≠ [] := by
  rw [drop_cons s k h]; simp

set_option maxHeartbeats 4000000 in
theorem scan_any (s : ByteArray) (w : World) (hw : Std w) (hs : s.size ≤ 100000) :
    Calls Tryd.prog 10 #[.string s] w fun e w' => ScanRet (scanL s.data.toList) e w' ∧ Q w w' := by
  by_cases hlong : 1000 < s.size
  · have HR := hid (scanL_long (l := s.data.toList) (by simpa using hlong))
    generalize scanL s.data.toList = o at HR ⊢
    go_enter Tryd.func10, Tryd.ntmps10
    go_wp2
    go_ret3
    exact ⟨ScanRet.no HR.out rfl, Q.refl _⟩
  · obtain ⟨i0, hi⟩ := inf_of info31
    have HI := hid hi
    have HY : Hid (∀ L n, scanF s.data.toList 0 [] = (some L, n) → scanL s.data.toList = (some (L ++ [⟨7, [], s.size⟩]), 0)) := hid (fun L n h => by rw [scanL_yes (by simpa using hlong) h]; simp)
    have HN : Hid (∀ n, scanF s.data.toList 0 [] = (none, n) → scanL s.data.toList = (none, n)) := hid (fun n h => scanL_no (by simpa using hlong) h)
    obtain ⟨R, hR⟩ : ∃ R, scanF s.data.toList 0 [] = R := ⟨_, rfl⟩
    rw [hR] at HY HN
    have HR := hid hR
    have HW := hid hw
    generalize scanL s.data.toList = o at HY HN ⊢
    have HP0 := hid (pass_any s 0 w (Nat.zero_le _) (by omega))
    have hb0 := blk_le s.data.toList
    rw [len_data] at hb0
    have HR0 := hR
    rw [scanF_blk] at HR0
    rw [List.drop_zero, Nat.zero_add] at HP0
    rw [Nat.zero_add] at HR0
    have hd0 := head_blk s.data.toList
    rw [len_data] at hd0
    generalize blk s.data.toList = b0 at HP0 hb0 HR0 hd0
    have HR0 := hid HR0
    have HD0 := hid hd0
    clear hR hi hw hd0
    go_enter Tryd.func10, Tryd.ntmps10
    go_wp2_with (go_at_call 18; refine HP0.out.mono ?_; rintro e w1 ⟨rfl, h1⟩; replace h1 := h1.symm; subst h1)
    go_loopw [5, 6] (fun v x W => ∃ (k : Nat) (L : List Wd), k ≤ s.size ∧ x = .int .i64 (k : Int) ∧ L.length ≤ k ∧ Own wd 46 3 w.heap.size W v L ∧ Q w W ∧ Hid (scanF (s.data.toList.drop k) k L = R) ∧ Hid (k < s.size → (s.data.toList.drop k).headD 0 ≠ 32)) (fun _ x _ => s.size - (intOf x).toNat)
    case atStart => exact ⟨b0, [], hb0, rfl, by simp, own_nil w, Q.refl _, HR0, HD0⟩
    case round =>
      obtain ⟨k, L, hk, rfl, hL, hO, hQ, hr, hh⟩ := hrel
      have HO := hid hO
      have HQ := hid hQ
      clear hO hQ
      by_cases hlt : k < s.size
      · obtain ⟨T, eT, lT, zT⟩ := drop_letters s k
        have HF := hid (first_any T wr (HW.out.on HQ.out) (by omega) (by omega))
        have hne := drop_head s k hlt
        have h32 := hh.out hlt
        have hwl := word_len (s.data.toList.drop k)
        rw [List.length_drop, len_data] at hwl
        rw [lT] at HF
        have hr2 := hr.out
        have hbad := fun h => scanF_bad k L hne h32 h
        have hword := fun h => scanF_word k L hne h32 h
        rw [hr2] at hbad hword
        generalize wordF (s.data.toList.drop k) = q at HF hbad hword hwl
        obtain ⟨a, l, n⟩ := q
        simp only at hbad hword hwl
        unfold wv at HF
        simp only at HF
        clear hr2 hne h32 hr hh lT
        by_cases hn : n = 0
        · subst hn
          have HB := hid (HN.out k (hbad rfl))
          clear hbad hword
          go_wp2_with (go_at_call 19; refine HF.out.mono ?_; rintro e w1 ⟨rfl, q1⟩; have Q1 := hid q1; clear q1)
          go_ret3
          exact ⟨ScanRet.no HB.out rfl, HQ.out.trans Q1.out⟩
        · have hn' : ((n : Int) == 0) = false := by rw [beq_eq_false_iff_ne]; omega
          have hw2 := hword hn
          rw [List.drop_drop, scanF_blk, List.drop_drop] at hw2
          have HP := hid (fun W => pass_any s (k + n) W (by omega) (by omega))
          have hb := blk_le (s.data.toList.drop (k + n))
          rw [List.length_drop, len_data] at hb
          have hd2 := head_blk (s.data.toList.drop (k + n))
          rw [List.length_drop, len_data, List.drop_drop] at hd2
          generalize blk (s.data.toList.drop (k + n)) = bb at HP hb hw2 hd2
          have HW2 := hid hw2.symm
          have HD2 : Hid (k + n + bb < s.size → (s.data.toList.drop (k + n + bb)).headD 0 ≠ 32) := hid (fun h => hd2 (by omega))
          have HP2 : Hid (∀ W, Calls Tryd.prog 18 #[.string s, .int .i64 ((k : Int) + (n : Int))] W fun e w' => e = .returned (.int .i64 ((k + n + bb : Nat) : Int)) ∧ w' = W) := HP
          clear hbad hword hw2 HP hd2
          go_wp2_with (first | (go_at_call 19; refine HF.out.mono ?_; rintro e w1 ⟨rfl, q1⟩; have HO1 := hid (HO.out.on q1); have HQ1 := hid (HQ.out.trans q1); clear q1) | (at_builtin; refine wpList_append_own _ rfl _ _ 38 rfl w.heap.size 46 i0 (.agg #[.int .i64 0, .string ⟨#[]⟩, .int .i64 0]) 3 32 Tryd.underlying38 HI.out.1 HI.out.2.1 HI.out.2.2.1 HI.out.2.2.2 rfl (by decide) _ _ _ rfl (HO1.out.alloc _) _ 1 1 [.int .i64 (a : Int), .string ⟨l.toArray⟩, .int .i64 (k : Int)] rfl rfl (news_at _ [.int .i64 (a : Int), .string ⟨l.toArray⟩, .int .i64 (k : Int)] 46 _ (by simp)) (wd_one ⟨a, l, k⟩) (by unfold maxLen; omega) (by omega) (by have := HQ1.out.size; simp; omega) ?_))
          intro v3 w3 hown' hgrow _
          have HO3 := hid (own_snoc' (enc := wd) (x := ⟨a, l, k⟩) hown' rfl)
          have HQ3 : Hid (Q w w3) := Below.grown (HQ1.out.alloc _) hgrow (by have := HQ1.out.size; simp; omega) (HO1.out.blk)
          clear hown' hgrow HO1 HQ1 HO HQ
          go_wp2_with (go_at_call 18; refine (HP2.out _).mono ?_; rintro e w1 ⟨rfl, h1⟩; replace h1 := h1.symm; subst h1)
          go_roundw
          case rel => exact ⟨k + n + bb, _, by omega, rfl, by simp; omega, HO3.out, HQ3.out, HW2, HD2⟩
          case measure => simp [intOf]; omega
      · have hr2 := hr.out
        rw [List.drop_of_length_le (by simp; omega), scanF_nil] at hr2
        have HB := hid (HY.out L 0 hr2.symm)
        clear hr2 hr hh
        go_wp2_with (at_builtin; refine wpList_append_own _ rfl _ _ 38 rfl w.heap.size 46 i0 (.agg #[.int .i64 0, .string ⟨#[]⟩, .int .i64 0]) 3 32 Tryd.underlying38 HI.out.1 HI.out.2.1 HI.out.2.2.1 HI.out.2.2.2 rfl (by decide) _ _ _ rfl (HO.out.alloc _) _ 1 1 [.int .i64 7, .string ⟨#[]⟩, .int .i64 (s.size : Int)] rfl rfl (news_at _ [.int .i64 7, .string ⟨#[]⟩, .int .i64 (s.size : Int)] 46 _ (by simp)) (wd_one ⟨7, [], s.size⟩) (by unfold maxLen; omega) (by omega) (by have := HQ.out.size; simp; omega) ?_)
        intro v3 w3 hown' hgrow _
        have HO3 := hid (own_snoc' (enc := wd) (x := ⟨7, [], s.size⟩) hown' rfl)
        have HQ3 : Hid (Q w w3) := Below.grown (HQ.out.alloc _) hgrow (by have := HQ.out.size; simp; omega) (HO.out.blk)
        clear hown' hgrow HO HQ
        go_wp2_with fail
        go_ret3
        exact ⟨ScanRet.yes HB.out (HO3.out.sl wd_len (by decide)), HQ3.out⟩
end Go.Proofs.YtgheopdadfnilaaDoor
namespace Go.Proofs.YtgheopdadfnilaaDoor
open Go.RowKit
set_option linter.unusedVariables false
set_option linter.unusedSimpArgs false


/-- what a word is -/
structure WdOk (x : Wd) : Prop where
  k1 : 1 ≤ x.k
  k6 : x.k ≤ 6
  len : x.t.length ≤ 1000
  num : x.k = 1 → EE.nok x.t = true
  ref : x.k = 3 → EE.rok x.t = true
  err : x.k = 5 → EE.err x.t ≠ 0
  nam : x.k = 4 → x.t = truW ∨ x.t = flsW ∨ EE.nam x.t = decide (x.t.length ≤ 20)
theorem wdok_plain {k : Nat} {t : List UInt8} {a : Nat} (h : k = 2 ∨ k = 6) (hl : t.length ≤ 1000) : WdOk ⟨k, t, a⟩ :=
  ⟨by simp only; omega, by simp only; omega, hl, fun e => by simp only at e; omega, fun e => by simp only at e; omega, fun e => by simp only at e; omega, fun e => by simp only at e; omega⟩
theorem mtB_len {t : List UInt8} (h : V.mtB t = true) : t.length ≤ 1000 := by
  unfold V.mtB at h
  simp only [Bool.and_eq_true, decide_eq_true_eq] at h
  have := h.1
  omega
theorem errN_enL {e : Int} (h : e ∈ ([1, 2, 3, 4, 5, 6, 7] : List Int)) : errN (enL e) ≠ 0 ∧ (enL e).length ≤ 1000 := by
  simp only [List.mem_cons, List.mem_nil_iff, or_false] at h
  rcases h with rfl | rfl | rfl | rfl | rfl | rfl | rfl <;> decide
theorem wordF_ok {l : List UInt8} (h : (wordF l).2.2 ≠ 0) (hl : l.length ≤ 1000) (a : Nat) : WdOk ⟨(wordF l).1, (wordF l).2.1, a⟩ := by
  by_cases h34 : l.headD 0 = 34
  · have e : wordF l = quoW l := by unfold wordF; rw [if_pos h34]
    rw [e] at h ⊢
    unfold quoW at h ⊢
    cases hq : quoF (l.drop 1) [] 1 with
    | none => rw [hq] at h; exact absurd rfl h
    | some r =>
      obtain ⟨t, n⟩ := r
      rw [hq] at h
      unfold quoP at h ⊢
      simp only at h ⊢
      by_cases hm : V.mtB t = true
      · rw [if_pos hm]
        exact wdok_plain (.inl rfl) (mtB_len hm)
      · rw [if_neg hm] at h; exact absurd rfl h
  · by_cases h35 : l.headD 0 = 35
    · have e : wordF l = errW l := by unfold wordF; rw [if_neg h34, if_pos h35]
      rw [e] at h ⊢
      unfold errW at h ⊢
      cases hq : errF l with
      | none => rw [hq] at h; exact absurd rfl h
      | some e =>
        unfold errP
        have hm : e ∈ ([1, 2, 3, 4, 5, 6, 7] : List Int) := List.mem_of_find?_eq_some hq
        obtain ⟨g1, g2⟩ := errN_enL hm
        exact ⟨by simp, by simp, g2, fun e => by simp at e, fun e => by simp at e, fun _ => g1, fun e => by simp at e⟩
    · by_cases hj : joinB (l.headD 0) = true
      · have e : wordF l = joinW l := by unfold wordF; rw [if_neg h34, if_neg h35, if_pos hj]
        rw [e] at h ⊢
        unfold joinW at h ⊢
        split at h
        · exact absurd rfl h
        · rename_i hk
          rw [if_neg hk]
          have hlen : (l.takeWhile joinB).length ≤ 1000 := Nat.le_trans (List.takeWhile_prefix _).length_le hl
          have hne : 0 < (l.takeWhile joinB).length := by
            cases l with
            | nil => simp [joinB] at hj
            | cons c r =>
              simp only [List.headD_cons] at hj
              rw [List.takeWhile_cons, if_pos hj]
              simp
          generalize l.takeWhile joinB = t at hk hlen hne ⊢
          unfold kindJ at hk ⊢
          by_cases c1 : V.pf (V.parseO t) = true
          · rw [if_pos c1]
            exact ⟨by simp, by simp, hlen, fun _ => c1, fun e => by simp at e, fun e => by simp at e, fun e => by simp at e⟩
          · rw [if_neg c1] at hk ⊢
            by_cases c3 : refF t = true
            · rw [if_pos c3]
              exact ⟨by simp, by simp, hlen, fun e => by simp at e, fun _ => c3, fun e => by simp at e, fun e => by simp at e⟩
            · rw [if_neg c3] at hk ⊢
              by_cases c4 : t = tru ∨ t = fls ∨ (Lib.hasPrefix (l.dropWhile joinB) [40] = true ∧ allL t = true)
              · rw [if_pos c4]
                refine ⟨by simp, by simp, hlen, fun e => by simp at e, fun e => by simp at e, fun e => by simp at e, fun _ => ?_⟩
                rcases c4 with e | e | ⟨_, e⟩
                · exact .inl e
                · exact .inr (.inl e)
                · by_cases ht : t = truW ∨ t = flsW
                  · rcases ht with e' | e'
                    · exact .inl e'
                    · exact .inr (.inl e')
                  · refine .inr (.inr ?_)
                    show namF t = _
                    unfold namF
                    rw [decide_eq_true hne, decide_eq_true ht, show t.all let1 = true from e]
                    simp
              · rw [if_neg c4] at hk
                exact absurd rfl hk
      · have e : wordF l = sigW l := by unfold wordF; rw [if_neg h34, if_neg h35, if_neg hj]
        rw [e] at h ⊢
        unfold sigW at h ⊢
        cases hq : sigF l with
        | none => rw [hq] at h; exact absurd rfl h
        | some t =>
          unfold sigP
          have hm : t ∈ sgL := List.mem_of_find?_eq_some hq
          refine wdok_plain (.inr rfl) ?_
          have : ∀ t ∈ sgL, t.length ≤ 1000 := by decide
          exact this t hm
theorem scanG_ok : ∀ (f : Nat) (l : List UInt8) (a : Nat) (acc L : List Wd) (n : Nat), l.length ≤ 1000 → (∀ x ∈ acc, WdOk x) → scanG f l a acc = (some L, n) → (∀ x ∈ L, WdOk x) ∧ L.length ≤ acc.length + l.length := by
  intro f
  induction f with
  | zero =>
    intro l a acc L n hl hacc h
    unfold scanG at h
    cases h
    exact ⟨hacc, by omega⟩
  | succ f ih =>
    intro l a acc L n hl hacc h
    cases l with
    | nil => unfold scanG at h; cases h; exact ⟨hacc, by simp⟩
    | cons c r =>
      unfold scanG at h
      split at h
      · obtain ⟨h1, h2⟩ := ih _ _ _ _ _ (by simp at hl; omega) hacc h
        exact ⟨h1, by simp; omega⟩
      · split at h
        · cases h
        · rename_i hn
          have hlen : ((c :: r).drop (wordF (c :: r)).2.2).length + 1 ≤ (c :: r).length := by rw [List.length_drop]; simp; omega
          have hacc' : ∀ x ∈ acc ++ [(⟨(wordF (c :: r)).1, (wordF (c :: r)).2.1, a⟩ : Wd)], WdOk x := by
            intro x hx
            rw [List.mem_append] at hx
            rcases hx with hx | hx
            · exact hacc x hx
            · simp only [List.mem_singleton] at hx
              subst hx
              exact wordF_ok hn hl a
          obtain ⟨h1, h2⟩ := ih _ _ _ _ _ (by omega) hacc' h
          refine ⟨h1, ?_⟩
          rw [List.length_append] at h2
          simp only [List.length_singleton] at h2
          omega
/-- what the words of a text are -/
theorem scan_good {l : List UInt8} {L : List Wd} {n : Nat} (h : scanL l = (some L, n)) : 0 < L.length ∧ L.length ≤ 50000 ∧ Ends L ∧ Good EE L ∧ (∀ i, i < L.length → 1 ≤ kAt L i ∧ kAt L i ≤ 7) ∧ (∀ i, (tAt L i).length ≤ 1000) := by
  unfold scanL at h
  split at h
  · cases h
  · rename_i hlen
    split at h
    · rename_i Ls n' hs
      cases h
      obtain ⟨hok, hll⟩ := scanG_ok _ _ _ _ _ _ (by omega) (fun x hx => by cases hx) hs
      simp only [List.length_nil, Nat.zero_add] at hll
      have hat : ∀ i, i < Ls.length → ∃ x, WdOk x ∧ kAt (Ls ++ [⟨7, [], l.length⟩]) i = x.k ∧ tAt (Ls ++ [⟨7, [], l.length⟩]) i = x.t := by
        intro i hi
        refine ⟨Ls[i], hok _ (List.getElem_mem hi), ?_, ?_⟩
        · unfold kAt; rw [List.getD_eq_getElem?_getD, List.getElem?_append_left hi, List.getElem?_eq_getElem hi]; rfl
        · unfold tAt; rw [List.getD_eq_getElem?_getD, List.getElem?_append_left hi, List.getElem?_eq_getElem hi]; rfl
      have hend : ∀ i, Ls.length ≤ i → kAt (Ls ++ [⟨7, [], l.length⟩]) i = 7 ∧ tAt (Ls ++ [⟨7, [], l.length⟩]) i = [] := by
        intro i hi
        unfold kAt tAt
        rw [List.getD_eq_getElem?_getD, List.getElem?_append_right hi]
        rcases Nat.eq_zero_or_pos (i - Ls.length) with e | e
        · rw [e]; exact ⟨rfl, rfl⟩
        · rw [List.getElem?_eq_none (by simp; omega)]; exact ⟨rfl, rfl⟩
      have hL : (Ls ++ [(⟨7, [], l.length⟩ : Wd)]).length = Ls.length + 1 := by simp
      have low : ∀ i, kAt (Ls ++ [⟨7, [], l.length⟩]) i ≠ 7 → i < Ls.length := by
        intro i hk
        rcases Nat.lt_or_ge i Ls.length with h' | h'
        · exact h'
        · exact absurd (hend i h').1 hk
      refine ⟨by rw [hL]; omega, by rw [hL]; omega, fun i hi hk => by have := low i hk; omega, ⟨fun i _ hk => ?_, fun i _ hk => ?_, fun i _ hk => ?_, fun i _ hk => ?_⟩, fun i _ => ?_, fun i => ?_⟩
      · obtain ⟨x, hx, e1, e2⟩ := hat i (low i (by omega))
        rw [e2]; exact hx.num (by omega)
      · obtain ⟨x, hx, e1, e2⟩ := hat i (low i (by omega))
        rw [e2]; exact hx.ref (by omega)
      · obtain ⟨x, hx, e1, e2⟩ := hat i (low i (by omega))
        rw [e2]; exact hx.err (by omega)
      · obtain ⟨x, hx, e1, e2⟩ := hat i (low i (by omega))
        rw [e2]; exact hx.nam (by omega)
      · rcases Nat.lt_or_ge i Ls.length with h' | h'
        · obtain ⟨x, hx, e1, e2⟩ := hat i h'
          have := hx.k1
          have := hx.k6
          omega
        · have := (hend i h').1
          omega
      · rcases Nat.lt_or_ge i Ls.length with h' | h'
        · obtain ⟨x, hx, e1, e2⟩ := hat i h'
          rw [e2]; exact hx.len
        · rw [(hend i h').2]; simp
    · cases h
end Go.Proofs.YtgheopdadfnilaaDoor
namespace Go.Proofs.YtgheopdadfnilaaDoor
open Go.RowKit
set_option linter.unusedVariables false
set_option linter.unusedSimpArgs false


def lit0 : List UInt8 := [83, 85, 77, 40, 65, 49, 58, 36, 66, 50, 41, 32, 38, 32, 34, 97, 34, 34, 98, 34]
def words0 : List Wd := [⟨4, [83, 85, 77], 0⟩, ⟨6, [40], 3⟩, ⟨3, [65, 49], 4⟩, ⟨6, [58], 6⟩, ⟨3, [36, 66, 50], 7⟩, ⟨6, [41], 10⟩, ⟨6, [38], 12⟩, ⟨2, [97, 34, 98], 14⟩, ⟨7, [], 20⟩]
theorem lit_words : scanL lit0 = (some words0, 0) := by kernel_rfl
/-- a slice of words as the walks want it -/
structure Sw (W : World) (L : List Wd) (v : Value) (b off cap : Nat) : Prop where
  ev : v = .slice (some ⟨b, off, none⟩) L.length cap
  le : L.length ≤ cap
  mx : cap ≤ maxLen
  k : ∀ i (h : i < L.length), W.cell? ⟨b, off + i * 3, none⟩ = some (.int .i64 (L[i].k : Int))
  t : ∀ i (h : i < L.length), W.cell? ⟨b, off + i * 3 + 1, none⟩ = some (.string ⟨L[i].t.toArray⟩)
  p : ∀ i (h : i < L.length), W.cell? ⟨b, off + i * 3 + 2, none⟩ = some (.int .i64 (L[i].p : Int))
theorem sw_of {W : World} {v : Value} {L : List Wd} (h : Sl wd 3 W v L) (hl : 0 < L.length) : ∃ b off cap, Sw W L v b off cap := by
  obtain ⟨ao, cap, hv, h1, h2, h⟩ := h
  obtain ⟨b, off, rfl, hc⟩ := h hl
  exact ⟨b, off, cap, hv, h1, h2, fun i hi => hc i hi 0 _ rfl, fun i hi => hc i hi 1 _ rfl, fun i hi => hc i hi 2 _ rfl⟩
theorem ScanRet.some {L : List Wd} {n : Nat} {e : Ending} {W : World} (h : ScanRet (some L, n) e W) : ∃ v, e = .returned (.tuple #[v, .int .i64 0, .bool true]) ∧ Sl wd 3 W v L := h
theorem ScanRet.none {n : Nat} {e : Ending} {W : World} (h : ScanRet (none, n) e W) : e = .returned (.tuple #[.slice none 0 0, .int .i64 (n : Int), .bool false]) := h

theorem short_le (s : ByteArray) (n : Nat) : (if (n : Int) < (s.size : Int) then s.extract 0 n else s).size ≤ n := by
  split
  · simp; omega
  · omega

theorem Sw.on {W W' : World} {L : List Wd} {v : Value} {b off cap : Nat} (h : Sw W L v b off cap) (q : Q W W') : Sw W' L v b off cap :=
  ⟨h.ev, h.le, h.mx, fun i hi => (q.cell (World.block_lt_of_cell? W ⟨b, off + i * 3, none⟩ (h.k i hi))).trans (h.k i hi),
    fun i hi => (q.cell (World.block_lt_of_cell? W ⟨b, off + i * 3 + 1, none⟩ (h.t i hi))).trans (h.t i hi),
    fun i hi => (q.cell (World.block_lt_of_cell? W ⟨b, off + i * 3 + 2, none⟩ (h.p i hi))).trans (h.p i hi)⟩
theorem Sw.room {W : World} {L : List Wd} {v : Value} {b off cap : Nat} (h : Sw W L v b off cap) : L.length ≤ 9223372036854775807 := by
  have h1 := h.le
  have h2 := h.mx
  unfold maxLen at h2
  omega
theorem scanL_pos {l : List UInt8} {L : List Wd} {n : Nat} (h : scanL l = (some L, n)) : 0 < L.length := by
  unfold scanL at h
  split at h
  · cases h
  · split at h
    · cases h; simp
    · cases h
end Go.Proofs.YtgheopdadfnilaaDoor
namespace Go.Proofs.YtgheopdadfnilaaDoor
open Go.RowKit
set_option linter.unusedVariables false
set_option linter.unusedSimpArgs false


theorem Q.viax {p : Nat} {a b c : World} (h : Q a b) (k : Qx p b c) (hp : a.heap.size ≤ p) : Q a c :=
  ⟨k.os.trans h.os, k.tape.trans h.tape, k.output.trans h.output, Nat.le_trans h.size k.size, fun i hi => (k.block i (Nat.lt_of_lt_of_le hi h.size) (fun e => by have := Option.some.inj e; omega)).trans (Q.block h hi)⟩
/-- the program's answer, of what was read -/
def finR (L : List Wd) : Option (Ex × Nat) → Ex × Nat
  | none => (zeroE, 2)
  | some (x, j) => if kAt L j = 7 then (if fitB x then (x, 0) else (zeroE, 3)) else (zeroE, 2)
/-- what Parse answers -/
def RepR (W : World) (r : Ex × Nat) (e : Ending) (W' : World) : Prop := ∃ v, e = .returned (.tuple #[v, .int .i64 (r.2 : Int)]) ∧ Rd W' r.1 v ∧ Q W W'
theorem rd_zero (W : World) : Rd W zeroE (.agg #[.int .i64 0, .int .i64 0, .string ⟨#[]⟩, .bool false, .int .i64 0, .slice none 0 0, .slice none 0 0]) := Rdg.rd _ _ (rdg_zero (fun _ => True) W)

set_option maxRecDepth 100000 in
set_option maxHeartbeats 8000000 in
theorem pparse_scan (s : ByteArray) (W : World) (hw : Std W) (hs : s.size ≤ 100000) (n : Nat) (hn : scanL s.data.toList = (none, n)) :
    Calls Tryd.prog 5 #[.string s] W fun e W' => RepR W (zeroE, 2) e W' := by
  have HZ := hid (tb_new W (.int .i64 0) (.int .i64 0) (.string ⟨#[]⟩) (.bool false) (.int .i64 0) (.slice none 0 0) (.slice none 0 0) 30)
  have HSt := hid hw
  have h4 := hw.big
  have HSc := hid (fun W1 (g : Std W1) => scan_any s W1 g hs)
  have HN := hid hn
  clear hn
  clear hw
  go_enter Tryd.func5, Tryd.ntmps5
  go_wp2_with (go_at_call 10; refine (HSc.out _ (HSt.out.on (by repeat (first | with_reducible exact Q.refl _ | with_reducible refine Q.drewN ?_ _ | with_reducible refine Q.drew ?_ | with_reducible refine Q.alloc ?_ _ | with_reducible refine Q.setCell ?_ (by simp) _)))).mono ?_; rintro e w1 ⟨h1, q1⟩; rw [HN.out] at h1; have h1' := ScanRet.none h1; subst h1'; have Q1 : Hid (Q W w1) := hid (Q.trans (by repeat (first | with_reducible exact Q.refl _ | with_reducible refine Q.drewN ?_ _ | with_reducible refine Q.drew ?_ | with_reducible refine Q.alloc ?_ _ | with_reducible refine Q.setCell ?_ (by simp) _)) q1); have Z1 := hid (HZ.out.on (p := W.heap.size + 1) (Qx.of q1) (by omega)); clear q1 h1; have d0 := Z1.out.g0; have d1 := Z1.out.g1; have d2 := Z1.out.g2; have d3 := Z1.out.g3; have d4 := Z1.out.g4; have d5 := Z1.out.g5; have d6 := Z1.out.g6; have y0 := Z1.out.f 0; have y1 := Z1.out.f 1; have y2 := Z1.out.f 2; have y3 := Z1.out.f 3; have y4 := Z1.out.f 4; have y5 := Z1.out.f 5; have y6 := Z1.out.f 6)
  refine bodyPost_ret (v := .tuple #[.agg #[.int .i64 0, .int .i64 0, .string ⟨#[]⟩, .bool false, .int .i64 0, .slice none 0 0, .slice none 0 0], .int .i64 2]) (by simp [results, Tryd.results5, go_sem, d0, d1, d2, d3, d4, d5, d6]) rfl ?_
  exact ⟨_, rfl, rd_zero _, Q.setCell (Q.setCell (Q.setCell (Q.setCell (Q.setCell (Q.setCell (Q.setCell Q1.out (Nat.le_refl _) _) (Nat.le_refl _) _) (Nat.le_refl _) _) (Nat.le_refl _) _) (Nat.le_refl _) _) (Nat.le_refl _) _) (Nat.le_refl _) _⟩

theorem pt_new (w : World) (L : List Wd) (b off cap : Nat) (h : Sw w L (.slice (some ⟨b, off, none⟩) L.length cap) b off cap) (hpos : 0 < L.length) (hs : Std w) : PT (w.alloc (.cells #[.slice (some ⟨b, off, none⟩) L.length cap, .int .i64 0] 42)) w.heap.size L b off cap 0 := by
  have hb : b < w.heap.size := World.block_lt_of_cell? w ⟨b, off + 0 * 3, none⟩ (h.k 0 hpos)
  have h4 := hs.big
  have sv : Sv w L (.slice (some ⟨b, off, none⟩) L.length cap) b off cap := ⟨rfl, h.le, h.mx, h.k, h.t, h.p⟩
  refine ⟨?_, ?_, ?_, sv.on (p := w.heap.size) ((Qx.refl _ _).alloc _) (by omega), by omega, hs.on ((Q.refl _).alloc _), by omega⟩
  all_goals simp [World.cell?_alloc_new, World.frozen?_alloc_new]

set_option maxRecDepth 100000 in
set_option maxHeartbeats 8000000 in
theorem pparse_none (s : ByteArray) (W : World) (hw : Std W) (hs : s.size ≤ 100000) (L : List Wd) (n f : Nat) (hn : scanL s.data.toList = (some L, n)) (hpt : ptF EE L f 1 0 = some none) :
    Calls Tryd.prog 5 #[.string s] W fun e W' => RepR W (zeroE, 2) e W' := by
  have HZ := hid (tb_new W (.int .i64 0) (.int .i64 0) (.string ⟨#[]⟩) (.bool false) (.int .i64 0) (.slice none 0 0) (.slice none 0 0) 30)
  have HSt := hid hw
  have h4 := hw.big
  have HSc := hid (fun W1 (g : Std W1) => scan_any s W1 g hs)
  have HN := hid hn
  obtain ⟨hpos, hr, hE, hG, hK, hz⟩ := scan_good hn
  have HPr := hid (fun W1 p b off cap (g : PT W1 p L b off cap 0) => (pro_all L hE hG hK hr hz p b off cap f).1 1 0 _ W1 (by omega) (by omega) hpt g hpos)
  clear hn
  clear hw
  go_enter Tryd.func5, Tryd.ntmps5
  go_wp2_with (first | (go_at_call 10; refine (HSc.out _ (HSt.out.on (by repeat (first | with_reducible exact Q.refl _ | with_reducible refine Q.drewN ?_ _ | with_reducible refine Q.drew ?_ | with_reducible refine Q.alloc ?_ _ | with_reducible refine Q.setCell ?_ (by simp) _)))).mono ?_; rintro e w1 ⟨h1, q1⟩; rw [HN.out] at h1; obtain ⟨sv, h1', hsl⟩ := ScanRet.some h1; subst h1'; obtain ⟨b, off, cap, hsw⟩ := sw_of hsl hpos; obtain rfl := hsw.ev; have Q1 : Hid (Q W w1) := hid (Q.trans (by repeat (first | with_reducible exact Q.refl _ | with_reducible refine Q.drewN ?_ _ | with_reducible refine Q.drew ?_ | with_reducible refine Q.alloc ?_ _ | with_reducible refine Q.setCell ?_ (by simp) _)) q1); have hs1 : W.heap.size < w1.heap.size := (by have := q1.size; simp at this; omega); have Z1 := hid (HZ.out.on (p := W.heap.size + 1) (Qx.of q1) (by omega)); have P1 : Hid (PT (w1.alloc (.cells #[.slice (some ⟨b, off, none⟩) L.length cap, .int .i64 0] 42)) w1.heap.size L b off cap 0) := hid (pt_new w1 L b off cap hsw hpos (HSt.out.on Q1.out)); clear q1 h1 hsl hsw) | (go_at_call 11; refine (HPr.out _ _ _ _ _ P1.out).mono ?_; rintro e w2 h2; obtain ⟨k, m, t, bb, er, a1, l1, c1, a2, l2, c2, rfl, q2, r2⟩ := h2.inN; have Q2 := hid q2; have R2 := hid r2; clear h2 q2 r2; have Z2 := hid ((Z1.out.on (p := w1.heap.size) ((Qx.refl _ _).alloc _) (by omega)).on Q2.out (by omega)); have hs2 : w1.heap.size < w2.heap.size := (by have := Q2.out.size; simp at this; omega); have QW : Hid (Q W w2) := hid ((Q1.out.alloc _).viax Q2.out (by omega)); have Z3 := hid (Z2.out.on (p := w1.heap.size) ((Qx.refl _ _).alloc (.cells #[.int .i64 k, .int .i64 m, .string t, .bool bb, .int .i64 er, .slice a1 l1 c1, .slice a2 l2 c2] 30)) (by omega)); have d0 := Z3.out.g0; have d1 := Z3.out.g1; have d2 := Z3.out.g2; have d3 := Z3.out.g3; have d4 := Z3.out.g4; have d5 := Z3.out.g5; have d6 := Z3.out.g6; have y0 := Z3.out.f 0; have y1 := Z3.out.f 1; have y2 := Z3.out.f 2; have y3 := Z3.out.f 3; have y4 := Z3.out.f 4; have y5 := Z3.out.f 5; have y6 := Z3.out.f 6))
  refine bodyPost_ret (v := .tuple #[.agg #[.int .i64 0, .int .i64 0, .string ⟨#[]⟩, .bool false, .int .i64 0, .slice none 0 0, .slice none 0 0], .int .i64 2]) (by simp [results, Tryd.results5, go_sem, d0, d1, d2, d3, d4, d5, d6]) rfl ?_
  exact ⟨_, rfl, rd_zero _, Q.setCell (Q.setCell (Q.setCell (Q.setCell (Q.setCell (Q.setCell (Q.setCell (QW.out.alloc _) (Nat.le_refl _) _) (Nat.le_refl _) _) (Nat.le_refl _) _) (Nat.le_refl _) _) (Nat.le_refl _) _) (Nat.le_refl _) _) (Nat.le_refl _) _⟩

set_option maxRecDepth 100000 in
set_option maxHeartbeats 8000000 in
theorem pparse_end (s : ByteArray) (W : World) (hw : Std W) (hs : s.size ≤ 100000) (L : List Wd) (n f : Nat) (hn : scanL s.data.toList = (some L, n)) (x : Ex) (j : Nat) (hpt : ptF EE L f 1 0 = some (some (x, j))) (hk : kAt L j ≠ 7) :
    Calls Tryd.prog 5 #[.string s] W fun e W' => RepR W (zeroE, 2) e W' := by
  have HZ := hid (tb_new W (.int .i64 0) (.int .i64 0) (.string ⟨#[]⟩) (.bool false) (.int .i64 0) (.slice none 0 0) (.slice none 0 0) 30)
  have HSt := hid hw
  have h4 := hw.big
  have HSc := hid (fun W1 (g : Std W1) => scan_any s W1 g hs)
  have HN := hid hn
  obtain ⟨hpos, hr, hE, hG, hK, hz⟩ := scan_good hn
  have HPr := hid (fun W1 p b off cap (g : PT W1 p L b off cap 0) => (pro_all L hE hG hK hr hz p b off cap f).1 1 0 _ W1 (by omega) (by omega) hpt g hpos)
  have hjl := ((pfwd_all EE L hE f).1 _ _ _ _ (by omega) hpos hpt).2
  have HWd := hid (fun W1 p b off cap (g : PT W1 p L b off cap j) => word_any W1 p L.length b off cap j _ _ _ (g.kw hjl) hjl hr)
  obtain ⟨T2, hT2⟩ : ∃ T2 : ByteArray, T2 = ⟨(tAt L j).toArray⟩ := ⟨_, rfl⟩
  rw [← hT2] at HWd
  generalize ((L.getD j ⟨7, [], 0⟩).p : Int) = q at HWd
  have F0 : ∀ (k : Int) (w : World), (Instr.field 46 (.agg #[.int .i64 k, .string T2, .int .i64 q]) 0).run Tryd.prog w = .ok (.int .i64 k) w := fun k w => fd0 _ _ _ w
  have HF := hid (fun W1 v (h : Rd W1 x v) => fits_any x v W1 h)
  clear hn hT2
  have k7 : ((kAt L j : Int) == 7) = false := by rw [beq_eq_false_iff_ne]; omega
  have k7b : ¬ (kAt L j : Int) = 7 := by omega
  generalize (kAt L j : Int) = kk at HWd k7 k7b
  clear hk
  clear hw
  go_enter Tryd.func5, Tryd.ntmps5
  go_wp2_with (first | (go_at_call 12; refine (HWd.out _ _ _ _ _ P2.out).mono ?_; rintro e w3 ⟨rfl, q3⟩; have Q3 : Hid (Q w2 w3) := hid (((Q.refl _).alloc _).trans q3); have hs3 : w2.heap.size < w3.heap.size := (by have := q3.size; simp at this; omega); have X3 := hid (X2.out.on (p := w1.heap.size) (Qx.of q3) (by omega)); have Z3 := hid (Z2.out.on (p := w1.heap.size) (Qx.of Q3.out) (by omega)); clear q3; have d0 := Z3.out.g0; have d1 := Z3.out.g1; have d2 := Z3.out.g2; have d3 := Z3.out.g3; have d4 := Z3.out.g4; have d5 := Z3.out.g5; have d6 := Z3.out.g6; have y0 := Z3.out.f 0; have y1 := Z3.out.f 1; have y2 := Z3.out.f 2; have y3 := Z3.out.f 3; have y4 := Z3.out.f 4; have y5 := Z3.out.f 5; have y6 := Z3.out.f 6) | (go_at_call 10; refine (HSc.out _ (HSt.out.on (by repeat (first | with_reducible exact Q.refl _ | with_reducible refine Q.drewN ?_ _ | with_reducible refine Q.drew ?_ | with_reducible refine Q.alloc ?_ _ | with_reducible refine Q.setCell ?_ (by simp) _)))).mono ?_; rintro e w1 ⟨h1, q1⟩; rw [HN.out] at h1; obtain ⟨sv, h1', hsl⟩ := ScanRet.some h1; subst h1'; obtain ⟨b, off, cap, hsw⟩ := sw_of hsl hpos; obtain rfl := hsw.ev; have Q1 : Hid (Q W w1) := hid (Q.trans (by repeat (first | with_reducible exact Q.refl _ | with_reducible refine Q.drewN ?_ _ | with_reducible refine Q.drew ?_ | with_reducible refine Q.alloc ?_ _ | with_reducible refine Q.setCell ?_ (by simp) _)) q1); have hs1 : W.heap.size < w1.heap.size := (by have := q1.size; simp at this; omega); have Z1 := hid (HZ.out.on (p := W.heap.size + 1) (Qx.of q1) (by omega)); have P1 : Hid (PT (w1.alloc (.cells #[.slice (some ⟨b, off, none⟩) L.length cap, .int .i64 0] 42)) w1.heap.size L b off cap 0) := hid (pt_new w1 L b off cap hsw hpos (HSt.out.on Q1.out)); clear q1 h1 hsl hsw) | (go_at_call 11; refine (HPr.out _ _ _ _ _ P1.out).mono ?_; rintro e w2 h2; obtain ⟨k, m, t, bb, er, a1, l1, c1, a2, l2, c2, rfl, q2, r2⟩ := h2.inY; have Q2 := hid q2; have R2 := hid r2; clear h2 q2 r2; have Z2 := hid ((Z1.out.on (p := w1.heap.size) ((Qx.refl _ _).alloc _) (by omega)).on Q2.out (by omega)); have hs2 : w1.heap.size < w2.heap.size := (by have := Q2.out.size; simp at this; omega); have QW : Hid (Q W w2) := hid ((Q1.out.alloc _).viax Q2.out (by omega)); have P2 := hid (R2.out.2.on ((Q.refl _).alloc (.cells #[.int .i64 k, .int .i64 m, .string t, .bool bb, .int .i64 er, .slice a1 l1 c1, .slice a2 l2 c2] 30))); have X2 := hid (tb_new w2 (.int .i64 k) (.int .i64 m) (.string t) (.bool bb) (.int .i64 er) (.slice a1 l1 c1) (.slice a2 l2 c2) 30)))
  refine bodyPost_ret (v := .tuple #[.agg #[.int .i64 0, .int .i64 0, .string ⟨#[]⟩, .bool false, .int .i64 0, .slice none 0 0, .slice none 0 0], .int .i64 2]) (by simp [results, Tryd.results5, go_sem, d0, d1, d2, d3, d4, d5, d6]) rfl ?_
  exact ⟨_, rfl, rd_zero _, Q.setCell (Q.setCell (Q.setCell (Q.setCell (Q.setCell (Q.setCell (Q.setCell (QW.out.trans Q3.out) (Nat.le_refl _) _) (Nat.le_refl _) _) (Nat.le_refl _) _) (Nat.le_refl _) _) (Nat.le_refl _) _) (Nat.le_refl _) _) (Nat.le_refl _) _⟩

set_option maxRecDepth 100000 in
set_option maxHeartbeats 8000000 in
theorem pparse_deep (s : ByteArray) (W : World) (hw : Std W) (hs : s.size ≤ 100000) (L : List Wd) (n f : Nat) (hn : scanL s.data.toList = (some L, n)) (x : Ex) (j : Nat) (hpt : ptF EE L f 1 0 = some (some (x, j))) (hk : kAt L j = 7) (hf : fitB x = false) :
    Calls Tryd.prog 5 #[.string s] W fun e W' => RepR W (zeroE, 3) e W' := by
  have HZ := hid (tb_new W (.int .i64 0) (.int .i64 0) (.string ⟨#[]⟩) (.bool false) (.int .i64 0) (.slice none 0 0) (.slice none 0 0) 30)
  have HSt := hid hw
  have h4 := hw.big
  have HSc := hid (fun W1 (g : Std W1) => scan_any s W1 g hs)
  have HN := hid hn
  obtain ⟨hpos, hr, hE, hG, hK, hz⟩ := scan_good hn
  have HPr := hid (fun W1 p b off cap (g : PT W1 p L b off cap 0) => (pro_all L hE hG hK hr hz p b off cap f).1 1 0 _ W1 (by omega) (by omega) hpt g hpos)
  have hjl := ((pfwd_all EE L hE f).1 _ _ _ _ (by omega) hpos hpt).2
  have HWd := hid (fun W1 p b off cap (g : PT W1 p L b off cap j) => word_any W1 p L.length b off cap j _ _ _ (g.kw hjl) hjl hr)
  obtain ⟨T2, hT2⟩ : ∃ T2 : ByteArray, T2 = ⟨(tAt L j).toArray⟩ := ⟨_, rfl⟩
  rw [← hT2] at HWd
  generalize ((L.getD j ⟨7, [], 0⟩).p : Int) = q at HWd
  have F0 : ∀ (k : Int) (w : World), (Instr.field 46 (.agg #[.int .i64 k, .string T2, .int .i64 q]) 0).run Tryd.prog w = .ok (.int .i64 k) w := fun k w => fd0 _ _ _ w
  have HF := hid (fun W1 v (h : Rd W1 x v) => fits_any x v W1 h)
  clear hn hT2
  rw [hk] at HWd
  clear hk
  rw [hf] at HF
  clear hw
  go_enter Tryd.func5, Tryd.ntmps5
  go_wp2_with (first | (go_at_call 13; refine (HF.out _ _ (Rd.on Q3.out _ _ (Rdg.rd _ _ R2.out.1))).mono ?_; rintro e w4 ⟨rfl, q4⟩; have Q4 := hid q4; have X4 := hid (X3.out.on (p := w1.heap.size) (Qx.of q4) (by omega)); have Z4 := hid (Z3.out.on (p := w1.heap.size) (Qx.of q4) (by omega)); have hs4 : w3.heap.size ≤ w4.heap.size := q4.size; clear q4; have d0 := Z4.out.g0; have d1 := Z4.out.g1; have d2 := Z4.out.g2; have d3 := Z4.out.g3; have d4 := Z4.out.g4; have d5 := Z4.out.g5; have d6 := Z4.out.g6; have y0 := Z4.out.f 0; have y1 := Z4.out.f 1; have y2 := Z4.out.f 2; have y3 := Z4.out.f 3; have y4 := Z4.out.f 4; have y5 := Z4.out.f 5; have y6 := Z4.out.f 6) | (go_at_call 12; refine (HWd.out _ _ _ _ _ P2.out).mono ?_; rintro e w3 ⟨rfl, q3⟩; have Q3 : Hid (Q w2 w3) := hid (((Q.refl _).alloc _).trans q3); have hs3 : w2.heap.size < w3.heap.size := (by have := q3.size; simp at this; omega); have X3 := hid (X2.out.on (p := w1.heap.size) (Qx.of q3) (by omega)); have Z3 := hid (Z2.out.on (p := w1.heap.size) (Qx.of Q3.out) (by omega)); clear q3; have n0 := X3.out.g0; have n1 := X3.out.g1; have n2 := X3.out.g2; have n3 := X3.out.g3; have n4 := X3.out.g4; have n5 := X3.out.g5; have n6 := X3.out.g6) | (go_at_call 10; refine (HSc.out _ (HSt.out.on (by repeat (first | with_reducible exact Q.refl _ | with_reducible refine Q.drewN ?_ _ | with_reducible refine Q.drew ?_ | with_reducible refine Q.alloc ?_ _ | with_reducible refine Q.setCell ?_ (by simp) _)))).mono ?_; rintro e w1 ⟨h1, q1⟩; rw [HN.out] at h1; obtain ⟨sv, h1', hsl⟩ := ScanRet.some h1; subst h1'; obtain ⟨b, off, cap, hsw⟩ := sw_of hsl hpos; obtain rfl := hsw.ev; have Q1 : Hid (Q W w1) := hid (Q.trans (by repeat (first | with_reducible exact Q.refl _ | with_reducible refine Q.drewN ?_ _ | with_reducible refine Q.drew ?_ | with_reducible refine Q.alloc ?_ _ | with_reducible refine Q.setCell ?_ (by simp) _)) q1); have hs1 : W.heap.size < w1.heap.size := (by have := q1.size; simp at this; omega); have Z1 := hid (HZ.out.on (p := W.heap.size + 1) (Qx.of q1) (by omega)); have P1 : Hid (PT (w1.alloc (.cells #[.slice (some ⟨b, off, none⟩) L.length cap, .int .i64 0] 42)) w1.heap.size L b off cap 0) := hid (pt_new w1 L b off cap hsw hpos (HSt.out.on Q1.out)); clear q1 h1 hsl hsw) | (go_at_call 11; refine (HPr.out _ _ _ _ _ P1.out).mono ?_; rintro e w2 h2; obtain ⟨k, m, t, bb, er, a1, l1, c1, a2, l2, c2, rfl, q2, r2⟩ := h2.inY; have Q2 := hid q2; have R2 := hid r2; clear h2 q2 r2; have Z2 := hid ((Z1.out.on (p := w1.heap.size) ((Qx.refl _ _).alloc _) (by omega)).on Q2.out (by omega)); have hs2 : w1.heap.size < w2.heap.size := (by have := Q2.out.size; simp at this; omega); have QW : Hid (Q W w2) := hid ((Q1.out.alloc _).viax Q2.out (by omega)); have P2 := hid (R2.out.2.on ((Q.refl _).alloc (.cells #[.int .i64 k, .int .i64 m, .string t, .bool bb, .int .i64 er, .slice a1 l1 c1, .slice a2 l2 c2] 30))); have X2 := hid (tb_new w2 (.int .i64 k) (.int .i64 m) (.string t) (.bool bb) (.int .i64 er) (.slice a1 l1 c1) (.slice a2 l2 c2) 30)))
  refine bodyPost_ret (v := .tuple #[.agg #[.int .i64 0, .int .i64 0, .string ⟨#[]⟩, .bool false, .int .i64 0, .slice none 0 0, .slice none 0 0], .int .i64 3]) (by simp [results, Tryd.results5, go_sem, d0, d1, d2, d3, d4, d5, d6]) rfl ?_
  exact ⟨_, rfl, rd_zero _, Q.setCell (Q.setCell (Q.setCell (Q.setCell (Q.setCell (Q.setCell (Q.setCell ((QW.out.trans Q3.out).trans Q4.out) (Nat.le_refl _) _) (Nat.le_refl _) _) (Nat.le_refl _) _) (Nat.le_refl _) _) (Nat.le_refl _) _) (Nat.le_refl _) _) (Nat.le_refl _) _⟩

set_option maxRecDepth 100000 in
set_option maxHeartbeats 8000000 in
theorem pparse_ok (s : ByteArray) (W : World) (hw : Std W) (hs : s.size ≤ 100000) (L : List Wd) (n f : Nat) (hn : scanL s.data.toList = (some L, n)) (x : Ex) (j : Nat) (hpt : ptF EE L f 1 0 = some (some (x, j))) (hk : kAt L j = 7) (hf : fitB x = true) :
    Calls Tryd.prog 5 #[.string s] W fun e W' => RepR W (x, 0) e W' := by
  have HZ := hid (tb_new W (.int .i64 0) (.int .i64 0) (.string ⟨#[]⟩) (.bool false) (.int .i64 0) (.slice none 0 0) (.slice none 0 0) 30)
  have HSt := hid hw
  have h4 := hw.big
  have HSc := hid (fun W1 (g : Std W1) => scan_any s W1 g hs)
  have HN := hid hn
  obtain ⟨hpos, hr, hE, hG, hK, hz⟩ := scan_good hn
  have HPr := hid (fun W1 p b off cap (g : PT W1 p L b off cap 0) => (pro_all L hE hG hK hr hz p b off cap f).1 1 0 _ W1 (by omega) (by omega) hpt g hpos)
  have hjl := ((pfwd_all EE L hE f).1 _ _ _ _ (by omega) hpos hpt).2
  have HWd := hid (fun W1 p b off cap (g : PT W1 p L b off cap j) => word_any W1 p L.length b off cap j _ _ _ (g.kw hjl) hjl hr)
  obtain ⟨T2, hT2⟩ : ∃ T2 : ByteArray, T2 = ⟨(tAt L j).toArray⟩ := ⟨_, rfl⟩
  rw [← hT2] at HWd
  generalize ((L.getD j ⟨7, [], 0⟩).p : Int) = q at HWd
  have F0 : ∀ (k : Int) (w : World), (Instr.field 46 (.agg #[.int .i64 k, .string T2, .int .i64 q]) 0).run Tryd.prog w = .ok (.int .i64 k) w := fun k w => fd0 _ _ _ w
  have HF := hid (fun W1 v (h : Rd W1 x v) => fits_any x v W1 h)
  clear hn hT2
  rw [hk] at HWd
  clear hk
  rw [hf] at HF
  clear hw
  go_enter Tryd.func5, Tryd.ntmps5
  go_wp2_with (first | (go_at_call 13; refine (HF.out _ _ (Rd.on Q3.out _ _ (Rdg.rd _ _ R2.out.1))).mono ?_; rintro e w4 ⟨rfl, q4⟩; have Q4 := hid q4; have X4 := hid (X3.out.on (p := w1.heap.size) (Qx.of q4) (by omega)); have Z4 := hid (Z3.out.on (p := w1.heap.size) (Qx.of q4) (by omega)); have hs4 : w3.heap.size ≤ w4.heap.size := q4.size; clear q4; have d0 := Z4.out.g0; have d1 := Z4.out.g1; have d2 := Z4.out.g2; have d3 := Z4.out.g3; have d4 := Z4.out.g4; have d5 := Z4.out.g5; have d6 := Z4.out.g6; have y0 := Z4.out.f 0; have y1 := Z4.out.f 1; have y2 := Z4.out.f 2; have y3 := Z4.out.f 3; have y4 := Z4.out.f 4; have y5 := Z4.out.f 5; have y6 := Z4.out.f 6; have r0 := X4.out.g0; have r1 := X4.out.g1; have r2 := X4.out.g2; have r3 := X4.out.g3; have r4 := X4.out.g4; have r5 := X4.out.g5; have r6 := X4.out.g6) | (go_at_call 12; refine (HWd.out _ _ _ _ _ P2.out).mono ?_; rintro e w3 ⟨rfl, q3⟩; have Q3 : Hid (Q w2 w3) := hid (((Q.refl _).alloc _).trans q3); have hs3 : w2.heap.size < w3.heap.size := (by have := q3.size; simp at this; omega); have X3 := hid (X2.out.on (p := w1.heap.size) (Qx.of q3) (by omega)); have Z3 := hid (Z2.out.on (p := w1.heap.size) (Qx.of Q3.out) (by omega)); clear q3; have n0 := X3.out.g0; have n1 := X3.out.g1; have n2 := X3.out.g2; have n3 := X3.out.g3; have n4 := X3.out.g4; have n5 := X3.out.g5; have n6 := X3.out.g6) | (go_at_call 10; refine (HSc.out _ (HSt.out.on (by repeat (first | with_reducible exact Q.refl _ | with_reducible refine Q.drewN ?_ _ | with_reducible refine Q.drew ?_ | with_reducible refine Q.alloc ?_ _ | with_reducible refine Q.setCell ?_ (by simp) _)))).mono ?_; rintro e w1 ⟨h1, q1⟩; rw [HN.out] at h1; obtain ⟨sv, h1', hsl⟩ := ScanRet.some h1; subst h1'; obtain ⟨b, off, cap, hsw⟩ := sw_of hsl hpos; obtain rfl := hsw.ev; have Q1 : Hid (Q W w1) := hid (Q.trans (by repeat (first | with_reducible exact Q.refl _ | with_reducible refine Q.drewN ?_ _ | with_reducible refine Q.drew ?_ | with_reducible refine Q.alloc ?_ _ | with_reducible refine Q.setCell ?_ (by simp) _)) q1); have hs1 : W.heap.size < w1.heap.size := (by have := q1.size; simp at this; omega); have Z1 := hid (HZ.out.on (p := W.heap.size + 1) (Qx.of q1) (by omega)); have P1 : Hid (PT (w1.alloc (.cells #[.slice (some ⟨b, off, none⟩) L.length cap, .int .i64 0] 42)) w1.heap.size L b off cap 0) := hid (pt_new w1 L b off cap hsw hpos (HSt.out.on Q1.out)); clear q1 h1 hsl hsw) | (go_at_call 11; refine (HPr.out _ _ _ _ _ P1.out).mono ?_; rintro e w2 h2; obtain ⟨k, m, t, bb, er, a1, l1, c1, a2, l2, c2, rfl, q2, r2⟩ := h2.inY; have Q2 := hid q2; have R2 := hid r2; clear h2 q2 r2; have Z2 := hid ((Z1.out.on (p := w1.heap.size) ((Qx.refl _ _).alloc _) (by omega)).on Q2.out (by omega)); have hs2 : w1.heap.size < w2.heap.size := (by have := Q2.out.size; simp at this; omega); have QW : Hid (Q W w2) := hid ((Q1.out.alloc _).viax Q2.out (by omega)); have P2 := hid (R2.out.2.on ((Q.refl _).alloc (.cells #[.int .i64 k, .int .i64 m, .string t, .bool bb, .int .i64 er, .slice a1 l1 c1, .slice a2 l2 c2] 30))); have X2 := hid (tb_new w2 (.int .i64 k) (.int .i64 m) (.string t) (.bool bb) (.int .i64 er) (.slice a1 l1 c1) (.slice a2 l2 c2) 30)))
  refine bodyPost_ret (v := .tuple #[.agg #[.int .i64 k, .int .i64 m, .string t, .bool bb, .int .i64 er, .slice a1 l1 c1, .slice a2 l2 c2], .int .i64 0]) (by simp [results, Tryd.results5, go_sem, d0, d1, d2, d3, d4, d5, d6]) rfl ?_
  have QF : ∀ V : World, Qx W.heap.size w4 V → Rd V x (.agg #[.int .i64 k, .int .i64 m, .string t, .bool bb, .int .i64 er, .slice a1 l1 c1, .slice a2 l2 c2]) := fun V q => Rdg.rd _ _ (Rdg.on q (fun b hb => by simp at hb; omega) _ _ (Rdg.on (Qx.of (p := W.heap.size) (Q3.out.trans Q4.out)) (fun b hb => by simp at hb; omega) _ _ R2.out.1))
  exact ⟨_, rfl, QF _ ((((((((Qx.refl _ _).own _ _).own _ _).own _ _).own _ _).own _ _).own _ _).own _ _), Q.setCell (Q.setCell (Q.setCell (Q.setCell (Q.setCell (Q.setCell (Q.setCell ((QW.out.trans Q3.out).trans Q4.out) (Nat.le_refl _) _) (Nat.le_refl _) _) (Nat.le_refl _) _) (Nat.le_refl _) _) (Nat.le_refl _) _) (Nat.le_refl _) _) (Nat.le_refl _) _⟩

/-- the program's Parse, of any text -/
theorem pparse_any (s : ByteArray) (W : World) (hw : Std W) (hs : s.size ≤ 100000) (L : List Wd) (n f : Nat) (o : Option (Ex × Nat)) (hn : scanL s.data.toList = (some L, n)) (hpt : ptF EE L f 1 0 = some o) :
    Calls Tryd.prog 5 #[.string s] W fun e W' => RepR W (finR L o) e W' := by
  cases o with
  | none => exact pparse_none s W hw hs L n f hn hpt
  | some r =>
    obtain ⟨x, j⟩ := r
    unfold finR
    simp only
    by_cases hk : kAt L j = 7
    · rw [if_pos hk]
      cases hf : fitB x
      · exact pparse_deep s W hw hs L n f hn x j hpt hk hf
      · exact pparse_ok s W hw hs L n f hn x j hpt hk hf
    · rw [if_neg hk]
      exact pparse_end s W hw hs L n f hn x j hpt hk
end Go.Proofs.YtgheopdadfnilaaDoor
namespace Go.Proofs.YtgheopdadfnilaaDoor
open Go.RowKit
set_option linter.unusedVariables false
set_option linter.unusedSimpArgs false


/-- the formula that the statements begin with -/
def lit7 : List UInt8 := [45, 65, 49, 43, 83, 85, 77, 40, 50, 44, 66, 49, 58, 66, 51, 41, 42, 51]
def words7 : List Wd := [⟨6, [45], 0⟩, ⟨3, [65, 49], 1⟩, ⟨6, [43], 3⟩, ⟨4, [83, 85, 77], 4⟩, ⟨6, [40], 7⟩, ⟨1, [50], 8⟩, ⟨6, [44], 9⟩, ⟨3, [66, 49], 10⟩, ⟨6, [58], 12⟩, ⟨3, [66, 51], 13⟩, ⟨6, [41], 15⟩, ⟨6, [42], 16⟩, ⟨1, [51], 17⟩, ⟨7, [], 18⟩]
theorem lit7_words : scanL lit7 = (some words7, 0) := by kernel_rfl
def tree7 : Ex := binE [43] (negE (refE ([], 0, 0, false, false))) (binE [42] (callE [83, 85, 77] [numE 20000, rangeE ([], 0, 1, false, false) ([], 2, 1, false, false)]) (numE 30000))
theorem lit7_tree : ptF EE words7 40 1 0 = some (some (tree7, 13)) := by kernel_rfl
theorem tree7_nodes : nodes tree7 = 8 := by decide
theorem tree7_fits : fitB tree7 = true := by decide
theorem lit7_fin : finR words7 (some (tree7, 13)) = (tree7, 0) := by
  unfold finR
  simp only
  rw [if_pos (by decide), tree7_fits]
  rfl
theorem parse7_any (W : World) (hw : Std W) : Calls Tryd.prog 5 #[.string ⟨lit7.toArray⟩] W fun e W' => RepR W (tree7, 0) e W' := by
  have h := pparse_any ⟨lit7.toArray⟩ W hw (by decide) words7 0 40 _ lit7_words lit7_tree
  rw [lit7_fin] at h
  exact h
end Go.Proofs.YtgheopdadfnilaaDoor
namespace Go.Proofs.YtgheopdadfnilaaDoor
open Go.RowKit
set_option linter.unusedVariables false
set_option linter.unusedSimpArgs false

theorem toL' (s : ByteArray) : s.toList = s.data.toList := Lib.toList_data s
def eqRf : List Rf → List Rf → Bool
  | [], [] => true
  | x :: l, y :: l' => decide (x = y) && eqRf l l'
  | [], _ :: _ => false
  | _ :: _, [] => false
theorem eqRf_iff : ∀ {l l' : List Rf}, eqRf l l' = true ↔ l = l'
  | [], [] => by simp [eqRf]
  | [], _ :: _ => by simp [eqRf]
  | _ :: _, [] => by simp [eqRf]
  | x :: l, y :: l' => by
    simp only [eqRf, Bool.and_eq_true, decide_eq_true_eq, eqRf_iff, List.cons.injEq]
theorem eqRf_len {l l' : List Rf} (h : l.length ≠ l'.length) : eqRf l l' = false := by
  cases e : eqRf l l' with
  | false => rfl
  | true => exact absurd (congrArg List.length (eqRf_iff.1 e)) h
theorem eqRf_dec (l l' : List Rf) : eqRf l l' = decide (l = l') := by
  cases e : eqRf l l' with
  | false => exact (decide_eq_false (fun h => by rw [eqRf_iff.2 h] at e; cases e)).symm
  | true => exact (decide_eq_true (eqRf_iff.1 e)).symm

theorem neq59 (xs : List UInt8) (xr xc : Int) (xa xb : Bool) (ys : List UInt8) (yr yc : Int) (ya yb : Bool) (w : World) : Sem.run Tryd.prog (binOp .neq 49 (.agg #[.string ⟨xs.toArray⟩, .int .i64 xr, .int .i64 xc, .bool xa, .bool xb]) (.agg #[.string ⟨ys.toArray⟩, .int .i64 yr, .int .i64 yc, .bool ya, .bool yb])) w = .ok (.bool (!(decide (((xs, xr, xc, xa, xb) : Rf) = (ys, yr, yc, ya, yb))))) w := by
  have u2 := Tryd.underlying2
  have u4 := Tryd.underlying4
  have u9 := Tryd.underlying9
  have hS : Tryd.prog.underlying 49 = some (.struct (Tryd.prog.fieldsOf 49)) := by kernel_rfl
  have hp : Tryd.prog.stoodInHeld 49 = false := by kernel_rfl
  have hf : (Tryd.prog.fieldsOf 49).toList.map (fun f => (f.name == "_", f.type, f.offset)) = [(false, 9, 0), (false, 2, 1), (false, 2, 2), (false, 4, 3), (false, 4, 4)] := by kernel_rfl
  have q1 : ∀ a b c d e : Value, (part 9 #[a, b, c, d, e] 0).run Tryd.prog w = .ok a w := fun _ _ _ _ _ => by kernel_rfl
  have q2 : ∀ a b c d e : Value, (part 2 #[a, b, c, d, e] 1).run Tryd.prog w = .ok b w := fun _ _ _ _ _ => by kernel_rfl
  have q3 : ∀ a b c d e : Value, (part 2 #[a, b, c, d, e] 2).run Tryd.prog w = .ok c w := fun _ _ _ _ _ => by kernel_rfl
  have q4 : ∀ a b c d e : Value, (part 4 #[a, b, c, d, e] 3).run Tryd.prog w = .ok d w := fun _ _ _ _ _ => by kernel_rfl
  have q5 : ∀ a b c d e : Value, (part 4 #[a, b, c, d, e] 4).run Tryd.prog w = .ok e w := fun _ _ _ _ _ => by kernel_rfl
  have e1 : (Op.equalIn 9999 9 (.string ⟨xs.toArray⟩) (.string ⟨ys.toArray⟩)).run Tryd.prog w = .ok (xs == ys) w := by
    have := run_equalIn_string (P := Tryd.prog) w 9998 9 ⟨xs.toArray⟩ ⟨ys.toArray⟩ u9
    rw [toL', toL'] at this
    exact this
  have e2 : (Op.equalIn 9999 2 (.int .i64 xr) (.int .i64 yr)).run Tryd.prog w = .ok (xr == yr) w := run_equalIn_int (P := Tryd.prog) w 9998 2 .i64 .i64 xr yr u2
  have e3 : (Op.equalIn 9999 2 (.int .i64 xc) (.int .i64 yc)).run Tryd.prog w = .ok (xc == yc) w := run_equalIn_int (P := Tryd.prog) w 9998 2 .i64 .i64 xc yc u2
  have e4 : (Op.equalIn 9999 4 (.bool xa) (.bool ya)).run Tryd.prog w = .ok (xa == ya) w := run_equalIn_bool' (P := Tryd.prog) w 9998 4 xa ya u4
  have e5 : (Op.equalIn 9999 4 (.bool xb) (.bool yb)).run Tryd.prog w = .ok (xb == yb) w := run_equalIn_bool' (P := Tryd.prog) w 9998 4 xb yb u4
  rw [run_neq_struct, show (10000 : Nat) = 9999 + 1 from rfl, run_equalIn_struct w 9999 49 _ _ hS hp]
  generalize (Tryd.prog.fieldsOf 49).toList = fs at hf ⊢
  obtain ⟨f1, r1, rfl, h1, hf⟩ := List.map_eq_cons_iff.1 hf
  obtain ⟨f2, r2, rfl, h2, hf⟩ := List.map_eq_cons_iff.1 hf
  obtain ⟨f3, r3, rfl, h3, hf⟩ := List.map_eq_cons_iff.1 hf
  obtain ⟨f4, r4, rfl, h4, hf⟩ := List.map_eq_cons_iff.1 hf
  obtain ⟨f5, r5, rfl, h5, hf⟩ := List.map_eq_cons_iff.1 hf
  obtain rfl := List.map_eq_nil_iff.1 hf
  simp only [Prod.mk.injEq, beq_eq_false_iff_ne, ne_eq] at h1 h2 h3 h4 h5
  obtain ⟨n1, t1, p1⟩ := h1
  obtain ⟨n2, t2, p2⟩ := h2
  obtain ⟨n3, t3, p3⟩ := h3
  obtain ⟨n4, t4, p4⟩ := h4
  obtain ⟨n5, t5, p5⟩ := h5
  simp only [Op.eqFields, ne_eq, n1, n2, n3, n4, n5, not_false_eq_true, if_true, t1, t2, t3, t4, t5, p1, p2, p3, p4, p5, Sem.run_bind, Sem.run_ite, Sem.run_pure, q1, q2, q3, q4, q5, e1, e2, e3, e4, e5, Result.andThen_ok]
  by_cases h1 : xs = ys
  · by_cases h2 : xr = yr
    · by_cases h3 : xc = yc
      · by_cases h4 : xa = ya
        · by_cases h5 : xb = yb <;> simp [h1, h2, h3, h4, h5]
        · simp [h1, h2, h3, h4]
      · simp [h1, h2, h3]
    · simp [h1, h2]
  · simp [h1]
theorem guard59 (op : BinOp) (a b : Operand) (X Y : Array Value) (w : World) : Sem.run Tryd.prog (eqGuard op 49 a b (.agg X) (.agg Y)) w = .ok () w := run_eqGuard_agg w op 49 a b X Y (by kernel_rfl)

set_option maxRecDepth 100000 in
set_option maxHeartbeats 4000000 in
theorem eqrf_any_q (va vb : Value) (A B : List Rf) (w : World) (ha : Sl rf 5 w va A) (hb : Sl rf 5 w vb B) : Calls Tryd.prog 25 #[va, vb] w fun e w' => e = .returned (.bool (eqRf A B)) ∧ ∃ m, w' = w.drewN m := by
  have HA := hid ha
  have HB := hid hb
  obtain ⟨ao, cap, rfl, la, ma⟩ := ha.len
  obtain ⟨ao2, cap2, rfl, lb, mb⟩ := hb.len
  have hA : A.length ≤ 9223372036854775807 := by unfold maxLen at ma; omega
  clear ha hb la ma lb mb
  generalize hT : eqRf A B = T
  have HT := hid hT
  clear hT
  by_cases hl : A.length = B.length
  · have hl' : ((A.length : Int) != (B.length : Int)) = false := by simp [hl]
    go_enter Tryd.func25, Tryd.ntmps25
    go_wp2
    go_loopw [4, 13] (fun _ s W => ∃ (n : Nat), n ≤ A.length ∧ s = .int .i64 n ∧ Hid (∃ q, W = w.drewN q) ∧ Hid (eqRf (A.drop n) (B.drop n) = T)) (fun _ s _ => A.length - (intOf s).toNat)
    case atStart => exact ⟨0, Nat.zero_le _, rfl, ⟨0, rfl⟩, by rw [List.drop_zero, List.drop_zero]; exact HT.out⟩
    case round =>
      obtain ⟨n, hn, rfl, hq, HZ⟩ := hrel
      obtain ⟨q, hwq⟩ := hq.out
      have HW := hid hwq
      have HQ : Hid (Q w wr) := by rw [hwq]; exact (Q.refl _).drewN _
      clear hq hwq
      by_cases hlt : n < A.length
      · have hlt' : (n : Int) < (A.length : Int) := by omega
        have hlt2 : (n : Int) < (B.length : Int) := by omega
        obtain ⟨g, off, cap', e, _, _, hc⟩ := (HA.out.on HQ.out).at hlt
        cases e
        obtain ⟨g2, off2, cap3, e, _, _, hc2⟩ := (HB.out.on HQ.out).at (i := n) (by omega)
        cases e
        rw [List.drop_eq_getElem_cons hlt, List.drop_eq_getElem_cons (show n < B.length by omega), eqRf] at HZ
        generalize A[n] = x at *
        generalize B[n]'(by omega) = y at *
        obtain ⟨xs, xr, xc, xa, xb⟩ := x
        obtain ⟨ys, yr, yc, ya, yb⟩ := y
        have c0 : wr.cell? ⟨g, off + n * 5, none⟩ = some (.string ⟨xs.toArray⟩) := hc 0 _ rfl
        have c1 : wr.cell? ⟨g, off + n * 5 + 1, none⟩ = some (.int .i64 xr) := hc 1 _ rfl
        have c2 : wr.cell? ⟨g, off + n * 5 + 2, none⟩ = some (.int .i64 xc) := hc 2 _ rfl
        have c3 : wr.cell? ⟨g, off + n * 5 + 3, none⟩ = some (.bool xa) := hc 3 _ rfl
        have c4 : wr.cell? ⟨g, off + n * 5 + 4, none⟩ = some (.bool xb) := hc 4 _ rfl
        have d0 : wr.cell? ⟨g2, off2 + n * 5, none⟩ = some (.string ⟨ys.toArray⟩) := hc2 0 _ rfl
        have d1 : wr.cell? ⟨g2, off2 + n * 5 + 1, none⟩ = some (.int .i64 yr) := hc2 1 _ rfl
        have d2 : wr.cell? ⟨g2, off2 + n * 5 + 2, none⟩ = some (.int .i64 yc) := hc2 2 _ rfl
        have d3 : wr.cell? ⟨g2, off2 + n * 5 + 3, none⟩ = some (.bool ya) := hc2 3 _ rfl
        have d4 : wr.cell? ⟨g2, off2 + n * 5 + 4, none⟩ = some (.bool yb) := hc2 4 _ rfl
        clear hc hc2
        have hgd' : ∀ (op : BinOp) (a b : Operand) (w : World), Sem.run Tryd.prog (eqGuard op 49 a b (.agg #[.string ⟨xs.toArray⟩, .int .i64 xr, .int .i64 xc, .bool xa, .bool xb]) (.agg #[.string ⟨ys.toArray⟩, .int .i64 yr, .int .i64 yc, .bool ya, .bool yb])) w = .ok () w := fun op a b w => guard59 op a b _ _ w
        cases hd : decide (((xs, xr, xc, xa, xb) : Rf) = (ys, yr, yc, ya, yb))
        · have HR : Hid (false = T) := by
            have := HZ.out
            simp only [hd, Bool.false_and] at this
            exact this
          clear HZ
          have hne' : ∀ w, Sem.run Tryd.prog (binOp .neq 49 (.agg #[.string ⟨xs.toArray⟩, .int .i64 xr, .int .i64 xc, .bool xa, .bool xb]) (.agg #[.string ⟨ys.toArray⟩, .int .i64 yr, .int .i64 yc, .bool ya, .bool yb])) w = .ok (.bool true) w := fun w => by
            have := neq59 xs xr xc xa xb ys yr yc ya yb w
            rw [hd] at this
            exact this
          clear hd
          go_wp2_with fail
          go_quiet (fail)
          go_wp2_with fail
          go_ret
          exact ⟨ret_bool HR.out, _, by rw [HW.out, World.drewN_drewN]⟩
        · have HZ2 : Hid (eqRf (A.drop (n + 1)) (B.drop (n + 1)) = T) := by
            have := HZ.out
            simp only [hd, Bool.true_and] at this
            exact this
          clear HZ
          have hne' : ∀ w, Sem.run Tryd.prog (binOp .neq 49 (.agg #[.string ⟨xs.toArray⟩, .int .i64 xr, .int .i64 xc, .bool xa, .bool xb]) (.agg #[.string ⟨ys.toArray⟩, .int .i64 yr, .int .i64 yc, .bool ya, .bool yb])) w = .ok (.bool false) w := fun w => by
            have := neq59 xs xr xc xa xb ys yr yc ya yb w
            rw [hd] at this
            exact this
          clear hd
          go_wp2_with fail
          go_quiet (fail)
          go_wp2_with fail
          go_roundw
          case rel => exact ⟨n + 1, by omega, by go_num, ⟨_, by rw [HW.out, World.drewN_drewN]⟩, HZ2⟩
          case measure => simp [intOf]; omega
      · have hlt' : ¬ (n : Int) < (A.length : Int) := by omega
        have HR : Hid (true = T) := by
          have := HZ.out
          rw [List.drop_eq_nil_of_le (by omega), List.drop_eq_nil_of_le (by omega)] at this
          exact this
        clear HZ
        go_wp2_with fail
        go_ret
        exact ⟨ret_bool HR.out, q, HW.out⟩
  · have hl' : ((A.length : Int) != (B.length : Int)) = true := by simp; omega
    have HR : Hid (false = T) := by show _ = _; rw [← HT.out, eqRf_len hl]
    go_enter Tryd.func25, Tryd.ntmps25
    go_wp2
    go_ret
    exact ⟨ret_bool HR.out, 0, rfl⟩
theorem eqrf_any (va vb : Value) (A B : List Rf) (w : World) (ha : Sl rf 5 w va A) (hb : Sl rf 5 w vb B) : Calls Tryd.prog 25 #[va, vb] w fun e w' => e = .returned (.bool (decide (A = B))) ∧ Q w w' :=
  (eqrf_any_q va vb A B w ha hb).mono fun _ _ ⟨he, m, hm⟩ => ⟨by rw [he, eqRf_dec], by rw [hm]; exact (Q.refl _).drewN _⟩
end Go.Proofs.YtgheopdadfnilaaDoor
namespace Go.Proofs.YtgheopdadfnilaaDoor
set_option linter.unusedVariables false
set_option linter.unusedSimpArgs false

/-- all but the kids -/
def hd : Ex → Int × Int × List UInt8 × Bool × Int × List Rf
  | .mk k n t b e rs _ => (k, n, t, b, e, rs)
def kd : Ex → List Ex
  | .mk _ _ _ _ _ _ ks => ks
theorem ex_eq {x y : Ex} : x = y ↔ hd x = hd y ∧ kd x = kd y := by
  cases x with
  | mk k n t b e rs ks =>
    cases y with
    | mk k' n' t' b' e' rs' ks' =>
      simp only [hd, kd, Ex.mk.injEq, Prod.mk.injEq]
      constructor
      · rintro ⟨h1, h2, h3, h4, h5, h6, h7⟩
        exact ⟨⟨h1, h2, h3, h4, h5, h6⟩, h7⟩
      · rintro ⟨⟨h1, h2, h3, h4, h5, h6⟩, h7⟩
        exact ⟨h1, h2, h3, h4, h5, h6, h7⟩
theorem nodes_kd (x : Ex) : nodes x = 1 + nodes.nodesL (kd x) := by
  cases x with
  | mk k n t b e rs ks => rw [nodes]; rfl
abbrev Pr := List Ex × List Ex
/-- what the lists still open say of the whole, and of those begun -/
structure Eqv (R : Prop) (L K : List Pr) : Prop where
  all : R ↔ ∀ p ∈ L, p.1 = p.2
  bgn : ∀ k ∈ K, (∀ p ∈ L, nodes.nodesL p.1 ≤ nodes.nodesL k.1 → p.1 = p.2) → k.1 = k.2
theorem eqv_start (x y : Ex) : Eqv (x = y) [([x], [y])] [] := by
  refine ⟨?_, fun k hk => absurd hk (by simp)⟩
  constructor
  · intro h p hp
    simp at hp
    subst hp h
    rfl
  · intro h
    have := h ([x], [y]) (by simp)
    simpa using this
/-- all that was open is through -/
theorem Eqv.done {R : Prop} {K : List Pr} (h : Eqv R [] K) : R := h.all.2 (fun p hp => absurd hp (by simp))
/-- a pair that is through -/
theorem Eqv.pop {R : Prop} {L K : List Pr} (h : Eqv R (([], []) :: L) K) : Eqv R L K := by
  refine ⟨?_, fun k hk hl => h.bgn k hk (fun p hp hs => ?_)⟩
  · rw [h.all]
    constructor
    · intro g p hp
      exact g p (by simp [hp])
    · intro g p hp
      simp at hp
      rcases hp with rfl | hp
      · rfl
      · exact g p hp
  · simp at hp
    rcases hp with rfl | hp
    · rfl
    · exact hl p hp hs
/-- two nodes that differ -/
theorem Eqv.no {R : Prop} {L K : List Pr} {x y : Ex} {xs ys : List Ex} (h : Eqv R ((x :: xs, y :: ys) :: L) K) (hn : ¬ (hd x = hd y ∧ (kd x).length = (kd y).length)) : ¬ R := by
  intro r
  have := h.all.1 r (x :: xs, y :: ys) (by simp)
  simp at this
  rw [this.1] at hn
  exact hn ⟨rfl, rfl⟩
/-- two nodes alike, whose kids' lists are equal where the lists still open, as small as these, are -/
theorem Eqv.step {R : Prop} {L K : List Pr} {x y : Ex} {xs ys : List Ex} {L' K' : List Pr} (h : Eqv R ((x :: xs, y :: ys) :: L) K) (hh : hd x = hd y)
    (hk : (∀ p ∈ (xs, ys) :: L, nodes.nodesL p.1 ≤ nodes.nodesL (kd x) → p.1 = p.2) → (∀ p ∈ L', nodes.nodesL p.1 ≤ nodes.nodesL (kd x) → p.1 = p.2) → kd x = kd y)
    (hL : ∀ p, p ∈ L' → p ∈ (xs, ys) :: L ∨ p = (kd x, kd y)) (hL' : ∀ p ∈ (xs, ys) :: L, p ∈ L') (hK : ∀ k ∈ K', k ∈ K ∨ (k = (kd x, kd y) ∧ (kd x, kd y) ∈ L')) : Eqv R L' K' := by
  have hs : nodes.nodesL (x :: xs) = 1 + nodes.nodesL (kd x) + nodes.nodesL xs := by rw [nodes.nodesL, nodes_kd]
  have cur : ∀ m, nodes.nodesL (x :: xs) ≤ m → (∀ p ∈ L', nodes.nodesL p.1 ≤ m → p.1 = p.2) → x :: xs = y :: ys := by
    intro m hm hl
    have h1 : xs = ys := hl (xs, ys) (hL' _ (by simp)) (by simp; omega)
    have h2 : kd x = kd y := hk (fun p hp hs' => hl p (hL' _ hp) (by omega)) (fun p hp hs' => hl p hp (by omega))
    rw [h1, ex_eq.2 ⟨hh, h2⟩]
  refine ⟨?_, fun k hk' hl => ?_⟩
  · rw [h.all]
    constructor
    · intro g p hp
      have g0 := g (x :: xs, y :: ys) (by simp)
      simp at g0
      rcases hL p hp with hp | rfl
      · simp at hp
        rcases hp with rfl | hp
        · exact g0.2
        · exact g p (by simp [hp])
      · rw [g0.1]
    · intro g p hp
      simp at hp
      rcases hp with rfl | hp
      · exact cur _ (Nat.le_refl _) (fun p hp _ => g p hp)
      · exact g p (hL' _ (by simp [hp]))
  · rcases hK k hk' with hk' | ⟨rfl, hm⟩
    · refine h.bgn k hk' (fun p hp hs' => ?_)
      simp at hp
      rcases hp with rfl | hp
      · exact cur _ hs' (fun p hp hs' => hl p hp hs')
      · exact hl p (hL' _ (by simp [hp])) hs'
    · exact hl _ hm (Nat.le_refl _)
/-- .. without kids -/
theorem Eqv.leaf {R : Prop} {L K : List Pr} {x y : Ex} {xs ys : List Ex} (h : Eqv R ((x :: xs, y :: ys) :: L) K) (hh : hd x = hd y) (hx : kd x = []) (hy : (kd x).length = (kd y).length) : Eqv R ((xs, ys) :: L) K :=
  h.step hh (fun _ _ => by
    rw [hx] at hy ⊢
    exact (List.eq_nil_of_length_eq_zero hy.symm).symm) (fun p hp => .inl hp) (fun p hp => hp) (fun k hk => .inl hk)
/-- .. whose kids were begun -/
theorem Eqv.old {R : Prop} {L K : List Pr} {x y : Ex} {xs ys : List Ex} (h : Eqv R ((x :: xs, y :: ys) :: L) K) (hh : hd x = hd y) (hb : (kd x, kd y) ∈ K) : Eqv R ((xs, ys) :: L) K :=
  h.step hh (fun g _ => h.bgn _ hb (fun p hp hs => by
    simp at hp
    rcases hp with rfl | hp
    · rw [nodes.nodesL, nodes_kd] at hs
      simp at hs
      omega
    · exact g p (by simp [hp]) hs)) (fun p hp => .inl hp) (fun p hp => hp) (fun k hk => .inl hk)
/-- .. whose kids are begun now -/
theorem Eqv.new {R : Prop} {L K : List Pr} {x y : Ex} {xs ys : List Ex} (h : Eqv R ((x :: xs, y :: ys) :: L) K) (hh : hd x = hd y) : Eqv R ((xs, ys) :: (kd x, kd y) :: L) ((kd x, kd y) :: K) :=
  h.step hh (fun _ g => g (kd x, kd y) (by simp) (Nat.le_refl _)) (fun p hp => by
    simp at hp ⊢
    rcases hp with h | h | h
    · exact .inl (.inl h)
    · exact .inr h
    · exact .inl (.inr h)) (fun p hp => by
    simp at hp ⊢
    rcases hp with h | h
    · exact .inl h
    · exact .inr (.inr h)) (fun k hk => by
    simp at hk
    rcases hk with h | h
    · exact .inr ⟨h, by simp⟩
    · exact .inl h)
/-- how much is still open -/
def wgt (L : List Pr) : Nat := (L.map fun p => nodes.nodesL p.1).sum
theorem wgt_cons (p : Pr) (L : List Pr) : wgt (p :: L) = nodes.nodesL p.1 + wgt L := by simp [wgt]
theorem nodesL_cons' (x : Ex) (xs : List Ex) : nodes.nodesL (x :: xs) = 1 + nodes.nodesL (kd x) + nodes.nodesL xs := by rw [nodes.nodesL, nodes_kd]
end Go.Proofs.YtgheopdadfnilaaDoor
