/- The program's reader: word, sign, take, strength; The program's readers go on; The program's reader: ahead; The program's reader: tree. -/
import Derived.Test.YtgheopdadfnilaaGreatDoorKr17
import Derived.Test.YtgheopdadfnilaaGreatDoorKr03
import Derived.Test.YtgheopdadfnilaaGreatDoorKr08
set_option linter.unusedVariables false
set_option linter.unusedSimpArgs false
set_option maxRecDepth 100000
namespace Go.Proofs.YtgheopdadfnilaaGreatDoor
open Go.RowKit
theorem Std.onx {w w' : World} {r : Nat} (h : Std w) (q : Qx r w w') (hr : 6 ≤ r) : Std w' := by
  have hb := h.big
  have ce : ∀ {b o : Nat}, b < 6 → w'.cell? ⟨b, o, none⟩ = w.cell? ⟨b, o, none⟩ := fun {b o} hb5 => q.cell (by omega) (by omega)
  refine ⟨fun i hi => ?_, ⟨by have := q.size; have := h.nam.1; omega, fun i hi => ?_⟩, ⟨fun c hc => ?_, fun i hi => ?_⟩, ?_, by have := q.size; omega⟩
  · rw [ce (by omega)]; exact h.sg i hi
  · rw [ce (by omega)]; exact h.nam.2 i hi
  · rw [ce (by omega)]; exact h.utf.1 c hc
  · rw [ce (by omega), ce (by omega)]; exact h.utf.2 i hi
  · obtain ⟨m, hm⟩ := h.len
    exact ⟨m, by rw [ce (by omega)]; exact hm⟩
structure PT (W : World) (p : Nat) (L : List Wd) (b off cap : Nat) (i : Nat) : Prop where
  c0 : W.cell? ⟨p, 0, none⟩ = some (.slice (some ⟨b, off, none⟩) L.length cap)
  c1 : W.cell? ⟨p, 1, none⟩ = some (.int .i64 (i : Int))
  f1 : W.frozen? ⟨p, 1, none⟩ = false
  sw : Sv W L (.slice (some ⟨b, off, none⟩) L.length cap) b off cap
  ne : b ≠ p
  sd : Std W
  p5 : 6 ≤ p
theorem PT.lt {W : World} {p : Nat} {L : List Wd} {b off cap i : Nat} (h : PT W p L b off cap i) : p < W.heap.size := World.block_lt_of_cell? W ⟨p, 0, none⟩ h.c0
theorem PT.blk {W : World} {p : Nat} {L : List Wd} {b off cap i : Nat} (h : PT W p L b off cap i) (j : Nat) (hj : j < L.length) : b < W.heap.size := World.block_lt_of_cell? W ⟨b, off + j * 3, none⟩ (h.sw.k j hj)
theorem PT.on {W W' : World} {p : Nat} {L : List Wd} {b off cap i : Nat} (h : PT W p L b off cap i) (q : Q W W') : PT W' p L b off cap i :=
  ⟨(q.cell h.lt).trans h.c0, (q.cell h.lt).trans h.c1, (Below.frozen q (p := ⟨p, 1, none⟩) h.lt).trans h.f1, h.sw.on (Qx.of q) h.ne, h.ne, h.sd.on q, h.p5⟩
theorem PT.onx {W W' : World} {p r : Nat} {L : List Wd} {b off cap i : Nat} (h : PT W p L b off cap i) (q : Qx r W W') (hp : p ≠ r) (hb : b ≠ r) (hr5 : 6 ≤ r) : PT W' p L b off cap i :=
  ⟨(q.cell h.lt hp).trans h.c0, (q.cell h.lt hp).trans h.c1, (World.frozen?_of_block (a := ⟨p, 1, none⟩) (q.block p h.lt (fun e => hp (Option.some.inj e)))).trans h.f1, h.sw.on q hb, h.ne, h.sd.onx q hr5, h.p5⟩
theorem PT.set1 {W : World} {p : Nat} {L : List Wd} {b off cap i : Nat} (h : PT W p L b off cap i) (i' : Nat) (I : Int) (hI : I = (i' : Int)) : PT (W.setCell ⟨p, 1, none⟩ (.int .i64 I)) p L b off cap i' := by
  subst hI
  refine ⟨?_, World.cell?_setCell_same _ _ _ h.c1, ?_, h.sw.on ((Qx.refl p _).own _ _) h.ne, h.ne, h.sd.onx ((Qx.refl p _).own _ _) h.p5, h.p5⟩
  · rw [World.cell?_setCell_other _ _ _ _ (by simp)]; exact h.c0
  · rw [World.frozen?_setCell]; exact h.f1
theorem PT.kw {W : World} {p : Nat} {L : List Wd} {b off cap i : Nat} (h : PT W p L b off cap i) (hi : i < L.length) : KW W p L.length b off cap i (kAt L i : Int) ⟨(tAt L i).toArray⟩ ((L.getD i ⟨7, [], 0⟩).p : Int) := by
  have hg := kAt_get hi
  refine ⟨h.c0, h.c1, ?_, ?_, ?_⟩
  · rw [hg.1]; exact h.sw.k i hi
  · rw [hg.2]; exact h.sw.t i hi
  · rw [List.getD_eq_getElem?_getD, List.getElem?_eq_getElem hi]; exact h.sw.p i hi
set_option maxHeartbeats 4000000 in
theorem word_any (W : World) (p n b off cap i : Nat) (k : Int) (T : ByteArray) (q : Int) (h : KW W p n b off cap i k T q) (hi : i < n) (hn : n ≤ 50000) :
    Calls Tryz.prog 109 #[.pointer (some ⟨p, 0, none⟩)] W fun e W' => e = .returned (.agg #[.int .i64 k, .string T, .int .i64 q]) ∧ Q W W' := by
  have HK := hid h
  clear h
  go_enter Tryz.func109, Tryz.ntmps109
  go_wp2_with fail
  go_region_held3 (fun V => V.cell? ⟨p, 0, none⟩ = some (.slice (some ⟨b, off, none⟩) n cap) ∧ V.cell? ⟨p, 1, none⟩ = some (.int .i64 (i : Int)) ∧ V.cell? ⟨b, off + i * 3, none⟩ = some (.int .i64 k) ∧ V.cell? ⟨b, off + i * 3 + 1, none⟩ = some (.string T) ∧ V.cell? ⟨b, off + i * 3 + 2, none⟩ = some (.int .i64 q)) (exact HK.out.on (by repeat (first | with_reducible exact Q.refl _ | with_reducible refine Q.drewN ?_ _ | with_reducible refine Q.drew ?_ | with_reducible refine Q.alloc ?_ _ | with_reducible refine Q.setCell ?_ (by simp) _))) (fail)
  all_goals go_wp2_with fail
  all_goals refine bodyPost_ret (v := .agg #[.int .i64 k, .string T, .int .i64 q]) (by simp [results, Tryz.results109, go_sem]) rfl ⟨rfl, ?_⟩
  all_goals exact (by repeat (first | with_reducible exact Q.refl _ | with_reducible refine Q.drewN ?_ _ | with_reducible refine Q.drew ?_ | with_reducible refine Q.alloc ?_ _ | with_reducible refine Q.setCell ?_ (by simp) _))
theorem fd0 (a b c : Value) (w : World) : (Instr.field 141 (.agg #[a, b, c]) 0).run Tryz.prog w = .ok a w := by kernel_rfl
theorem fd1 (a b c : Value) (w : World) : (Instr.field 141 (.agg #[a, b, c]) 1).run Tryz.prog w = .ok b w := by kernel_rfl
def sgnL (L : List Wd) (i : Nat) : List UInt8 := if kAt L i = 6 then tAt L i else []
set_option maxHeartbeats 4000000 in
theorem psign_any (W : World) (p : Nat) (L : List Wd) (b off cap i : Nat) (h : PT W p L b off cap i) (hi : i < L.length) (hr : L.length ≤ 50000) :
    Calls Tryz.prog 143 #[.pointer (some ⟨p, 0, none⟩)] W fun e W' => e = .returned (.string ⟨(sgnL L i).toArray⟩) ∧ Q W W' := by
  have HW := hid (fun W1 (g : PT W1 p L b off cap i) => word_any W1 p L.length b off cap i _ _ _ (g.kw hi) hi hr)
  have HP := hid h
  obtain ⟨T, hT⟩ : ∃ T : ByteArray, T = ⟨(tAt L i).toArray⟩ := ⟨_, rfl⟩
  rw [← hT] at HW
  generalize ((L.getD i ⟨7, [], 0⟩).p : Int) = q at HW
  have f0 : ∀ (k : Int) (w : World), (Instr.field 141 (.agg #[.int .i64 k, .string T, .int .i64 q]) 0).run Tryz.prog w = .ok (.int .i64 k) w := fun k w => fd0 _ _ _ w
  have f1 : ∀ (k : Int) (w : World), (Instr.field 141 (.agg #[.int .i64 k, .string T, .int .i64 q]) 1).run Tryz.prog w = .ok (.string T) w := fun k w => fd1 _ _ _ w
  have HTT := hid hT
  clear h hT
  by_cases hk : kAt L i = 6
  · have HS : Hid (sgnL L i = tAt L i) := by show _ = _; unfold sgnL; rw [if_pos hk]
    have e6 : ((kAt L i : Int) == 6) = true := by rw [hk]; rfl
    have e7 : (kAt L i : Int) = 6 := by omega
    generalize (kAt L i : Int) = kk at HW e6 e7
    generalize sgnL L i = sg at HS ⊢
    go_enter Tryz.func143, Tryz.ntmps143
    go_wp2_with (first | (go_at_call 109; refine (HW.out _ P1.out).mono ?_; rintro e w2 ⟨rfl, q2⟩; have Q2 := hid q2; clear q2) | (go_at_call 109; refine (HW.out _ HP.out).mono ?_; rintro e w1 ⟨rfl, q1⟩; have Q1 := hid q1; have P1 := hid (HP.out.on q1); clear q1))
    go_ret
    exact ⟨ret_str (by rw [HTT.out, HS.out]), Q1.out.trans Q2.out⟩
  · have HS : Hid (sgnL L i = []) := by show _ = _; unfold sgnL; rw [if_neg hk]
    have e6 : ((kAt L i : Int) == 6) = false := by rw [beq_eq_false_iff_ne]; omega
    have e7 : ¬ (kAt L i : Int) = 6 := by omega
    generalize (kAt L i : Int) = kk at HW e6 e7
    generalize sgnL L i = sg at HS ⊢
    go_enter Tryz.func143, Tryz.ntmps143
    go_wp2_with (go_at_call 109; refine (HW.out _ HP.out).mono ?_; rintro e w1 ⟨rfl, q1⟩; have Q1 := hid q1; clear q1)
    go_ret
    exact ⟨ret_str (by rw [HS.out]), Q1.out⟩
theorem isW_sgn {L : List Wd} {i : Nat} (hi : i < L.length) {s : List UInt8} (hs : s ≠ []) : isW L i s = decide (sgnL L i = s) := by
  rw [isW_at hi]
  have hk := kAt_get hi
  unfold sgnL
  rw [← hk.1, ← hk.2]
  by_cases h : kAt L i = 6
  · simp [h]
  · rw [if_neg h]
    rw [decide_eq_false (fun e => h e.1), decide_eq_false (fun e => hs e.symm)]
set_option maxHeartbeats 4000000 in
theorem ptake_any (W : World) (p : Nat) (L : List Wd) (b off cap i : Nat) (s : ByteArray) (h : PT W p L b off cap i) (hi : i < L.length) (hr : L.length ≤ 50000) (hs : s.data.toList ≠ []) :
    Calls Tryz.prog 166 #[.pointer (some ⟨p, 0, none⟩), .string s] W fun e W' => e = .returned (.bool (isW L i s.data.toList)) ∧ Qx p W W' ∧ PT W' p L b off cap (if isW L i s.data.toList then i + 1 else i) := by
  have HI := hid (psign_any W p L b off cap i h hi hr)
  have HP := hid h
  rw [isW_sgn hi hs]
  obtain ⟨S, hS, lS⟩ : ∃ S : ByteArray, ⟨(sgnL L i).toArray⟩ = S ∧ S.data.toList = sgnL L i := ⟨_, rfl, rfl⟩
  rw [hS] at HI
  clear h hS hs
  by_cases hw : sgnL L i = s.data.toList
  · have e7 : (S.toList == s.toList) = true := by rw [toL, toL, lS, hw]; exact beq_self_eq_true _
    rw [decide_eq_true hw]
    clear lS hw
    go_enter Tryz.func166, Tryz.ntmps166
    go_wp2_with (go_at_call 143; refine HI.out.mono ?_; rintro e w1 ⟨rfl, q1⟩; have Q1 := hid q1; have HP1 := hid (HP.out.on q1); clear q1; have g1 := HP1.out.c1; have k1 := HP1.out.f1)
    go_ret
    exact ⟨rfl, (Qx.of Q1.out).own _ _, HP1.out.set1 (i + 1) _ rfl⟩
  · have e7 : (S.toList == s.toList) = false := by rw [toL, toL, lS, beq_eq_false_iff_ne]; exact hw
    rw [decide_eq_false hw]
    clear lS hw
    go_enter Tryz.func166, Tryz.ntmps166
    go_wp2_with (go_at_call 143; refine HI.out.mono ?_; rintro e w1 ⟨rfl, q1⟩; have Q1 := hid q1; have HP1 := hid (HP.out.on q1); clear q1)
    go_ret
    exact ⟨rfl, Qx.of Q1.out, HP1.out⟩
set_option maxHeartbeats 4000000 in
theorem strength_any (s : ByteArray) (W : World) : Calls Tryz.prog 125 #[.string s] W fun e W' => e = .returned (.int .i64 (lvl s.data.toList : Int)) ∧ W' = W := by
  have et := hid (toL s)
  by_cases h0 : s.data.toList = [61]
  · have f0 : (s.toList == [61]) = true := by rw [et.out, h0]; rfl
    have HR : Hid (lvl s.data.toList = 1) := by show _ = _; rw [h0]; rfl
    generalize lvl s.data.toList = r at HR ⊢
    clear et h0
    go_enter Tryz.func125, Tryz.ntmps125
    go_wp2
    go_ret
    exact ⟨ret_int (by rw [HR.out]; rfl), rfl⟩
  · have f0 : (s.toList == [61]) = false := by rw [et.out, beq_eq_false_iff_ne]; exact h0
    by_cases h1 : s.data.toList = [60, 62]
    · have f1 : (s.toList == [60, 62]) = true := by rw [et.out, h1]; rfl
      have HR : Hid (lvl s.data.toList = 1) := by show _ = _; rw [h1]; rfl
      generalize lvl s.data.toList = r at HR ⊢
      clear et h0 h1
      go_enter Tryz.func125, Tryz.ntmps125
      go_wp2
      go_ret
      exact ⟨ret_int (by rw [HR.out]; rfl), rfl⟩
    · have f1 : (s.toList == [60, 62]) = false := by rw [et.out, beq_eq_false_iff_ne]; exact h1
      by_cases h2 : s.data.toList = [60]
      · have f2 : (s.toList == [60]) = true := by rw [et.out, h2]; rfl
        have HR : Hid (lvl s.data.toList = 1) := by show _ = _; rw [h2]; rfl
        generalize lvl s.data.toList = r at HR ⊢
        clear et h0 h1 h2
        go_enter Tryz.func125, Tryz.ntmps125
        go_wp2
        go_ret
        exact ⟨ret_int (by rw [HR.out]; rfl), rfl⟩
      · have f2 : (s.toList == [60]) = false := by rw [et.out, beq_eq_false_iff_ne]; exact h2
        by_cases h3 : s.data.toList = [60, 61]
        · have f3 : (s.toList == [60, 61]) = true := by rw [et.out, h3]; rfl
          have HR : Hid (lvl s.data.toList = 1) := by show _ = _; rw [h3]; rfl
          generalize lvl s.data.toList = r at HR ⊢
          clear et h0 h1 h2 h3
          go_enter Tryz.func125, Tryz.ntmps125
          go_wp2
          go_ret
          exact ⟨ret_int (by rw [HR.out]; rfl), rfl⟩
        · have f3 : (s.toList == [60, 61]) = false := by rw [et.out, beq_eq_false_iff_ne]; exact h3
          by_cases h4 : s.data.toList = [62]
          · have f4 : (s.toList == [62]) = true := by rw [et.out, h4]; rfl
            have HR : Hid (lvl s.data.toList = 1) := by show _ = _; rw [h4]; rfl
            generalize lvl s.data.toList = r at HR ⊢
            clear et h0 h1 h2 h3 h4
            go_enter Tryz.func125, Tryz.ntmps125
            go_wp2
            go_ret
            exact ⟨ret_int (by rw [HR.out]; rfl), rfl⟩
          · have f4 : (s.toList == [62]) = false := by rw [et.out, beq_eq_false_iff_ne]; exact h4
            by_cases h5 : s.data.toList = [62, 61]
            · have f5 : (s.toList == [62, 61]) = true := by rw [et.out, h5]; rfl
              have HR : Hid (lvl s.data.toList = 1) := by show _ = _; rw [h5]; rfl
              generalize lvl s.data.toList = r at HR ⊢
              clear et h0 h1 h2 h3 h4 h5
              go_enter Tryz.func125, Tryz.ntmps125
              go_wp2
              go_ret
              exact ⟨ret_int (by rw [HR.out]; rfl), rfl⟩
            · have f5 : (s.toList == [62, 61]) = false := by rw [et.out, beq_eq_false_iff_ne]; exact h5
              by_cases h6 : s.data.toList = [38]
              · have f6 : (s.toList == [38]) = true := by rw [et.out, h6]; rfl
                have HR : Hid (lvl s.data.toList = 2) := by show _ = _; rw [h6]; rfl
                generalize lvl s.data.toList = r at HR ⊢
                clear et h0 h1 h2 h3 h4 h5 h6
                go_enter Tryz.func125, Tryz.ntmps125
                go_wp2
                go_ret
                exact ⟨ret_int (by rw [HR.out]; rfl), rfl⟩
              · have f6 : (s.toList == [38]) = false := by rw [et.out, beq_eq_false_iff_ne]; exact h6
                by_cases h7 : s.data.toList = [43]
                · have f7 : (s.toList == [43]) = true := by rw [et.out, h7]; rfl
                  have HR : Hid (lvl s.data.toList = 3) := by show _ = _; rw [h7]; rfl
                  generalize lvl s.data.toList = r at HR ⊢
                  clear et h0 h1 h2 h3 h4 h5 h6 h7
                  go_enter Tryz.func125, Tryz.ntmps125
                  go_wp2
                  go_ret
                  exact ⟨ret_int (by rw [HR.out]; rfl), rfl⟩
                · have f7 : (s.toList == [43]) = false := by rw [et.out, beq_eq_false_iff_ne]; exact h7
                  by_cases h8 : s.data.toList = [45]
                  · have f8 : (s.toList == [45]) = true := by rw [et.out, h8]; rfl
                    have HR : Hid (lvl s.data.toList = 3) := by show _ = _; rw [h8]; rfl
                    generalize lvl s.data.toList = r at HR ⊢
                    clear et h0 h1 h2 h3 h4 h5 h6 h7 h8
                    go_enter Tryz.func125, Tryz.ntmps125
                    go_wp2
                    go_ret
                    exact ⟨ret_int (by rw [HR.out]; rfl), rfl⟩
                  · have f8 : (s.toList == [45]) = false := by rw [et.out, beq_eq_false_iff_ne]; exact h8
                    by_cases h9 : s.data.toList = [42]
                    · have f9 : (s.toList == [42]) = true := by rw [et.out, h9]; rfl
                      have HR : Hid (lvl s.data.toList = 4) := by show _ = _; rw [h9]; rfl
                      generalize lvl s.data.toList = r at HR ⊢
                      clear et h0 h1 h2 h3 h4 h5 h6 h7 h8 h9
                      go_enter Tryz.func125, Tryz.ntmps125
                      go_wp2
                      go_ret
                      exact ⟨ret_int (by rw [HR.out]; rfl), rfl⟩
                    · have f9 : (s.toList == [42]) = false := by rw [et.out, beq_eq_false_iff_ne]; exact h9
                      by_cases h10 : s.data.toList = [47]
                      · have f10 : (s.toList == [47]) = true := by rw [et.out, h10]; rfl
                        have HR : Hid (lvl s.data.toList = 4) := by show _ = _; rw [h10]; rfl
                        generalize lvl s.data.toList = r at HR ⊢
                        clear et h0 h1 h2 h3 h4 h5 h6 h7 h8 h9 h10
                        go_enter Tryz.func125, Tryz.ntmps125
                        go_wp2
                        go_ret
                        exact ⟨ret_int (by rw [HR.out]; rfl), rfl⟩
                      · have f10 : (s.toList == [47]) = false := by rw [et.out, beq_eq_false_iff_ne]; exact h10
                        have HR : Hid (lvl s.data.toList = 0) := by show _ = _; unfold lvl; rw [if_neg h0, if_neg h1, if_neg h2, if_neg h3, if_neg h4, if_neg h5, if_neg h6, if_neg h7, if_neg h8, if_neg h9, if_neg h10]
                        generalize lvl s.data.toList = r at HR ⊢
                        clear et h0 h1 h2 h3 h4 h5 h6 h7 h8 h9 h10
                        go_enter Tryz.func125, Tryz.ntmps125
                        go_wp2
                        go_ret
                        exact ⟨ret_int (by rw [HR.out]; rfl), rfl⟩
end Go.Proofs.YtgheopdadfnilaaGreatDoor
namespace Go.Proofs.YtgheopdadfnilaaGreatDoor
theorem pfwd_all (E : Env) (L : List Wd) (hE : Ends L) : ∀ f : Nat,
    (∀ lv i x j, 1 ≤ lv → i < L.length → ptF E L f lv i = some (some (x, j)) → i < j ∧ j < L.length) ∧
    (∀ lv x i y j, 1 ≤ lv → i < L.length → ptF.plF E L f lv x i = some (some (y, j)) → i ≤ j ∧ j < L.length) ∧
    (∀ i x j, i < L.length → ptF.paF E L f i = some (some (x, j)) → i < j ∧ j < L.length) ∧
    (∀ i x j, i < L.length → ptF.pfF E L f i = some (some (x, j)) → i < j ∧ j < L.length) ∧
    (∀ t ks i x j, i < L.length → ptF.pgF E L f t ks i = some (some (x, j)) → i < j ∧ j < L.length) := by
  intro f
  induction f with
  | zero =>
    refine ⟨?_, ?_, ?_, ?_, ?_⟩
    · intro lv i x j _ _ h; unfold ptF at h; cases h
    · intro lv x i y j _ _ h; unfold ptF.plF at h; cases h
    · intro i x j _ h; unfold ptF.paF at h; cases h
    · intro i x j _ h; unfold ptF.pfF at h; cases h
    · intro t ks i x j _ h; unfold ptF.pgF at h; cases h
  | succ f ih =>
    obtain ⟨iT, iL, iA, iF, iG⟩ := ih
    refine ⟨?_, ?_, ?_, ?_, ?_⟩
    · intro lv i x j hv hi h
      rw [ptF] at h
      obtain ⟨o, h1, h2⟩ := Option.bind_eq_some_iff.1 h
      cases o with
      | none => cases h2
      | some r =>
        obtain ⟨a1, a2⟩ := iA _ _ _ hi h1
        obtain ⟨b1, b2⟩ := iL _ _ _ _ _ hv a2 h2
        exact ⟨by omega, b2⟩
    · intro lv x i y j hv hi h
      rw [ptF.plF] at h
      split at h
      · obtain ⟨o, h1, h2⟩ := Option.bind_eq_some_iff.1 h
        cases o with
        | none => cases h2
        | some r =>
          have hn := hE i hi (by have := stg_six (L := L) (i := i) (by omega); omega)
          obtain ⟨a1, a2⟩ := iT _ _ _ _ (by omega) hn h1
          obtain ⟨b1, b2⟩ := iL _ _ _ _ _ hv a2 h2
          exact ⟨by omega, b2⟩
      · cases h
        exact ⟨Nat.le_refl _, hi⟩
    · intro i x j hi h
      rw [ptF.paF] at h
      split at h
      · rename_i hw
        obtain ⟨o, h1, h2⟩ := Option.bind_eq_some_iff.1 h
        cases o with
        | none => cases h2
        | some r =>
          cases h2
          obtain ⟨a1, a2⟩ := iA _ _ _ (hE.sign hw) h1
          exact ⟨by omega, a2⟩
      · exact iF _ _ _ hi h
    · intro i x j hi h
      rw [ptF.pfF] at h
      split at h
      · rename_i hw
        obtain ⟨o, h1, h2⟩ := Option.bind_eq_some_iff.1 h
        cases o with
        | none => cases h2
        | some r =>
          obtain ⟨a1, a2⟩ := iT _ _ _ _ (by omega) (hE.sign hw) h1
          simp only at h2
          split at h2
          · rename_i hw2
            cases h2
            exact ⟨by omega, hE.sign hw2⟩
          · cases h2
      · split at h
        · rename_i hk
          have hn := hE i hi (by omega)
          split at h
          · cases h
            exact ⟨by omega, hn⟩
          · split at h
            · rename_i hc
              have h2 := hE.sign hc.2
              split at h
              · rename_i h41
                cases h
                exact ⟨by omega, hE.sign h41⟩
              · obtain ⟨a1, a2⟩ := iG _ _ _ _ _ h2 h
                exact ⟨by omega, a2⟩
            · cases h
        · rename_i hk4
          have ho : poneF E L i = some (x, j) := Option.some.inj h
          unfold poneF at ho
          by_cases k1 : kAt L i = 1
          · rw [if_pos k1] at ho
            split at ho
            · cases ho; exact ⟨by omega, hE i hi (by omega)⟩
            · cases ho
          · rw [if_neg k1] at ho
            by_cases k2 : kAt L i = 2
            · rw [if_pos k2] at ho; cases ho; exact ⟨by omega, hE i hi (by omega)⟩
            · rw [if_neg k2] at ho
              by_cases k5 : kAt L i = 5
              · rw [if_pos k5] at ho; cases ho; exact ⟨by omega, hE i hi (by omega)⟩
              · rw [if_neg k5] at ho
                by_cases k3 : kAt L i = 3
                · rw [if_pos k3] at ho
                  split at ho
                  · cases ho
                  · split at ho
                    · rename_i hw
                      have h2 := hE.sign hw
                      split at ho
                      · rename_i hr
                        cases ho
                        exact ⟨by omega, hE (i + 2) h2 (by rw [hr.1]; decide)⟩
                      · cases ho
                    · cases ho; exact ⟨by omega, hE i hi (by omega)⟩
                · rw [if_neg k3] at ho; cases ho
    · intro t ks i x j hi h
      rw [ptF.pgF] at h
      split at h
      · obtain ⟨o, h1, h2⟩ := Option.bind_eq_some_iff.1 h
        cases o with
        | none => cases h2
        | some r =>
          obtain ⟨a1, a2⟩ := iT _ _ _ _ (by omega) hi h1
          simp only at h2
          split at h2
          · rename_i hw
            obtain ⟨b1, b2⟩ := iG _ _ _ _ _ (hE.sign hw) h2
            exact ⟨by omega, b2⟩
          · split at h2
            · rename_i hw2
              cases h2
              exact ⟨by omega, hE.sign hw2⟩
            · cases h2
      · cases h
end Go.Proofs.YtgheopdadfnilaaGreatDoor
namespace Go.Proofs.YtgheopdadfnilaaGreatDoor
open Go.RowKit
def RepP (p : Nat) (L : List Wd) (b off cap : Nat) (W : World) (o : Option (Ex × Nat)) (e : Ending) (W' : World) : Prop :=
  ∃ (k m : Int) (t : ByteArray) (bb : Bool) (er : Int) (a1 : Option Addr) (l1 c1 : Nat) (a2 : Option Addr) (l2 c2 : Nat), e = .returned (.tuple #[.agg #[.int .i64 k, .int .i64 m, .string t, .bool bb, .int .i64 er, .slice a1 l1 c1, .slice a2 l2 c2], .bool o.isSome]) ∧ Qx p W W' ∧ (∀ x j, o = some (x, j) → Rdg (fun b => W.heap.size ≤ b) W' x (.agg #[.int .i64 k, .int .i64 m, .string t, .bool bb, .int .i64 er, .slice a1 l1 c1, .slice a2 l2 c2]) ∧ PT W' p L b off cap j)
theorem finP {p : Nat} {L : List Wd} {b off cap : Nat} {W w3 : World} (o : Option (Ex × Nat)) (k m : Int) (t : ByteArray) (bb : Bool) (er : Int) (a1 : Option Addr) (l1 c1 : Nat) (a2 : Option Addr) (l2 c2 : Nat) (hp : p < W.heap.size) (hb : b < W.heap.size) (hq : Qx p W w3) (hr : ∀ x j, o = some (x, j) → Rdg (fun b => W.heap.size + 1 ≤ b) w3 x (.agg #[.int .i64 k, .int .i64 m, .string t, .bool bb, .int .i64 er, .slice a1 l1 c1, .slice a2 l2 c2]) ∧ PT w3 p L b off cap j) :
    RepP p L b off cap W o (.returned (.tuple #[.agg #[.int .i64 k, .int .i64 m, .string t, .bool bb, .int .i64 er, .slice a1 l1 c1, .slice a2 l2 c2], .bool o.isSome])) (((((((w3.setCell ⟨W.heap.size, 0, none⟩ (.int .i64 k)).setCell ⟨W.heap.size, 1, none⟩ (.int .i64 m)).setCell ⟨W.heap.size, 2, none⟩ (.string t)).setCell ⟨W.heap.size, 3, none⟩ (.bool bb)).setCell ⟨W.heap.size, 4, none⟩ (.int .i64 er)).setCell ⟨W.heap.size, 5, none⟩ (.slice a1 l1 c1)).setCell ⟨W.heap.size, 6, none⟩ (.slice a2 l2 c2)) := by
  have QF : Qx W.heap.size w3 (((((((w3.setCell ⟨W.heap.size, 0, none⟩ (.int .i64 k)).setCell ⟨W.heap.size, 1, none⟩ (.int .i64 m)).setCell ⟨W.heap.size, 2, none⟩ (.string t)).setCell ⟨W.heap.size, 3, none⟩ (.bool bb)).setCell ⟨W.heap.size, 4, none⟩ (.int .i64 er)).setCell ⟨W.heap.size, 5, none⟩ (.slice a1 l1 c1)).setCell ⟨W.heap.size, 6, none⟩ (.slice a2 l2 c2)) := (((((((Qx.refl _ _).own _ _).own _ _).own _ _).own _ _).own _ _).own _ _).own _ _
  refine ⟨k, m, t, bb, er, a1, l1, c1, a2, l2, c2, rfl, ?_, fun x j e => ?_⟩
  · exact ((((((hq.new (Nat.le_refl _) _ _).new (Nat.le_refl _) _ _).new (Nat.le_refl _) _ _).new (Nat.le_refl _) _ _).new (Nat.le_refl _) _ _).new (Nat.le_refl _) _ _).new (Nat.le_refl _) _ _
  · obtain ⟨h1, h2⟩ := hr x j e
    exact ⟨Rdg.mono (fun b hb => by omega) _ _ (Rdg.on QF (fun b hb => by omega) _ _ h1), h2.onx QF (by omega) (by omega) (by have := h2.p5; omega)⟩
theorem RepP.in {p : Nat} {L : List Wd} {b off cap : Nat} {W W' : World} {o : Option (Ex × Nat)} {e : Ending} (h : RepP p L b off cap W o e W') : ∃ (k m : Int) (t : ByteArray) (bb : Bool) (er : Int) (a1 : Option Addr) (l1 c1 : Nat) (a2 : Option Addr) (l2 c2 : Nat), e = .returned (.tuple #[.agg #[.int .i64 k, .int .i64 m, .string t, .bool bb, .int .i64 er, .slice a1 l1 c1, .slice a2 l2 c2], .bool o.isSome]) ∧ Qx p W W' ∧ (∀ x j, o = some (x, j) → Rdg (fun b => W.heap.size ≤ b) W' x (.agg #[.int .i64 k, .int .i64 m, .string t, .bool bb, .int .i64 er, .slice a1 l1 c1, .slice a2 l2 c2]) ∧ PT W' p L b off cap j) := h
set_option maxHeartbeats 8000000 in
theorem pahead_no (L : List Wd) (p b off cap i : Nat) (W : World) (h : PT W p L b off cap i) (hi : i < L.length) (hr : L.length ≤ 50000) (hw : isW L i [45] = false) (o : Option (Ex × Nat)) (HT : Hid (∀ W1, PT W1 p L b off cap i → Calls Tryz.prog 167 #[.pointer (some ⟨p, 0, none⟩)] W1 fun e W' => RepP p L b off cap W1 o e W')) :
    Calls Tryz.prog 142 #[.pointer (some ⟨p, 0, none⟩)] W fun e W' => RepP p L b off cap W o e W' := by
  have hlt := h.lt
  have hbW := h.blk i hi
  have HP := hid h
  have HZ := hid (tb_new W (.int .i64 0) (.int .i64 0) (.string ⟨#[]⟩) (.bool false) (.int .i64 0) (.slice none 0 0) (.slice none 0 0) 26)
  have hc := hid (fun W1 (g : PT W1 p L b off cap i) => ptake_any W1 p L b off cap i ⟨#[45]⟩ g hi hr (by simp))
  rw [show (⟨#[45]⟩ : ByteArray).data.toList = [45] from rfl, hw] at hc
  clear h
  go_enter Tryz.func142, Tryz.ntmps142
  go_wp2_with (first | (go_at_call 166; refine (hc.out _ (HP.out.on (by repeat (first | with_reducible exact Q.refl _ | with_reducible refine Q.drewN ?_ _ | with_reducible refine Q.drew ?_ | with_reducible refine Q.alloc ?_ _ | with_reducible refine Q.setCell ?_ (by simp) _)))).mono ?_; rintro e w1 ⟨rfl, q1, p1⟩; have Q1 : Hid (Qx p W w1) := hid (Qx.trans (by repeat (first | with_reducible exact Qx.refl _ _ | with_reducible refine Qx.drewN ?_ _ | with_reducible refine Qx.drew ?_ | with_reducible refine Qx.alloc ?_ _ | with_reducible refine Qx.own ?_ _ _ | with_reducible refine Qx.new ?_ (by simp) _ _)) q1); have P1 := hid p1; have Z1 := hid (HZ.out.on q1 (by omega)); have hsw : W.heap.size < w1.heap.size := World.block_lt_of_cell? w1 ⟨W.heap.size, 0, none⟩ Z1.out.g0; clear q1 p1) | (go_at_call 167; refine (HT.out _ P1.out).mono ?_; rintro e w2 h2; obtain ⟨k, m, t, bb, er, a1, l1, c1, a2, l2, c2, rfl, q2, r2⟩ := h2.in; have Q2 := hid q2; have R2 := hid r2; clear h2 q2 r2; have Z2 := hid (Z1.out.on Q2.out (by omega)); have d0 := Z2.out.g0; have d1 := Z2.out.g1; have d2 := Z2.out.g2; have d3 := Z2.out.g3; have d4 := Z2.out.g4; have d5 := Z2.out.g5; have d6 := Z2.out.g6; have y0 := Z2.out.f 0; have y1 := Z2.out.f 1; have y2 := Z2.out.f 2; have y3 := Z2.out.f 3; have y4 := Z2.out.f 4; have y5 := Z2.out.f 5; have y6 := Z2.out.f 6))
  refine bodyPost_ret (v := .tuple #[.agg #[.int .i64 k, .int .i64 m, .string t, .bool bb, .int .i64 er, .slice a1 l1 c1, .slice a2 l2 c2], .bool o.isSome]) (by simp [results, Tryz.results142, go_sem, d0, d1, d2, d3, d4, d5, d6]) rfl ?_
  exact finP o k m t bb er a1 l1 c1 a2 l2 c2 hlt hbW (Q1.out.trans Q2.out) (fun x j e => ⟨Rdg.mono (fun b hb => by omega) _ _ (R2.out x j e).1, (R2.out x j e).2⟩)
set_option maxHeartbeats 8000000 in
theorem pahead_yes (L : List Wd) (p b off cap i : Nat) (W : World) (h : PT W p L b off cap i) (hi : i < L.length) (hr : L.length ≤ 50000) (hw : isW L i [45] = true) (o : Option (Ex × Nat)) (HT : Hid (∀ W1, PT W1 p L b off cap (i + 1) → Calls Tryz.prog 142 #[.pointer (some ⟨p, 0, none⟩)] W1 fun e W' => RepP p L b off cap W1 o e W')) :
    Calls Tryz.prog 142 #[.pointer (some ⟨p, 0, none⟩)] W fun e W' => RepP p L b off cap W (o.map fun r => (negE r.1, r.2)) e W' := by
  have hlt := h.lt
  have hbW := h.blk i hi
  have HP := hid h
  have HZ := hid (tb_new W (.int .i64 0) (.int .i64 0) (.string ⟨#[]⟩) (.bool false) (.int .i64 0) (.slice none 0 0) (.slice none 0 0) 26)
  have hc := hid (fun W1 (g : PT W1 p L b off cap i) => ptake_any W1 p L b off cap i ⟨#[45]⟩ g hi hr (by simp))
  rw [show (⟨#[45]⟩ : ByteArray).data.toList = [45] from rfl, hw] at hc
  clear h
  go_enter Tryz.func142, Tryz.ntmps142
  go_wp2_with (first | (go_at_call 166; refine (hc.out _ (HP.out.on (by repeat (first | with_reducible exact Q.refl _ | with_reducible refine Q.drewN ?_ _ | with_reducible refine Q.drew ?_ | with_reducible refine Q.alloc ?_ _ | with_reducible refine Q.setCell ?_ (by simp) _)))).mono ?_; rintro e w1 ⟨rfl, q1, p1⟩; have Q1 : Hid (Qx p W w1) := hid (Qx.trans (by repeat (first | with_reducible exact Qx.refl _ _ | with_reducible refine Qx.drewN ?_ _ | with_reducible refine Qx.drew ?_ | with_reducible refine Qx.alloc ?_ _ | with_reducible refine Qx.own ?_ _ _ | with_reducible refine Qx.new ?_ (by simp) _ _)) q1); have P1 := hid p1; have Z1 := hid (HZ.out.on q1 (by omega)); have hsw : W.heap.size < w1.heap.size := World.block_lt_of_cell? w1 ⟨W.heap.size, 0, none⟩ Z1.out.g0; clear q1 p1) | (go_at_call 142; refine (HT.out _ P1.out).mono ?_; rintro e w2 h2; obtain ⟨k, m, t, bb, er, a1, l1, c1, a2, l2, c2, rfl, q2, r2⟩ := h2.in; have Q2 := hid q2; have R2 := hid r2; clear h2 q2 r2; have hs2 : w1.heap.size ≤ w2.heap.size := Q2.out.size; have Z2 := hid (((Z1.out.on Q2.out (by omega)).on ((Qx.refl p _).alloc (.cells #[.int .i64 k, .int .i64 m, .string t, .bool bb, .int .i64 er, .slice a1 l1 c1, .slice a2 l2 c2] 26)) (by omega)).on ((Qx.refl p _).alloc (.cells #[.int .i64 k, .int .i64 m, .string t, .bool bb, .int .i64 er, .slice a1 l1 c1, .slice a2 l2 c2] 26)) (by omega)); have d0 := Z2.out.g0; have d1 := Z2.out.g1; have d2 := Z2.out.g2; have d3 := Z2.out.g3; have d4 := Z2.out.g4; have d5 := Z2.out.g5; have d6 := Z2.out.g6; have y0 := Z2.out.f 0; have y1 := Z2.out.f 1; have y2 := Z2.out.f 2; have y3 := Z2.out.f 3; have y4 := Z2.out.f 4; have y5 := Z2.out.f 5; have y6 := Z2.out.f 6))
  refine bodyPost_ret (v := .tuple #[.agg #[.int .i64 7, .int .i64 0, .string ⟨#[]⟩, .bool false, .int .i64 0, .slice none 0 0, .slice (some ⟨w2.heap.size + 1, 0, none⟩) 1 1], .bool o.isSome]) (by simp [results, Tryz.results142, go_sem, d0, d1, d2, d3, d4, d5, d6]) rfl ?_
  rw [show o.isSome = (o.map fun r => (negE r.1, r.2)).isSome by cases o <;> rfl]
  refine finP (o.map fun r => (negE r.1, r.2)) 7 0 ⟨#[]⟩ false 0 none 0 0 (some ⟨w2.heap.size + 1, 0, none⟩) 1 1 hlt hbW (((Q1.out.trans Q2.out).alloc _).alloc _) (fun x j e => ?_)
  obtain ⟨⟨y, j'⟩, ho, e2⟩ := Option.map_eq_some_iff.1 e
  cases e2
  obtain ⟨r1, r2⟩ := R2.out y j' ho
  have K3 := tb_new (w2.alloc (.cells #[.int .i64 k, .int .i64 m, .string t, .bool bb, .int .i64 er, .slice a1 l1 c1, .slice a2 l2 c2] 26)) (.int .i64 k) (.int .i64 m) (.string t) (.bool bb) (.int .i64 er) (.slice a1 l1 c1) (.slice a2 l2 c2) 26
  rw [show (w2.alloc (.cells #[.int .i64 k, .int .i64 m, .string t, .bool bb, .int .i64 er, .slice a1 l1 c1, .slice a2 l2 c2] 26)).heap.size = w2.heap.size + 1 by simp] at K3
  have PF := pl_new (w2.alloc (.cells #[.int .i64 k, .int .i64 m, .string t, .bool bb, .int .i64 er, .slice a1 l1 c1, .slice a2 l2 c2] 26)) #[.int .i64 k, .int .i64 m, .string t, .bool bb, .int .i64 er, .slice a1 l1 c1, .slice a2 l2 c2] 26
  rw [show (w2.alloc (.cells #[.int .i64 k, .int .i64 m, .string t, .bool bb, .int .i64 er, .slice a1 l1 c1, .slice a2 l2 c2] 26)).heap.size = w2.heap.size + 1 by simp] at PF
  refine ⟨rdg_kids 7 [] ⟨#[]⟩ rfl [y] (w2.heap.size + 1) 1 (show _ ≤ _ by omega) (by simp) (by unfold maxLen; omega) PF ?_, (r2.on ((Q.refl _).alloc _)).on ((Q.refl _).alloc _)⟩
  unfold Rdg.RdLg
  refine ⟨⟨_, _, _, _, _, _, _, K3.g0, K3.g1, K3.g2, K3.g3, K3.g4, K3.g5, K3.g6, Rdg.mono (fun b hb => by omega) _ _ (Rdg.on ((Qx.refl p _).alloc _) (fun b hb => by omega) _ _ (Rdg.on ((Qx.refl p _).alloc _) (fun b hb => by omega) _ _ r1))⟩, ?_⟩
  unfold Rdg.RdLg
  trivial
theorem stg_sgn (L : List Wd) (i : Nat) : stg L i = lvl (sgnL L i) := by
  unfold stg sgnL
  split
  · rfl
  · rfl
theorem pfar_of {W : World} {p : Nat} {L : List Wd} {b off cap i : Nat} (h : PT W p L b off cap i) : far p W = i := by
  unfold far
  rw [h.c1]
  simp
def mzP (n p : Nat) (v : Value) (W : World) : Nat := match v with
  | .bool true => n + 1 - far p W
  | _ => 0
theorem pl_go {E : Env} {L : List Wd} {f lv j : Nat} {x : Ex} {R : Option (Ex × Nat)} (h : lv ≤ stg L j) (e : ptF.plF E L f lv x j = some R) : ∃ g o, f = g + 1 ∧ ptF E L g (stg L j + 1) (j + 1) = some o ∧ (o = none → R = none) ∧ (∀ r, o = some r → ptF.plF E L g lv (binE (tAt L j) x r.1) r.2 = some R) := by
  cases f with
  | zero => unfold ptF.plF at e; cases e
  | succ f =>
    rw [ptF.plF, if_pos h] at e
    obtain ⟨o, h1, h2⟩ := Option.bind_eq_some_iff.1 e
    refine ⟨f, o, rfl, h1, fun ho => ?_, fun r ho => ?_⟩
    · subst ho; exact (Option.some.inj h2).symm
    · subst ho; exact h2
theorem pl_stop {E : Env} {L : List Wd} {f lv j : Nat} {x : Ex} {R : Option (Ex × Nat)} (h : ¬ lv ≤ stg L j) (e : ptF.plF E L f lv x j = some R) : R = some (x, j) := by
  cases f with
  | zero => unfold ptF.plF at e; cases e
  | succ f => rw [ptF.plF, if_neg h] at e; exact (Option.some.inj e).symm
structure LP (L : List Wd) (p b off cap lv : Nat) (W : World) (X0 : Nat) (R : Option (Ex × Nat)) (ok : Bool) (W' : World) (f' : Nat) (k m : Int) (t : ByteArray) (bb : Bool) (er : Int) (a1 : Option Addr) (l1 c1 : Nat) (a2 : Option Addr) (l2 c2 : Nat) : Prop where
  xb : Tb W' X0 (.int .i64 k) (.int .i64 m) (.string t) (.bool bb) (.int .i64 er) (.slice a1 l1 c1) (.slice a2 l2 c2)
  zb : Tb W' W.heap.size (.int .i64 0) (.int .i64 0) (.string ⟨#[]⟩) (.bool false) (.int .i64 0) (.slice none 0 0) (.slice none 0 0)
  qx : Qx p W W'
  no : ok = false → R = none
  yes : ok = true → ∃ y j, j < L.length ∧ PT W' p L b off cap j ∧ ptF.plF EE L f' lv y j = some R ∧ Rdg (fun b => W.heap.size + 1 ≤ b ∧ b ≠ X0) W' y (.agg #[.int .i64 k, .int .i64 m, .string t, .bool bb, .int .i64 er, .slice a1 l1 c1, .slice a2 l2 c2])
set_option maxHeartbeats 16000000 in
theorem ptree_step (L : List Wd) (hE : Ends L) (p b off cap lv i : Nat) (W : World) (h : PT W p L b off cap i) (hi : i < L.length) (hr : L.length ≤ 50000) (hv0 : 1 ≤ lv) (hv : lv ≤ 5) (oa R : Option (Ex × Nat)) (f0 : Nat) (HRn : oa = none → R = none) (HRy : Hid (∀ r, oa = some r → ptF.plF EE L f0 lv r.1 r.2 = some R ∧ r.2 < L.length))
    (HA : Hid (∀ W1, PT W1 p L b off cap i → Calls Tryz.prog 142 #[.pointer (some ⟨p, 0, none⟩)] W1 fun e W' => RepP p L b off cap W1 oa e W'))
    (HT2 : Hid (∀ f' lv' j o W1, f' < f0 → 1 ≤ lv' → lv' ≤ 5 → ptF EE L f' lv' j = some o → PT W1 p L b off cap j → j < L.length → Calls Tryz.prog 108 #[.pointer (some ⟨p, 0, none⟩), .int .i64 (lv' : Int)] W1 fun e W' => RepP p L b off cap W1 o e W')) :
    Calls Tryz.prog 108 #[.pointer (some ⟨p, 0, none⟩), .int .i64 (lv : Int)] W fun e W' => RepP p L b off cap W R e W' := by
  have hlt := h.lt
  have hbW := h.blk i hi
  have HP0 := hid (h.on ((Q.refl _).alloc (.cells #[.int .i64 0, .int .i64 0, .string ⟨#[]⟩, .bool false, .int .i64 0, .slice none 0 0, .slice none 0 0] 26)))
  have HZ := hid (tb_new W (.int .i64 0) (.int .i64 0) (.string ⟨#[]⟩) (.bool false) (.int .i64 0) (.slice none 0 0) (.slice none 0 0) 26)
  have HN := hid HRn
  clear h HRn
  go_enter Tryz.func108, Tryz.ntmps108
  go_wp2_with (go_at_call 142; refine (HA.out _ HP0.out).mono ?_; rintro e w2 h2; obtain ⟨k, m, t, bb, er, a1, l1, c1, a2, l2, c2, rfl, q2, r2⟩ := h2.in; have Q2 := hid q2; have R2 := hid r2; clear h2 q2 r2; have Z2 := hid (HZ.out.on Q2.out (by omega)))
  have hsz : W.heap.size + 1 ≤ w2.heap.size := by have := Q2.out.size; simp at this; omega
  have HI : Hid (LP L p b off cap lv W w2.heap.size R oa.isSome (w2.alloc (.cells #[.int .i64 k, .int .i64 m, .string t, .bool bb, .int .i64 er, .slice a1 l1 c1, .slice a2 l2 c2] 26)) f0 k m t bb er a1 l1 c1 a2 l2 c2) := by
    refine hid ⟨tb_new _ _ _ _ _ _ _ _ _, Z2.out.on ((Qx.refl p _).alloc _) (by omega), (((Qx.refl p W).alloc _).trans Q2.out).alloc _, fun e => HN.out (by simpa using e), fun e => ?_⟩
    obtain ⟨⟨y, j⟩, ho⟩ := Option.isSome_iff_exists.1 e
    obtain ⟨r1, r2⟩ := R2.out y j ho
    obtain ⟨e1, e2⟩ := HRy.out _ ho
    exact ⟨y, j, e2, r2.on ((Q.refl _).alloc _), e1, Rdg.on ((Qx.refl p _).alloc _) (fun b hb => by omega) _ _ (Rdg.mono (fun b hb => by simp at hb; omega) _ _ (Rdg.in _ _ r1))⟩
  generalize oa.isSome = ok0 at HI ⊢
  clear HN HRy HA R2
  go_loopw [7, 8, 9] (fun u _ _ W' => ∃ (ok : Bool) (f' : Nat) (k m : Int) (t : ByteArray) (bb : Bool) (er : Int) (a1 : Option Addr) (l1 c1 : Nat) (a2 : Option Addr) (l2 c2 : Nat), u = .bool ok ∧ f' ≤ f0 ∧ LP L p b off cap lv W w2.heap.size R ok W' f' k m t bb er a1 l1 c1 a2 l2 c2) (fun u _ _ W' => mzP L.length p u W')
  case atStart => exact ⟨ok0, f0, k, m, t, bb, er, a1, l1, c1, a2, l2, c2, rfl, Nat.le_refl _, HI.out⟩
  case round =>
    obtain ⟨ok, f', k, m, t, bb, er, a1, l1, c1, a2, l2, c2, rfl, hf', hI⟩ := hrel
    have HI2 := hid hI
    have xg0 := hI.xb.g0
    have xg1 := hI.xb.g1
    have xg2 := hI.xb.g2
    have xg3 := hI.xb.g3
    have xg4 := hI.xb.g4
    have xg5 := hI.xb.g5
    have xg6 := hI.xb.g6
    have hXr : w2.heap.size < wr.heap.size := World.block_lt_of_cell? wr ⟨w2.heap.size, 0, none⟩ xg0
    cases ok
    · have eR := hI.no rfl
      subst eR
      have zg0 := hI.zb.g0
      have zg1 := hI.zb.g1
      have zg2 := hI.zb.g2
      have zg3 := hI.zb.g3
      have zg4 := hI.zb.g4
      have zg5 := hI.zb.g5
      have zg6 := hI.zb.g6
      have zf0 := hI.zb.f 0
      have zf1 := hI.zb.f 1
      have zf2 := hI.zb.f 2
      have zf3 := hI.zb.f 3
      have zf4 := hI.zb.f 4
      have zf5 := hI.zb.f 5
      have zf6 := hI.zb.f 6
      have hXz : w2.heap.size ≠ W.heap.size := by omega
      clear hI
      go_wp2_with fail
      refine bodyPost_ret (v := .tuple #[.agg #[.int .i64 k, .int .i64 m, .string t, .bool bb, .int .i64 er, .slice a1 l1 c1, .slice a2 l2 c2], .bool false]) (by simp [results, Tryz.results108, go_sem, zg0, zg1, zg2, zg3, zg4, zg5, zg6]) rfl ?_
      exact finP none k m t bb er a1 l1 c1 a2 l2 c2 hlt hbW HI2.out.qx (fun x j e => by cases e)
    · obtain ⟨y, j, hj, pj, ej, rj⟩ := hI.yes rfl
      have PJ := hid pj
      have RJ := hid rj
      have HSG := hid (fun W1 (g : PT W1 p L b off cap j) => psign_any W1 p L b off cap j g hj hr)
      obtain ⟨T, hT, lT⟩ : ∃ T : ByteArray, ⟨(sgnL L j).toArray⟩ = T ∧ T.data.toList = sgnL L j := ⟨_, rfl, rfl⟩
      rw [hT] at HSG
      have HST := hid (fun W => strength_any T W)
      rw [lT, ← stg_sgn] at HST
      have LT := hid lT
      have hsl := stg_le L j
      by_cases hgo : lv ≤ stg L j
      · obtain ⟨g, o, rfl, hpt, hon, hoy⟩ := pl_go hgo ej
        have k6 : kAt L j = 6 := stg_six (by omega)
        have hj1 : j + 1 < L.length := hE j hj (by omega)
        have ge : (lv : Int) ≤ (stg L j : Int) := by omega
        have HTR := hid (fun W1 (g1 : PT W1 p L b off cap (j + 1)) => HT2.out g (stg L j + 1) (j + 1) o W1 (by omega) (by omega) (by omega) hpt g1 hj1)
        rw [show (((stg L j + 1 : Nat) : Int)) = (stg L j : Int) + 1 by omega] at HTR
        have HON := hid hon
        have HOY := hid hoy
        have HPT := hid hpt
        have hsl2 : (stg L j : Int) ≤ 4 := by omega
        generalize (stg L j : Int) = sv at HST ge HTR hsl2
        clear hI hT lT pj rj ej hon hoy hpt
        clear xg0 xg1 xg2 xg3 xg4 xg5 xg6
        go_upto_region 7 with (first | (go_at_call 108; refine (HTR.out _ ((P5.out.set1 (j + 1) _ (by go_num)).on ((Q.refl _).alloc _))).mono ?_; rintro e w6 h6; obtain ⟨k3, m3, t3, bb3, er3, a13, l13, c13, a23, l23, c23, rfl, q6, r6⟩ := h6.in; have B6 := hid ((tb_new (w5.setCell ⟨p, 1, none⟩ (.int .i64 ((j : Int) + 1))) (.int .i64 0) (.int .i64 0) (.string ⟨#[]⟩) (.bool false) (.int .i64 0) (.slice none 0 0) (.slice none 0 0) 26).on q6 (by simp [World.setCell]; omega)); have Q6 : Hid (Qx p wr w6) := hid (((((Qx.of Q5.out).own 1 (.int .i64 ((j : Int) + 1))).alloc _)).trans q6); have R6 := hid r6; have X6 := hid (HI2.out.xb.on Q6.out (by omega)); clear h6 q6 r6; rw [hz5] at B6; have s0 := B6.out.g0; have s1 := B6.out.g1; have s2 := B6.out.g2; have s3 := B6.out.g3; have s4 := B6.out.g4; have s5 := B6.out.g5; have s6 := B6.out.g6; have u0 := B6.out.f 0; have u1 := B6.out.f 1; have u2 := B6.out.f 2; have u3 := B6.out.f 3; have u4 := B6.out.f 4; have u5 := B6.out.f 5; have u6 := B6.out.f 6) | (go_at_call 143; refine (HSG.out _ P4.out).mono ?_; rintro e w5 ⟨rfl, q5⟩; have Q5 : Hid (Q wr w5) := hid (Q4.out.trans q5); have P5 := hid (P4.out.on q5); clear q5; have a1' := P5.out.c1; have a2' := P5.out.f1; have hs5 : wr.heap.size ≤ w5.heap.size := Q5.out.size; have hX5 : w2.heap.size ≠ w5.heap.size := (by omega); have hp5 : p ≠ w5.heap.size := (by omega); have hz5 : ∀ v, (w5.setCell ⟨p, 1, none⟩ v).heap.size = w5.heap.size := (fun v => by simp [World.setCell])) | (go_at_call 143; refine (HSG.out _ PJ.out).mono ?_; rintro e w4 ⟨rfl, q4⟩; have Q4 := hid q4; have P4 := hid (PJ.out.on q4); clear q4) | (go_at_call 125; refine (HST.out _).mono ?_; rintro e w9 ⟨rfl, h9⟩; replace h9 := h9.symm; subst h9))
        have hs6 : w5.heap.size + 1 ≤ w6.heap.size := World.block_lt_of_cell? w6 ⟨w5.heap.size, 0, none⟩ B6.out.g0
        have QB : Qx w5.heap.size w6 (((((((w6.setCell ⟨w5.heap.size, 0, none⟩ (.int .i64 k3)).setCell ⟨w5.heap.size, 1, none⟩ (.int .i64 m3)).setCell ⟨w5.heap.size, 2, none⟩ (.string t3)).setCell ⟨w5.heap.size, 3, none⟩ (.bool bb3)).setCell ⟨w5.heap.size, 4, none⟩ (.int .i64 er3)).setCell ⟨w5.heap.size, 5, none⟩ (.slice a13 l13 c13)).setCell ⟨w5.heap.size, 6, none⟩ (.slice a23 l23 c23)) := (((((((Qx.refl _ _).own _ _).own _ _).own _ _).own _ _).own _ _).own _ _).own _ _
        have z7 : (((((((w6.setCell ⟨w5.heap.size, 0, none⟩ (.int .i64 k3)).setCell ⟨w5.heap.size, 1, none⟩ (.int .i64 m3)).setCell ⟨w5.heap.size, 2, none⟩ (.string t3)).setCell ⟨w5.heap.size, 3, none⟩ (.bool bb3)).setCell ⟨w5.heap.size, 4, none⟩ (.int .i64 er3)).setCell ⟨w5.heap.size, 5, none⟩ (.slice a13 l13 c13)).setCell ⟨w5.heap.size, 6, none⟩ (.slice a23 l23 c23)).heap.size = w6.heap.size := by simp [World.setCell]
        have X7 := X6.out.on QB hX5
        have B7 := B6.out.put (.int .i64 k3) (.int .i64 m3) (.string t3) (.bool bb3) (.int .i64 er3) (.slice a13 l13 c13) (.slice a23 l23 c23)
        have Z7 := (HI2.out.zb.on Q6.out (by omega)).on QB (by omega)
        have hWr := HI2.out.qx.size
        have hqw : Qx p W (((((((w6.setCell ⟨w5.heap.size, 0, none⟩ (.int .i64 k3)).setCell ⟨w5.heap.size, 1, none⟩ (.int .i64 m3)).setCell ⟨w5.heap.size, 2, none⟩ (.string t3)).setCell ⟨w5.heap.size, 3, none⟩ (.bool bb3)).setCell ⟨w5.heap.size, 4, none⟩ (.int .i64 er3)).setCell ⟨w5.heap.size, 5, none⟩ (.slice a13 l13 c13)).setCell ⟨w5.heap.size, 6, none⟩ (.slice a23 l23 c23)) := by
          have q0 : Qx p W w6 := HI2.out.qx.trans Q6.out
          have hw5 : W.heap.size ≤ w5.heap.size := by omega
          exact ((((((q0.new hw5 _ _).new hw5 _ _).new hw5 _ _).new hw5 _ _).new hw5 _ _).new hw5 _ _).new hw5 _ _
        have hy : o.isSome = true → ∃ r, o = some r ∧ PT (((((((w6.setCell ⟨w5.heap.size, 0, none⟩ (.int .i64 k3)).setCell ⟨w5.heap.size, 1, none⟩ (.int .i64 m3)).setCell ⟨w5.heap.size, 2, none⟩ (.string t3)).setCell ⟨w5.heap.size, 3, none⟩ (.bool bb3)).setCell ⟨w5.heap.size, 4, none⟩ (.int .i64 er3)).setCell ⟨w5.heap.size, 5, none⟩ (.slice a13 l13 c13)).setCell ⟨w5.heap.size, 6, none⟩ (.slice a23 l23 c23)) p L b off cap r.2 ∧ ptF.plF EE L g lv (binE (tAt L j) y r.1) r.2 = some R ∧ Rdg (fun b => W.heap.size + 1 ≤ b ∧ b ≠ w2.heap.size) (((((((w6.setCell ⟨w5.heap.size, 0, none⟩ (.int .i64 k3)).setCell ⟨w5.heap.size, 1, none⟩ (.int .i64 m3)).setCell ⟨w5.heap.size, 2, none⟩ (.string t3)).setCell ⟨w5.heap.size, 3, none⟩ (.bool bb3)).setCell ⟨w5.heap.size, 4, none⟩ (.int .i64 er3)).setCell ⟨w5.heap.size, 5, none⟩ (.slice a13 l13 c13)).setCell ⟨w5.heap.size, 6, none⟩ (.slice a23 l23 c23)) y (.agg #[.int .i64 k, .int .i64 m, .string t, .bool bb, .int .i64 er, .slice a1 l1 c1, .slice a2 l2 c2]) ∧ Rdg (fun b => W.heap.size + 1 ≤ b ∧ b ≠ w2.heap.size) (((((((w6.setCell ⟨w5.heap.size, 0, none⟩ (.int .i64 k3)).setCell ⟨w5.heap.size, 1, none⟩ (.int .i64 m3)).setCell ⟨w5.heap.size, 2, none⟩ (.string t3)).setCell ⟨w5.heap.size, 3, none⟩ (.bool bb3)).setCell ⟨w5.heap.size, 4, none⟩ (.int .i64 er3)).setCell ⟨w5.heap.size, 5, none⟩ (.slice a13 l13 c13)).setCell ⟨w5.heap.size, 6, none⟩ (.slice a23 l23 c23)) r.1 (.agg #[.int .i64 k3, .int .i64 m3, .string t3, .bool bb3, .int .i64 er3, .slice a13 l13 c13, .slice a23 l23 c23]) ∧ j + 1 < r.2 ∧ r.2 < L.length := by
          intro e
          obtain ⟨⟨x', j'⟩, ho⟩ := Option.isSome_iff_exists.1 e
          obtain ⟨r1, r2⟩ := R6.out x' j' ho
          have hpos := (pfwd_all EE L hE g).1 _ _ _ _ (by omega) hj1 (ho ▸ HPT.out)
          refine ⟨_, ho, r2.onx QB hp5 (by omega) (by have := r2.p5; omega), HOY.out _ ho, ?_, ?_, hpos⟩
          · exact Rdg.mono (fun b hb => hb.1) _ _ (Rdg.on QB (fun b hb => by omega) _ _ (Rdg.on Q6.out (fun b hb => by omega) _ _ (Rdg.in _ _ RJ.out)))
          · have r1' : Rdg (fun b => w5.heap.size + 1 ≤ b) w6 x' _ := Rdg.mono (fun b hb => by simp [World.setCell] at hb; exact hb) _ _ r1
            exact Rdg.mono (fun b hb => ⟨by omega, by omega⟩) _ _ (Rdg.on QB (fun b hb => by omega) _ _ r1')
        have ok8 : (lv : Int) ≤ 5 := by omega
        generalize (((((((w6.setCell ⟨w5.heap.size, 0, none⟩ (.int .i64 k3)).setCell ⟨w5.heap.size, 1, none⟩ (.int .i64 m3)).setCell ⟨w5.heap.size, 2, none⟩ (.string t3)).setCell ⟨w5.heap.size, 3, none⟩ (.bool bb3)).setCell ⟨w5.heap.size, 4, none⟩ (.int .i64 er3)).setCell ⟨w5.heap.size, 5, none⟩ (.slice a13 l13 c13)).setCell ⟨w5.heap.size, 6, none⟩ (.slice a23 l23 c23)) = V7w at *
        clear QB s0 s1 s2 s3 s4 s5 s6 u0 u1 u2 u3 u4 u5 u6
        have x0 := X7.g0
        have x1 := X7.g1
        have x2 := X7.g2
        have x3 := X7.g3
        have x4 := X7.g4
        have x5 := X7.g5
        have x6 := X7.g6
        have X8 := X7.on ((Qx.refl p _).alloc (.cells #[.int .i64 k, .int .i64 m, .string t, .bool bb, .int .i64 er, .slice a1 l1 c1, .slice a2 l2 c2, .int .i64 k3, .int .i64 m3, .string t3, .bool bb3, .int .i64 er3, .slice a13 l13 c13, .slice a23 l23 c23] 26)) (by omega)
        have y0 := X8.f 0
        have y1 := X8.f 1
        have y2 := X8.f 2
        have y3 := X8.f 3
        have y4 := X8.f 4
        have y5 := X8.f 5
        have y6 := X8.f 6
        have w0x := X8.g0
        have w1x := X8.g1
        have w2x := X8.g2
        have w3x := X8.g3
        have w4x := X8.g4
        have w5x := X8.g5
        have w6x := X8.g6
        have n0 := B7.g0
        have n1 := B7.g1
        have n2 := B7.g2
        have n3 := B7.g3
        have n4 := B7.g4
        have n5 := B7.g5
        have n6 := B7.g6
        have v0x := X7.f 0
        have v1x := X7.f 1
        have v2x := X7.f 2
        have v3x := X7.f 3
        have v4x := X7.f 4
        have v5x := X7.f 5
        have v6x := X7.f 6
        have X7h := hid X7
        have Z7h := hid Z7
        have HYh := hid hy
        have HQW := hid hqw
        have hXv : w2.heap.size < V7w.heap.size := World.block_lt_of_cell? V7w ⟨w2.heap.size, 0, none⟩ X7.g0
        have hs7 : w5.heap.size + 1 ≤ V7w.heap.size := by omega
        clear X7 X8 Z7 hy hqw B7
        have Z7s := hid z7
        clear z7
        go_wp2_with fail
        have QF : Qx w2.heap.size V7w (((((((V7w.setCell ⟨w2.heap.size, 0, none⟩ (.int .i64 8)).setCell ⟨w2.heap.size, 1, none⟩ (.int .i64 0)).setCell ⟨w2.heap.size, 2, none⟩ (.string T)).setCell ⟨w2.heap.size, 3, none⟩ (.bool false)).setCell ⟨w2.heap.size, 4, none⟩ (.int .i64 0)).setCell ⟨w2.heap.size, 5, none⟩ (.slice none 0 0)).setCell ⟨w2.heap.size, 6, none⟩ (.slice (some ⟨V7w.heap.size, 0, none⟩) 2 2)) := (((((((Qx.refl _ _).own _ _).own _ _).own _ _).own _ _).own _ _).own _ _).own _ _
        have zS : (((((((V7w.setCell ⟨w2.heap.size, 0, none⟩ (.int .i64 8)).setCell ⟨w2.heap.size, 1, none⟩ (.int .i64 0)).setCell ⟨w2.heap.size, 2, none⟩ (.string T)).setCell ⟨w2.heap.size, 3, none⟩ (.bool false)).setCell ⟨w2.heap.size, 4, none⟩ (.int .i64 0)).setCell ⟨w2.heap.size, 5, none⟩ (.slice none 0 0)).setCell ⟨w2.heap.size, 6, none⟩ (.slice (some ⟨V7w.heap.size, 0, none⟩) 2 2)).heap.size = V7w.heap.size := by simp [World.setCell]
        have hptf : ∀ r, o = some r → PT ((((((((V7w.setCell ⟨w2.heap.size, 0, none⟩ (.int .i64 8)).setCell ⟨w2.heap.size, 1, none⟩ (.int .i64 0)).setCell ⟨w2.heap.size, 2, none⟩ (.string T)).setCell ⟨w2.heap.size, 3, none⟩ (.bool false)).setCell ⟨w2.heap.size, 4, none⟩ (.int .i64 0)).setCell ⟨w2.heap.size, 5, none⟩ (.slice none 0 0)).setCell ⟨w2.heap.size, 6, none⟩ (.slice (some ⟨V7w.heap.size, 0, none⟩) 2 2)).alloc (.cells #[.int .i64 k, .int .i64 m, .string t, .bool bb, .int .i64 er, .slice a1 l1 c1, .slice a2 l2 c2, .int .i64 k3, .int .i64 m3, .string t3, .bool bb3, .int .i64 er3, .slice a13 l13 c13, .slice a23 l23 c23] 26)) p L b off cap r.2 := by
          intro r ho
          obtain ⟨r', ho', pt, _⟩ := HYh.out (by rw [ho]; rfl)
          rw [ho] at ho'
          cases ho'
          exact (pt.onx QF (by omega) (by omega) (by have := pt.p5; omega)).on ((Q.refl _).alloc _)
        have HL : LP L p b off cap lv W w2.heap.size R o.isSome ((((((((V7w.setCell ⟨w2.heap.size, 0, none⟩ (.int .i64 8)).setCell ⟨w2.heap.size, 1, none⟩ (.int .i64 0)).setCell ⟨w2.heap.size, 2, none⟩ (.string T)).setCell ⟨w2.heap.size, 3, none⟩ (.bool false)).setCell ⟨w2.heap.size, 4, none⟩ (.int .i64 0)).setCell ⟨w2.heap.size, 5, none⟩ (.slice none 0 0)).setCell ⟨w2.heap.size, 6, none⟩ (.slice (some ⟨V7w.heap.size, 0, none⟩) 2 2)).alloc (.cells #[.int .i64 k, .int .i64 m, .string t, .bool bb, .int .i64 er, .slice a1 l1 c1, .slice a2 l2 c2, .int .i64 k3, .int .i64 m3, .string t3, .bool bb3, .int .i64 er3, .slice a13 l13 c13, .slice a23 l23 c23] 26)) g 8 0 T false 0 none 0 0 (some ⟨V7w.heap.size, 0, none⟩) 2 2 := by
          have hws : W.heap.size ≤ w2.heap.size := by omega
          have hq8 : Qx p W V7w := HQW.out
          refine ⟨(X7h.out.put _ _ _ _ _ _ _).on ((Qx.refl p _).alloc _) (by omega), (Z7h.out.on QF (by omega)).on ((Qx.refl p _).alloc _) (by omega), (((((((hq8.new hws _ _).new hws _ _).new hws _ _).new hws _ _).new hws _ _).new hws _ _).new hws _ _).alloc _, fun e => HON.out (by simpa using e), fun e => ?_⟩
          obtain ⟨r, ho, pt, hpl, ry, rr, _, hrl⟩ := HYh.out e
          refine ⟨_, r.2, hrl, hptf r ho, hpl, ?_⟩
          have K6 := tw_new (((((((V7w.setCell ⟨w2.heap.size, 0, none⟩ (.int .i64 8)).setCell ⟨w2.heap.size, 1, none⟩ (.int .i64 0)).setCell ⟨w2.heap.size, 2, none⟩ (.string T)).setCell ⟨w2.heap.size, 3, none⟩ (.bool false)).setCell ⟨w2.heap.size, 4, none⟩ (.int .i64 0)).setCell ⟨w2.heap.size, 5, none⟩ (.slice none 0 0)).setCell ⟨w2.heap.size, 6, none⟩ (.slice (some ⟨V7w.heap.size, 0, none⟩) 2 2)) (.int .i64 k) (.int .i64 m) (.string t) (.bool bb) (.int .i64 er) (.slice a1 l1 c1) (.slice a2 l2 c2) (.int .i64 k3) (.int .i64 m3) (.string t3) (.bool bb3) (.int .i64 er3) (.slice a13 l13 c13) (.slice a23 l23 c23) 26
          rw [zS] at K6
          have P6 := pl_new (((((((V7w.setCell ⟨w2.heap.size, 0, none⟩ (.int .i64 8)).setCell ⟨w2.heap.size, 1, none⟩ (.int .i64 0)).setCell ⟨w2.heap.size, 2, none⟩ (.string T)).setCell ⟨w2.heap.size, 3, none⟩ (.bool false)).setCell ⟨w2.heap.size, 4, none⟩ (.int .i64 0)).setCell ⟨w2.heap.size, 5, none⟩ (.slice none 0 0)).setCell ⟨w2.heap.size, 6, none⟩ (.slice (some ⟨V7w.heap.size, 0, none⟩) 2 2)) #[.int .i64 k, .int .i64 m, .string t, .bool bb, .int .i64 er, .slice a1 l1 c1, .slice a2 l2 c2, .int .i64 k3, .int .i64 m3, .string t3, .bool bb3, .int .i64 er3, .slice a13 l13 c13, .slice a23 l23 c23] 26
          rw [zS] at P6
          exact rdg_kids 8 (tAt L j) T (by rw [LT.out]; unfold sgnL; rw [if_pos k6]) [y, r.1] V7w.heap.size 2 ⟨by omega, by omega⟩ (by simp) (by unfold maxLen; omega) P6 (K6.two (Rdg.on ((Qx.refl p _).alloc _) (fun b hb => by omega) _ _ (Rdg.on QF (fun b hb => hb.2) _ _ ry)) (Rdg.on ((Qx.refl p _).alloc _) (fun b hb => by omega) _ _ (Rdg.on QF (fun b hb => hb.2) _ _ rr)))
        go_roundw
        case rel => exact ⟨o.isSome, g, 8, 0, T, false, 0, none, 0, 0, some ⟨V7w.heap.size, 0, none⟩, 2, 2, rfl, by omega, HL⟩
        case measure =>
          show mzP L.length p (.bool o.isSome) _ < mzP L.length p (.bool true) wr
          have e1 : mzP L.length p (.bool true) wr = L.length + 1 - j := by unfold mzP; simp only; rw [pfar_of PJ.out]
          rw [e1]
          cases ho : o.isSome
          · show 0 < _
            omega
          · obtain ⟨r, ho', _, _, _, _, hlt', _⟩ := HYh.out ho
            have e2 : ∀ {Wf : World} {jj : Nat}, PT Wf p L b off cap jj → mzP L.length p (.bool true) Wf = L.length + 1 - jj := fun g1 => by unfold mzP; simp only; rw [pfar_of g1]
            rw [e2 (hptf r ho')]
            omega
      · have eR := pl_stop hgo ej
        have ge : ¬ (lv : Int) ≤ (stg L j : Int) := by omega
        generalize (stg L j : Int) = sv at HST ge
        clear hI hT lT pj rj ej
        go_wp2_with (first | (go_at_call 143; refine (HSG.out _ PJ.out).mono ?_; rintro e w4 ⟨rfl, q4⟩; have Q4 := hid q4; have P4 := hid (PJ.out.on q4); have X4 := hid (HI2.out.xb.on (Qx.of (p := p) q4) (by omega)); have Z4 := hid (HI2.out.zb.on (Qx.of (p := p) q4) (by omega)); clear q4; have n0 := X4.out.g0; have n1 := X4.out.g1; have n2 := X4.out.g2; have n3 := X4.out.g3; have n4 := X4.out.g4; have n5 := X4.out.g5; have n6 := X4.out.g6; have d0 := Z4.out.g0; have d1 := Z4.out.g1; have d2 := Z4.out.g2; have d3 := Z4.out.g3; have d4 := Z4.out.g4; have d5 := Z4.out.g5; have d6 := Z4.out.g6; have y0 := Z4.out.f 0; have y1 := Z4.out.f 1; have y2 := Z4.out.f 2; have y3 := Z4.out.f 3; have y4 := Z4.out.f 4; have y5 := Z4.out.f 5; have y6 := Z4.out.f 6; have hXz : w2.heap.size ≠ W.heap.size := (by omega)) | (go_at_call 125; refine (HST.out _).mono ?_; rintro e w9 ⟨rfl, h9⟩; replace h9 := h9.symm; subst h9))
        refine bodyPost_ret (v := .tuple #[.agg #[.int .i64 k, .int .i64 m, .string t, .bool bb, .int .i64 er, .slice a1 l1 c1, .slice a2 l2 c2], .bool true]) (by simp [results, Tryz.results108, go_sem, d0, d1, d2, d3, d4, d5, d6]) rfl ?_
        rw [eR]
        refine finP (some (y, j)) k m t bb er a1 l1 c1 a2 l2 c2 hlt hbW (HI2.out.qx.trans (Qx.of Q4.out)) (fun x' j' e => ?_)
        cases e
        exact ⟨Rdg.mono (fun b hb => hb.1) _ _ (Rdg.on (Qx.of (p := p) Q4.out) (fun b hb => by omega) _ _ RJ.out), P4.out⟩
end Go.Proofs.YtgheopdadfnilaaGreatDoor
