/- frame.Frame; bytes.Clone. -/
import Derived.Test.YtcefpjjefokjjaaDoorFd
import Derived.Laws.MakeOwn
import Derived.Deep.CutBlock
import Derived.Lib.SliceRun
namespace Go.Proofs.YtcefpjjefokjjaaDoor
open Go.RowKit
set_option linter.unusedVariables false
set_option linter.unusedSimpArgs false

/-- two slices, behind one another -/
theorem two_lit {W : World} (a b : Value) : Sl ev 1 (W.alloc (.cells #[a, b] 23)) (.slice (some ⟨W.heap.size, 0, none⟩) 2 2) [a, b] := by
  refine ⟨some ⟨W.heap.size, 0, none⟩, 2, rfl, by simp, by unfold maxLen; omega, fun _ => ⟨W.heap.size, 0, rfl, fun i hi j u hu => ?_⟩⟩
  have hj : j < 1 := (List.getElem?_eq_some_iff.1 hu).1
  have h1 := flat_at ev ev_len [a, b] i hi j hj
  rw [hu] at h1
  have h2 := news_new W (flat ev [a, b]) 23 (i * 1 + j) u h1
  rw [add_lit] at h2
  rw [show 0 + i * 1 + j = 0 + (i * 1 + j) by omega]
  exact h2
theorem sum_two (a b : Value) (A B : List UInt8) (w W : World) (hW : W = w.alloc (.cells #[a, b] 23)) (ht : Tab w) (ha : Sl eb 1 w a A) (hb : Sl eb 1 w b B) :
    Calls Tryd.prog 13 #[.slice (some ⟨w.heap.size, 0, none⟩) 2 2] W fun e W' => e = .returned (.int .u32 (sm (A ++ B))) ∧ W' = W := by
  subst hW
  have q : Q w (w.alloc (.cells #[a, b] 23)) := (Q.refl w).alloc _
  have h := sum_any (.slice (some ⟨w.heap.size, 0, none⟩) 2 2) [a, b] [A, B] _ (ht.on q) (two_lit a b) rfl (fun i h h' => by
    rcases (by simp at h; omega : i = 0 ∨ i = 1) with rfl | rfl
    · exact ha.on q
    · exact hb.on q)
  simpa using h
set_option maxRecDepth 100000 in
set_option maxHeartbeats 4000000 in
theorem frame_any (v : Value) (L : List UInt8) (w : World) (ht : Tab w) (hv : Sb w v L) (hl : L.length ≤ 4194304) :
    Calls Tryd.prog 8 #[v] w fun e W' => ∃ v', e = .returned v' ∧ Own eb 5 1 w.heap.size W' v' (frm L) ∧ Q w W' := by
  have HT := hid ht
  have HV := hid hv
  obtain ⟨ao, cap, rfl, h1, h2⟩ := hv.s.len
  obtain ⟨i0, hi, hz0, hz1, hz2⟩ := inf_of info5
  obtain ⟨w1, hm, ho1, hg1⟩ := run_make_own (P := Tryd.prog) w w.heap.size 23 5 i0 (.int .u8 0) 1 Tryd.underlying23 hi hz0 hz1 .i64 .i64 (8 + L.length) (by rw [hz2]; omega) (by unfold maxLen; omega) (Nat.le_refl _)
  have hm' : (Instr.makeSlice 23 (.int .i64 0) (.int .i64 (8 + (L.length : Int)))).run Tryd.prog w = .ok (.slice (some ⟨w.heap.size, 0, none⟩) 0 (8 + L.length)) w1 := by
    rw [← hm]
    push_cast
    rfl
  have HO1 : Hid (Own eb 5 1 w.heap.size w1 (.slice (some ⟨w.heap.size, 0, none⟩) 0 (8 + L.length)) []) := hid ho1
  have HQ1 : Hid (Q w w1) := hid ((Below.refl _ w).grown hg1 (Nat.le_refl _) (fun k hk => by cases hk))
  have hs1 : w.heap.size ≤ w1.heap.size := HQ1.out.size
  clear ht hv hm ho1 hg1
  have hb : ¬ (4194304 : Int) < (L.length : Int) := by omega
  go_enter Tryd.func8, Tryd.ntmps8
  go_upto_region 4 with fail
  have HA := hid (appn_any w.heap.size _ [] L.length w1 (by omega) HO1.out (by simp) hs1)
  have e32 : (L.length : Int) % 4294967296 = (L.length : Int) := by omega
  go_upto_region 5 with (go_at_call 12; refine HA.out.mono ?_; rintro e9 w2 ⟨v2, rfl, ho9, hb9⟩; have HO2 := hid ho9; have HQ2 : Hid (Q w w2) := hid (Below.trans HQ1.out hb9); clear ho9 hb9)
  have hs2 : w.heap.size ≤ w2.heap.size := HQ2.out.size
  have HM : Hid (frm L = le4 L.length ++ (le4 (sm (le4 L.length ++ L)) ++ L)) := hid rfl
  have hM : (le4 L.length).length = 4 := rfl
  rw [List.nil_append] at HO2
  generalize le4 L.length = M at HO2 HM hM
  obtain ⟨g2, cap2, rfl, _, _, _, _⟩ := HO2.out.shape (by omega)
  rw [hM] at HO2
  have HS := hid (sum_two (.slice (some ⟨g2, 0, none⟩) 4 cap2) (.slice ao L.length cap) M L w2 _ rfl (HT.out.on HQ2.out) (own_sb (e := 5) HO2.out).s (HV.out.on HQ2.out).s)
  have hsm := sm_lt (M ++ L)
  generalize sm (M ++ L) = x at HS hsm HM
  have HO3 : Hid (Own eb 5 1 w.heap.size (w2.alloc (.cells #[.slice (some ⟨g2, 0, none⟩) 4 cap2, .slice ao L.length cap] 23)) (.slice (some ⟨g2, 0, none⟩) 4 cap2) M) := hid (HO2.out.alloc _)
  have HQ3 : Hid (Q w (w2.alloc (.cells #[.slice (some ⟨g2, 0, none⟩) 4 cap2, .slice ao L.length cap] 23))) := hid (HQ2.out.alloc _)
  have HA2 := hid (appn_any w.heap.size (.slice (some ⟨g2, 0, none⟩) 4 cap2) M x (w2.alloc (.cells #[.slice (some ⟨g2, 0, none⟩) 4 cap2, .slice ao L.length cap] 23)) hsm HO3.out (by omega) HQ3.out.size)
  clear HA hm'
  go_upto_region 6 with (first
    | (go_at_call 13; refine HS.out.mono ?_; rintro e9 w3 ⟨rfl, rfl⟩; clear HS)
    | (go_at_call 12; refine HA2.out.mono ?_; rintro e9 w4 ⟨v4, rfl, ho9, hb9⟩; have HO4 := hid ho9; have HQ4 : Hid (Q w w4) := hid (Below.trans HQ3.out hb9); clear ho9 hb9))
  have hx : (le4 x).length = 4 := rfl
  generalize le4 x = X at HO4 HM hx
  go_wp2_with (at_builtin; refine wpl_appb rfl _ _ rfl w.heap.size v4 (M ++ X) rfl HO4.out _ rfl L (HV.out.on HQ4.out) (by rw [List.length_append]; omega) HQ4.out.size ?_)
  intro v' w5 hown hg
  have HF : Hid (Own eb 5 1 w.heap.size w5 v' (frm L)) := hid (by rw [HM.out]; exact hown)
  have HG : Hid (Q w w5) := hid (Below.trans HQ4.out (below_grown HO4.out hg HQ4.out.size))
  clear hown hg
  go_wp2_with fail
  go_ret
  exact ⟨_, rfl, HF.out, HG.out⟩
set_option maxRecDepth 100000 in
set_option maxHeartbeats 4000000 in
theorem frame_long (v : Value) (L : List UInt8) (w : World) (hv : Sb w v L) (hl : 4194304 < L.length) :
    Calls Tryd.prog 8 #[v] w fun e W' => e = .returned (.slice none 0 0) ∧ W' = w := by
  obtain ⟨ao, cap, rfl, h1, h2⟩ := hv.s.len
  have hb : (4194304 : Int) < (L.length : Int) := by omega
  clear hv
  go_enter Tryd.func8, Tryd.ntmps8
  go_wp2_with fail
  go_ret
  exact ⟨rfl, rfl⟩
/-- a copy -/
theorem clone_any (v : Value) (L : List UInt8) (w : World) (hv : Sb w v L) (hl : L.length ≤ 140737488355328) :
    Calls Tryd.prog 17 #[v] w fun e W' => ∃ v', e = .returned v' ∧ Own eb 5 1 w.heap.size W' v' L ∧ Q w W' := by
  have HV := hid hv
  obtain ⟨ao, cap, rfl, h1, h2⟩ := hv.s.len
  have hn := hv.n L.length cap
  have q23 : ∀ (w : World) (a : Option Addr) (n c n' c' : Nat), (binOp .eql 23 (.slice a n c) (.slice none n' c')).run Tryd.prog w = .ok (.bool a.isNone) w := fun w a n c n' c' => Lib.run_eql_slice_nil w _ _ a n c n' c' Tryd.underlying23
  clear hv
  cases ao with
  | none =>
    obtain rfl := hn rfl
    obtain rfl : L = [] := List.eq_nil_of_length_eq_zero (by omega)
    go_enter Tryd.func17, Tryd.ntmps17
    go_wp2_with fail
    go_ret
    exact ⟨_, rfl, own_nil _, Q.refl _⟩
  | some ad =>
    clear hn
    have HO : Hid (Own eb 5 1 w.heap.size (w.alloc (.cells #[] 5)) (.slice (some ⟨w.heap.size, 0, none⟩) 0 0) []) := hid (World.ownsRow_made w #[] 0 (Nat.le_refl _) (Nat.zero_le _) rfl)
    have HQ : Hid (Q w (w.alloc (.cells #[] 5))) := hid ((Q.refl w).alloc _)
    go_enter Tryd.func17, Tryd.ntmps17
    go_wp2_with (at_builtin; refine wpl_appb rfl _ _ rfl w.heap.size _ [] rfl HO.out _ rfl L (HV.out.on HQ.out) (by simpa using hl) HQ.out.size ?_)
    intro v' w5 hown hg
    have HF : Hid (Own eb 5 1 w.heap.size w5 v' L) := hid hown
    have HG : Hid (Q w w5) := hid (Below.trans HQ.out (below_grown HO.out hg HQ.out.size))
    clear hown hg
    go_wp2_with fail
    go_ret
    exact ⟨_, rfl, HF.out, HG.out⟩
end Go.Proofs.YtcefpjjefokjjaaDoor
