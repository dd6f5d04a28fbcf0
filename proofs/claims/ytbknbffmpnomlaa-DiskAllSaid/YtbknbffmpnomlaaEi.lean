/- Both hold the same files. -/
import Derived.Test.YtbknbffmpnomlaaEh
import Derived.Deep.QuietTactic
namespace Go.Proofs.Ytbknbffmpnomlaa
open Go.RowKit
set_option linter.unusedVariables false
set_option linter.unusedSimpArgs false

theorem look_some (l : Fl) (x : ByteArray) : (look l x).isSome = l.any (fun e => decide (e.1 = x)) := by
  induction l with
  | nil => rfl
  | cons e l ih =>
    show (if e.1 = x then some e.2 else look l x).isSome = _
    rw [List.any_cons]
    by_cases h : e.1 = x
    · rw [if_pos h]
      simp [h]
    · rw [if_neg h, ih]
      simp [h]
theorem fn_some (F : List Fn) (x : ByteArray) : (look (F.map Fn.p) x).isSome = F.any (fun d => decide (d.x = x)) := by
  rw [look_some, List.any_map]
  rfl
theorem any_snoc (F : List Fn) (x : ByteArray) (k : Nat) (h : k < F.length) : (F.take (k + 1)).any (fun d => decide (d.x = x)) = ((F.take k).any (fun d => decide (d.x = x)) || decide (F[k].x = x)) := by
  rw [take_snoc F k h, List.any_append]
  simp
set_option maxRecDepth 100000 in
set_option maxHeartbeats 8000000 in
theorem same_any {S : Nat → Prop} {w : World} {p n q : Nat} {P : Pd} {s : Nat} {v : Value} {R : List Rn} (hd : Ds S w p n P) (hl : Lt S w) (hb : Bk w 29 q #[v, .int .i64 s]) (hs : Sl er 4 w v R) (hR : R.length ≤ 100) (hv : Rb w R) (hi : Iv P (R.map Rn.p))
    (hK : ∀ x, (gd P.f x).length ≤ 1000000) (hf : ∀ W, Q w W → Calls Try.prog 24 #[.pointer (some ⟨q, 0, none⟩)] W fun e W' => ∃ v' F, e = .returned v' ∧ Fst W W' R R.length v' F) :
    Calls Try.prog 17 #[.pointer (some ⟨p, 0, none⟩), .pointer (some ⟨q, 0, none⟩)] w fun e W' => e = .returned (.bool true) ∧ Q w W' := by
  have HU1 := hid (units_any hd)
  have HU2 := hid (runits_any w q s v R hb hs (by omega) (rb_n hv))
  rw [← hi.u] at HU2
  have HD := hid hd
  have HI := hid hi
  have HF := hid (hf _ ((Q.refl w).alloc (.cells #[.string xa, .string xb, .string ⟨#[99]⟩] 9)))
  have HB1 := hid (bk_new w 9 #[.string xa, .string xb, .string ⟨#[99]⟩])
  clear hd hb hs hv hf hi
  go_enter Try.func17, Try.ntmps17
  go_upto_region 5 with (first
    | (go_at_call 19; refine HU1.out.mono ?_; rintro e9 w1 ⟨rfl, hw1⟩; subst w1)
    | (go_at_call 14; refine HU2.out.mono ?_; rintro e9 w1 ⟨rfl, hw1⟩; subst w1)
    | (go_at_call 24; refine HF.out.mono ?_; rintro e9 w2 ⟨v2, F, rfl, hst⟩; have HST := hid hst; clear hst HF))
  have HQ2 : Hid (Q w w2) := hid (Q.trans ((Q.refl w).alloc _) HST.out.q)
  have HB2 := hid (HB1.out.on HST.out.q)
  have HD2 := hid (HD.out.on hl HQ2.out)
  have hFl : F.length ≤ 100 := by have := HST.out.l; omega
  have HM : Hid (F.map Fn.p = rf (R.map Rn.p)) := hid (by have := HST.out.m; rwa [List.take_length] at this)
  have HFf : Hid (P.f = look (F.map Fn.p)) := hid (by rw [HM.out]; exact HI.out.f)
  have HUq : Hid (Uq (F.map Fn.p)) := hid (by rw [HM.out]; exact uq_rf _)
  have hl2 : Lt S w2 := fun i hi => Nat.lt_of_lt_of_le (hl i hi) HQ2.out.size
  obtain ⟨fao, fcap, rfl, hfc1, hfc2⟩ := HST.out.sl.len
  go_wp2_with fail
  go_loopw [7] (fun i wr => ∃ k : Nat, k ≤ 3 ∧ i = .int .i64 k ∧ Hid (Q w2 wr)) (fun i _ => 3 - (intOf i).toNat)
  case atStart => exact ⟨0, by omega, rfl, hid (Q.refl _)⟩
  case round =>
    obtain ⟨k, hk, rfl, HQ3⟩ := hrel
    by_cases hlt : k < 3
    · have hi : (k : Int) < 3 := by omega
      have hi3 : (k : Int) < 3 := by omega
      obtain ⟨x, hx1, hx2⟩ : ∃ x : ByteArray, Hid (∀ W, Q w2 W → W.cell? ⟨w.heap.size, k, none⟩ = some (.string x)) ∧ x.size ≤ maxLen := by
        rcases (by omega : k = 0 ∨ k = 1 ∨ k = 2) with rfl | rfl | rfl
        · exact ⟨xa, hid (fun W hW => (HB2.out.on hW).c 0 _ rfl), by decide⟩
        · exact ⟨xb, hid (fun W hW => (HB2.out.on hW).c 1 _ rfl), by decide⟩
        · exact ⟨⟨#[99]⟩, hid (fun W hW => (HB2.out.on hW).c 2 _ rfl), by decide⟩
      have y0 := hx1.out wr HQ3.out
      have HR := hid (read_any (HD2.out.on hl2 HQ3.out) x hx2 (Nat.le_trans (hK x) (by decide)))
      go_upto_region 9 with (go_at_call 18; refine HR.out.mono ?_; rintro e9 w4 ⟨⟨va, vn, vc⟩, rfl, hsb, _, hq4⟩; have HSB := hid hsb; have HQ4 := hid (Q.trans HQ3.out (Q.trans (Q.refl _) hq4)); clear hsb hq4 HR)
      generalize hok : (P.f x).isSome = ok
      have HOK : Hid (ok = F.any (fun d => decide (d.x = x))) := hid (by rw [← hok, HFf.out, fn_some])
      clear hok
      unfold sv at HSB ⊢
      go_wp2_with fail
      go_loopw [10, 11] (fun t j wr => ∃ k2 : Nat, k2 ≤ F.length ∧ j = .int .i64 k2 ∧ t = .bool ((F.take k2).any (fun d => decide (d.x = x))) ∧ Hid (Q w4 wr)) (fun _ j _ => F.length - (intOf j).toNat)
      case atStart => exact ⟨0, Nat.zero_le _, rfl, rfl, hid (Q.refl _)⟩
      case round =>
        obtain ⟨k2, hk2, rfl, rfl, HQ5⟩ := hrel
        rename_i w5
        have HQ25 := hid (HQ4.out.trans (Q.trans (Q.refl _) HQ5.out))
        by_cases hlt2 : k2 < F.length
        · have HST5 := HST.out.on HQ25.out
          obtain ⟨g, off, fcap', e, _, _, hat⟩ := HST5.sl.at hlt2
          injection e with e1 e2 e3
          subst e1 e3
          have hi2 : (k2 : Int) < (F.length : Int) := by omega
          have hsn := any_snoc F x k2 hlt2
          have hfb := (HST5.b F[k2] (List.getElem_mem hlt2))
          have huq : look (F.map Fn.p) F[k2].x = some F[k2].L := HUq.out (F[k2]).p (List.mem_map_of_mem (List.getElem_mem hlt2))
          rw [← HFf.out] at huq
          generalize F[k2] = fd at hat hsn hfb huq
          obtain ⟨fx, ⟨fa, fn, fc⟩, fL⟩ := fd
          have x0 : wr.cell? ⟨g, off + k2 * 2, none⟩ = some (.string fx) := hat 0 _ rfl
          have x1 : wr.cell? ⟨g, off + k2 * 2 + 1, none⟩ = some (.slice fa fn fc) := hat 1 _ rfl
          have yn := hx1.out wr HQ25.out
          have HSN := hid hsn
          have HFB : Hid (Sb wr (sv ⟨fa, fn, fc⟩) fL) := hid hfb.1
          have HUX : Hid (P.f fx = some fL) := hid huq
          have HSB5 := hid (HSB.out.on HQ5.out)
          clear hat hsn hfb huq HST5
          by_cases hd : fx = x
          · subst hd
            have hL : fL = gd P.f fx := by unfold gd; rw [HUX.out]; rfl
            have hc1 : ∀ n, (convert 30 9 (.slice fa fn fc)).run Try.prog (wr.drewN n) = .ok (.string ⟨(gd P.f fx).toArray⟩) (wr.drewN n) := fun n => by
              rw [← hL]
              exact sl_conv (HFB.out.on ((Q.refl wr).drewN n)).s
            have hc2 : ∀ n, (convert 30 9 (.slice va vn vc)).run Try.prog (wr.drewN n) = .ok (.string ⟨(gd P.f fx).toArray⟩) (wr.drewN n) := fun n => sl_conv (HSB5.out.on ((Q.refl wr).drewN n)).s
            clear hL
            go_upto_region 13 with fail
            go_quiet (fail)
            go_upto_region 15 with fail
            go_quiet (fail)
            go_wp2_with fail
            refine ⟨⟨k2 + 1, by omega, by go_num, by rw [HSN.out]; simp, by first | exact hid ((HQ5.out.drewN _).drewN _) | exact hid (HQ5.out.drewN _)⟩, ?_⟩
            simp [intOf]
            omega
          · have hne := str_ne hd
            go_upto_region 13 with fail
            go_quiet (fail)
            go_wp2_with fail
            refine ⟨⟨k2 + 1, by omega, by go_num, by rw [HSN.out]; simp [hd], hid (HQ5.out.drewN _)⟩, ?_⟩
            simp [intOf]
            omega
        · obtain rfl : k2 = F.length := by omega
          rw [List.take_length, ← HOK.out]
          cases ok with
          | true =>
            go_wp2_with fail
            refine ⟨⟨k + 1, by omega, by go_num, HQ25⟩, ?_⟩
            simp [intOf]
            omega
          | false =>
            go_wp2_with fail
            refine ⟨⟨k + 1, by omega, by go_num, HQ25⟩, ?_⟩
            simp [intOf]
            omega
    · obtain rfl : k = 3 := by omega
      go_wp2_with fail
      go_ret
      exact ⟨rfl, HQ2.out.trans (Q.trans (Q.refl _) HQ3.out)⟩
end Go.Proofs.Ytbknbffmpnomlaa
