/- The program's files and the reference's say the same, plainly. -/
import Derived.Test.YtbknbffmpnomlaaEa
namespace Go.Proofs.Ytbknbffmpnomlaa
open Go.RowKit
set_option linter.unusedVariables false
set_option linter.unusedSimpArgs false

structure Iv (P : Pd) (R : List Re) : Prop where
  u : P.u = ru R
  s : P.s ≤ P.u
  ha : ∀ n, P.s ≤ n → n ≤ P.u → P.at n = look (rf (rcut R n))
  k : K0 R
theorem at_u (P : Pd) : P.at P.u = P.f := by
  unfold Pd.at
  rw [Nat.sub_self]
  cases P.ms.reverse with
  | nil => rfl
  | cons m r => unfold back; rw [if_pos rfl]
theorem Iv.f {P : Pd} {R : List Re} (h : Iv P R) : P.f = look (rf R) := by
  rw [← at_u P, h.ha P.u h.s (Nat.le_refl _), rcut_all R h.k _ (by rw [h.u]; exact Nat.le_refl _)]
theorem iv_new : Iv Pd.new [] := ⟨rfl, Nat.le_refl _, fun n _ _ => by
  unfold Pd.at Pd.new
  rfl, fun d h => by cases h⟩
theorem K0.snoc {R : List Re} (h : K0 R) {d : Re} (hd : d.k = 0 → d.L ≠ []) : K0 (R ++ [d]) := fun e he => by
  rcases List.mem_append.1 he with he | he
  · exact h e he
  · obtain rfl : e = d := by simpa using he
    exact hd
/-- one more thing has been done -/
theorem Iv.step {P P' : Pd} {R : List Re} (h : Iv P R) (d : Re) (hd : d.k = 0 → d.L ≠ []) (hs : P'.s = P.s) (hu : P'.u = P.u + ru1 d) (hold : ∀ n, n ≤ P.u → P'.at n = P.at n) (hnew : ∀ n, P.u < n → n ≤ P.u + ru1 d → P'.at n = look (rf (R ++ rcut [d] (n - P.u)))) : Iv P' (R ++ [d]) := by
  refine ⟨?_, ?_, ?_, h.k.snoc hd⟩
  · rw [hu, ru_app, h.u]
    simp [ru]
  · have := h.s
    omega
  · intro n h1 h2
    rw [rcut_app]
    by_cases hn : n ≤ P.u
    · rw [hold n hn, h.ha n (by omega) hn, show n - ru R = 0 by have := h.u; omega, rcut_zero, List.append_nil]
    · rw [hnew n (by omega) (by omega), rcut_all R h.k n (by have := h.u; omega), ← h.u]
theorem rcut_one (d : Re) (hk : d.k ≠ 0) (n : Nat) (hn : 0 < n) : rcut [d] n = [d] := by
  rw [rcut_cons, if_neg (by omega), if_neg hk]
  rfl
theorem rcut_kind0 (d : Re) (hk : d.k = 0) (n : Nat) (hn : 0 < n) : rcut [d] n = [⟨d.k, d.x, d.y, d.L.take n⟩] := by
  rw [rcut_cons, if_neg (by omega), if_pos hk]
  rfl
theorem back_cons (m : Pm) (r : List Pm) (o : Nat) (f : Fs) : back (m :: r) o f = if o = 0 then f else if o < m.k then upd f m.x (some ((gd f m.x).take ((gd f m.x).length - o))) else back r (o - m.k) (give m f) := rfl
/-- behind one mark -/
theorem at_mark (P : Pd) (x : ByteArray) (k : Nat) (L : Option (List UInt8)) (n : Nat) (hn : n ≤ P.u) (hk : 0 < k) : (⟨upd P.f x L, P.ms ++ [pm P.f x k], P.u + k, P.s⟩ : Pd).at n = P.at n := by
  unfold Pd.at
  show back (P.ms ++ [pm P.f x k]).reverse (P.u + k - n) (upd P.f x L) = _
  rw [List.reverse_append]
  show back (pm P.f x k :: P.ms.reverse) _ _ = _
  rw [back_cons, if_neg (by omega), if_neg (by show ¬ _ < k; omega), give_pm P.f _ x k (fun y hy => upd_other _ _ hy)]
  show back _ (P.u + k - n - k) _ = _
  rw [show P.u + k - n - k = P.u - n by omega]
theorem Iv.mark {P : Pd} {R : List Re} (h : Iv P R) (d : Re) (hk : d.k ≠ 0) (x : ByteArray) (L : Option (List UInt8)) (hf : upd P.f x L = look (stp (rf R) d)) : Iv ⟨upd P.f x L, P.ms ++ [pm P.f x 1], P.u + 1, P.s⟩ (R ++ [d]) := by
  have h1 : ru1 d = 1 := by unfold ru1; rw [if_neg hk]
  refine h.step d (fun e => absurd e hk) rfl (by rw [h1]) (fun n hn => at_mark P x 1 L n hn (by decide)) (fun n h2 h3 => ?_)
  rw [h1] at h3
  obtain rfl : n = P.u + 1 := by omega
  rw [rcut_one d hk _ (by omega), rf_snoc, ← hf]
  exact at_u ⟨upd P.f x L, P.ms ++ [pm P.f x 1], P.u + 1, P.s⟩
theorem Iv.create {P : Pd} {R : List Re} (h : Iv P R) (x y : ByteArray) (L : List UInt8) : Iv (P.create x) (R ++ [⟨1, x, y, L⟩]) := by
  refine h.mark ⟨1, x, y, L⟩ (show (1 : Int) ≠ 0 by decide) x (some []) ?_
  unfold stp
  rw [if_neg (show ¬ (1 : Int) = 0 by decide), if_pos rfl, look_put, h.f]
theorem Iv.remove {P : Pd} {R : List Re} (h : Iv P R) (x y : ByteArray) (L : List UInt8) : Iv (P.remove x) (R ++ [⟨3, x, y, L⟩]) := by
  refine h.mark ⟨3, x, y, L⟩ (show (3 : Int) ≠ 0 by decide) x none ?_
  unfold stp
  rw [if_neg (show ¬ (3 : Int) = 0 by decide), if_neg (show ¬ (3 : Int) = 1 by decide), if_neg (show ¬ (3 : Int) = 2 by decide), look_wo, h.f]
theorem Iv.append {P : Pd} {R : List Re} (h : Iv P R) (x y : ByteArray) (B : List UInt8) (hB : B ≠ []) : Iv (P.append x B) (R ++ [⟨0, x, y, B⟩]) := by
  have hl : 0 < B.length := List.length_pos_iff.2 hB
  have h1 : ru1 ⟨0, x, y, B⟩ = B.length := rfl
  unfold Pd.append
  rw [if_neg (by omega)]
  refine h.step ⟨0, x, y, B⟩ (fun _ => hB) rfl rfl (fun n hn => at_mark P x B.length _ n hn hl) (fun n h2 h3 => ?_)
  rw [h1] at h3
  rw [rcut_kind0 _ rfl _ (by omega), rf_snoc]
  have e : ∀ K, look (stp (rf R) ⟨0, x, y, K⟩) = upd P.f x (some (gd P.f x ++ K)) := fun K => by
    unfold stp
    rw [if_pos rfl, look_put, ← h.f]
  rw [e]
  unfold Pd.at
  show back (P.ms ++ [pm P.f x B.length]).reverse (P.u + B.length - n) (upd P.f x (some (gd P.f x ++ B))) = _
  rw [List.reverse_append]
  show back (pm P.f x B.length :: P.ms.reverse) _ _ = _
  rw [back_cons]
  by_cases ho : P.u + B.length - n = 0
  · rw [if_pos ho, List.take_of_length_le (show B.length ≤ _ by omega)]
  · rw [if_neg ho, if_pos (by show _ < B.length; omega)]
    show upd _ x (some ((gd (upd P.f x (some (gd P.f x ++ B))) x).take ((gd (upd P.f x (some (gd P.f x ++ B))) x).length - _))) = _
    have e2 : gd (upd P.f x (some (gd P.f x ++ B))) x = gd P.f x ++ B := by
      unfold gd
      rw [upd_same]
      rfl
    rw [e2]
    have e3 : (gd P.f x ++ B).take ((gd P.f x ++ B).length - (P.u + B.length - n)) = gd P.f x ++ B.take (n - P.u) := by
      rw [List.length_append, List.take_append, List.take_of_length_le (by omega)]
      congr 2
      omega
    rw [e3]
    funext z
    unfold upd
    split <;> rfl
theorem Iv.rename {P : Pd} {R : List Re} (h : Iv P R) (x y : ByteArray) (L : List UInt8) : Iv (P.rename x y) (R ++ [⟨2, x, y, L⟩]) := by
  have hst : look (stp (rf R) ⟨2, x, y, L⟩) = if (P.f x).isSome then upd (upd P.f x none) y (some (gd P.f x)) else P.f := by
    unfold stp
    rw [if_neg (show ¬ (2 : Int) = 0 by decide), if_neg (show ¬ (2 : Int) = 1 by decide), if_pos rfl]
    show look (if (look (rf R) x).isSome then _ else _) = _
    rw [← h.f]
    by_cases hs : (P.f x).isSome
    · rw [if_pos hs, if_pos hs, look_put, look_wo, ← h.f]
    · rw [if_neg hs, if_neg hs, h.f]
  unfold Pd.rename
  by_cases hs : (P.f x).isSome
  · rw [if_pos hs]
    rw [if_pos hs] at hst
    have hw : ru1 ⟨2, x, y, L⟩ = 1 := rfl
    refine h.step ⟨2, x, y, L⟩ (fun e => absurd e (show ¬ (2 : Int) = 0 by decide)) rfl rfl (fun n hn => ?_) (fun n h2 h3 => ?_)
    · unfold Pd.at
      show back (P.ms ++ [pm P.f x 1] ++ [pm P.f y 0]).reverse (P.u + 1 + 0 - n) (upd (upd P.f x none) y (some (gd P.f x))) = _
      rw [List.reverse_append, List.reverse_append]
      show back (pm P.f y 0 :: pm P.f x 1 :: P.ms.reverse) _ _ = _
      rw [back_cons, if_neg (by omega), if_neg (by show ¬ _ < 0; omega), back_cons]
      show (if P.u + 1 + 0 - n - 0 = 0 then _ else _) = _
      rw [if_neg (by omega)]
      show (if P.u + 1 + 0 - n - 0 < 1 then _ else back _ (P.u + 1 + 0 - n - 0 - 1) _) = _
      rw [if_neg (by omega)]
      have e : give (pm P.f x 1) (give (pm P.f y 0) (upd (upd P.f x none) y (some (gd P.f x)))) = P.f := by
        refine give_pm P.f _ x 1 (fun z hz => ?_)
        by_cases e : z = y
        · subst e
          unfold give pm
          rw [upd_same]
          cases hf : P.f z <;> simp [gd, hf]
        · unfold give pm
          rw [upd_other _ _ e, upd_other _ _ e, upd_other _ _ hz]
      rw [e, show P.u + 1 + 0 - n - 0 - 1 = P.u - n by omega]
    · rw [hw] at h3
      obtain rfl : n = P.u + 1 := by omega
      rw [rcut_one _ (show ¬ (2 : Int) = 0 by decide) _ (by omega), rf_snoc, hst]
      exact at_u ⟨upd (upd P.f x none) y (some (gd P.f x)), P.ms ++ [pm P.f x 1] ++ [pm P.f y 0], P.u + 1 + 0, P.s⟩
  · rw [if_neg hs]
    rw [if_neg hs] at hst
    have := h.mark ⟨2, x, y, L⟩ (show ¬ (2 : Int) = 0 by decide) x (P.f x) (by rw [upd_self, hst])
    rw [upd_self] at this
    exact this
theorem Iv.sync {P : Pd} {R : List Re} (h : Iv P R) : Iv P.sync R := by
  refine ⟨h.u, Nat.le_refl _, fun n h1 h2 => ?_, h.k⟩
  obtain rfl : n = P.u := Nat.le_antisymm h2 h1
  have := at_u P.sync
  rw [rcut_all R h.k _ (by have := h.u; omega), ← h.f]
  exact this
theorem near_ge (P : Pd) (h : P.s ≤ P.u) (n : Int) : P.s ≤ P.near n := by unfold Pd.near; omega
theorem Iv.cut {P : Pd} {R : List Re} (h : Iv P R) (m : Int) : Iv (P.cut m) (rcut R (P.near m)) := by
  have h1 := near_le P m
  have h2 := near_ge P h.s m
  have hu : ru (rcut R (P.near m)) = P.near m := by rw [ru_rcut]; have := h.u; omega
  refine ⟨hu.symm, Nat.le_refl _, fun n h3 h4 => ?_, k0_rcut R h.k _⟩
  obtain rfl : n = P.near m := Nat.le_antisymm h4 h3
  rw [rcut_all _ (k0_rcut R h.k _) _ (by rw [hu]; exact Nat.le_refl _), ← h.ha _ h2 h1]
  exact at_u (P.cut m)
end Go.Proofs.Ytbknbffmpnomlaa
