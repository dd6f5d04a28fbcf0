/- a1.ColName: the letters of a c. -/
import Derived.Lib.ItoaMem
import Derived.Test.YtngnakdbhkjbjaaGreatDoorKd00
set_option linter.unusedVariables false
set_option linter.unusedSimpArgs false
set_option maxRecDepth 100000
set_option maxHeartbeats 8000000
namespace Go.Proofs.YtngnakdbhkjbjaaGreatDoor
open Go.RowKit
structure RM (W : World) (B : Nat) (l : List UInt8) : Prop where
  cells : ∀ o : Nat, o < 9 → ∃ v, W.cell? ⟨B, o, none⟩ = some (.int .u8 v)
  tail : ∀ j (h : j < l.length), W.cell? ⟨B, 9 - l.length + j, none⟩ = some (.int .u8 (l[j].toNat : Int))
  free : ∀ o : Nat, o < 9 → W.frozen? ⟨B, o, none⟩ = false
  big : B < W.heap.size
theorem RM.set {W : World} {B k : Nat} {l : List UInt8} (h : RM W B l) (hk : k + l.length = 8) (c : UInt8) : RM (W.setCell ⟨B, k, none⟩ (.int .u8 (c.toNat : Int))) B (c :: l) := by
  refine ⟨fun o ho => ?_, fun j hj => ?_, fun o ho => ?_, ?_⟩
  · by_cases e : o = k
    · subst e
      obtain ⟨v, hv⟩ := h.cells o ho
      exact ⟨_, World.cell?_setCell_same _ _ _ hv⟩
    · rw [World.cell?_setCell_other _ _ _ _ (by simp [Ne.symm e])]
      exact h.cells o ho
  · have e9 : 9 - (c :: l).length = k := by rw [List.length_cons]; omega
    rw [e9]
    match j, hj with
    | 0, _ =>
      obtain ⟨v, hv⟩ := h.cells k (by omega)
      exact World.cell?_setCell_same _ _ _ hv
    | j + 1, hj =>
      rw [World.cell?_setCell_other _ _ _ _ (by simp)]
      have h1 := h.tail j (by simpa using hj)
      rw [show 9 - l.length + j = k + (j + 1) by omega] at h1
      exact h1
  · rw [World.frozen?_setCell]; exact h.free o ho
  · rw [World.size_setCell]; exact h.big
theorem RM.start (w : World) : RM (w.alloc (.cells #[.int .u8 0, .int .u8 0, .int .u8 0, .int .u8 0, .int .u8 0, .int .u8 0, .int .u8 0, .int .u8 0, .int .u8 0] 153)) w.heap.size [] := by
  refine ⟨fun o ho => ⟨0, ?_⟩, fun j hj => absurd hj (by simp), fun o ho => World.frozen?_alloc_new _ _ _ _, by rw [World.size_alloc]; omega⟩
  rw [World.cell?_alloc_new]
  rcases (by omega : o = 0 ∨ o = 1 ∨ o = 2 ∨ o = 3 ∨ o = 4 ∨ o = 5 ∨ o = 6 ∨ o = 7 ∨ o = 8) with rfl | rfl | rfl | rfl | rfl | rfl | rfl | rfl | rfl <;> rfl
set_option maxHeartbeats 1000000 in
theorem name_yes (n : Int) (N : Nat) (w : World) (hN : Hid (n + 1 = (N : Int))) (n0 : 0 ≤ n) (n1 : n < 2199023255552) :
    Calls Tryz.prog 123 #[.int .i64 n] w fun e w' => e = .returned (.string ⟨(nmL N).toArray⟩) ∧ Q w w' := by
  have HM := hid (fun W => mayline_any n W)
  rw [show decide (0 ≤ n ∧ n < 2199023255552) = true from decide_eq_true ⟨n0, n1⟩] at HM
  have hal : Tryz.prog.arrayLen 153 = 9 := by kernel_rfl
  have HS := hid (RM.start w)
  go_enter Tryz.func123, Tryz.ntmps123
  go_wp2_with (go_at_call 121; refine (HM.out _).mono ?_; rintro e w1 ⟨rfl, rfl⟩)
  go_loopw [0, 4] (fun a b W => ∃ (x : Int) (m k : Nat) (l : List UInt8), a = .int .i64 x ∧ b = .int .i64 (k : Int) ∧ k + l.length = 9 ∧ Hid (x = (m : Int)) ∧ 0 ≤ x ∧ x ≤ 2199023255552 ∧ NI N m l ∧ RM W w1.heap.size l ∧ Q w1 W) (fun a b _ => (intOf a).toNat)
  case atStart => exact ⟨n + 1, N, 9, [], rfl, rfl, rfl, hN, by omega, by omega, List.append_nil _, HS.out, (Q.refl _).alloc _⟩
  case round =>
    obtain ⟨x, m, k, l, rfl, rfl, hk, hx, x0, x1, di, hr, hq⟩ := hrel
    have hl20 := di.len (by have := hN.out; omega)
    have HD := hid di
    have HR := hid hr
    have HQ := hid hq
    clear di hr hq
    by_cases hp : 0 < x
    · obtain ⟨p, rfl⟩ : ∃ p, m = p + 1 := ⟨m - 1, by have := hx.out; omega⟩
      have hne : 0 < (nmL (p + 1)).length := List.length_pos_iff.2 (nm_ne _ (by omega))
      obtain ⟨k, rfl⟩ : ∃ k', k = k' + 1 := ⟨k - 1, by omega⟩
      have HN := hid (HD.out.next)
      have hc : ((UInt8.ofNat (65 + p % 26)).toNat : Int) = 65 + (x - 1) % 26 := by rw [nm_nat p, hx.out]; omega
      obtain ⟨c, ec⟩ : ∃ c, c = UInt8.ofNat (65 + p % 26) := ⟨_, rfl⟩
      rw [← ec] at HN hc
      have hx' : Hid ((x - 1) / 26 = ((p / 26 : Nat) : Int)) := by show _ = _; rw [hx.out]; omega
      obtain ⟨v, hv⟩ := HR.out.cells k (by omega)
      have hf := HR.out.free k (by omega)
      have hbg := HR.out.big
      have HW := hid (HR.out.set (k := k) (by omega) c)
      rw [hc] at HW
      clear ec hc HD
      go_wp2
      go_roundw
      case rel => exact ⟨(x - 1) / 26, p / 26, k, c :: l, rfl, rfl, by rw [List.length_cons]; omega, hx', by omega, by omega, HN.out, HW.out, HQ.out.setCell (Nat.le_refl _) _⟩
      case measure =>
        simp only [intOf]
        omega
    · have hm0 : m = 0 := by have := hx.out; omega
      subst hm0
      have HF : Hid (l = nmL N) := by have := HD.out; unfold NI at this; rw [nmL] at this; exact this
      have hlp : 0 < l.length := by rw [HF.out]; exact List.length_pos_iff.2 (nm_ne _ (by have := hN.out; omega))
      have hsl : ∀ W, (Instr.sliceAt 153 (.pointer (some ⟨w1.heap.size, 0, none⟩)) (some (.int .i64 (k : Int))) none none).run Tryz.prog W = .ok (.slice (some ⟨w1.heap.size, k, none⟩) l.length l.length) W := fun W => by
        rw [run_sliceAt_array_l W 153 ⟨w1.heap.size, 0, none⟩ (by kernel_rfl) .i64 (k : Int) (by omega) (by rw [hal]; omega)]
        go_simp
        omega
      have hcv : (convert 154 9 (.slice (some ⟨w1.heap.size, k, none⟩) l.length l.length)).run Tryz.prog wr = .ok (.string ⟨l.toArray⟩) wr :=
        run_convert_bytes_back (P := Tryz.prog) wr 154 9 5 ⟨w1.heap.size, k, none⟩ l.length l Tryz.underlying154 Tryz.underlying5 Tryz.underlying9 (fun j hj => by
          have h1 := HR.out.tail j hj
          rw [show 9 - l.length + j = k + j by omega] at h1
          rw [Lib.add_plain]
          exact h1)
      clear HD
      go_wp2
      go_ret
      exact ⟨ret_str (by rw [HF.out]), HQ.out⟩
theorem name_any (n : Int) (w : World) :
    Calls Tryz.prog 123 #[.int .i64 n] w fun e w' => e = .returned (.string ⟨(cnL n).toArray⟩) ∧ Q w w' := by
  by_cases h : 0 ≤ n ∧ n < 2199023255552
  · unfold cnL
    rw [if_pos h]
    exact name_yes n _ w (by show _ = _; omega) h.1 h.2
  · have HC : Hid (cnL n = []) := by show _ = _; unfold cnL; rw [if_neg h]
    have HM := hid (fun W => mayline_any n W)
    rw [show decide (0 ≤ n ∧ n < 2199023255552) = false from decide_eq_false h] at HM
    clear h
    go_enter Tryz.func123, Tryz.ntmps123
    go_wp2_with (go_at_call 121; refine (HM.out _).mono ?_; rintro e w1 ⟨rfl, rfl⟩)
    go_ret
    exact ⟨ret_str (by rw [HC.out]), Q.refl _⟩
set_option maxHeartbeats 8000000 in
theorem om2 (k : Int) (sh : ByteArray) (x2 x3 x4 x5 x6 x7 x8 x9 x10 x11 x12 x13 x14 x15 x16 x17 x18 x19 x20 x21 x22 : Value) (w : World) (p1 : Bool) (ib eb : Bool) (k0 : (k == 1) = false) (k1 : (k == 2) = true) (H0 : Hid ((#[.int .i64 k, .string sh, x2, x3, x4, x5, x6, x7, x8, x9, x10, x11, x12, x13, x14, x15, x16, x17, x18, x19, x20, x21, x22] : Array Value).all (·.oneCell') = true)) (H1 : Hid (∀ V, Q w V → Calls Tryz.prog 21 #[.agg #[x17, x18, x19]] V fun e V' => e = .returned (.bool p1) ∧ Q V V')) (HI : Hid (∀ V, Q w V → Calls Tryz.prog 25 #[.string sh] V fun e V' => e = .returned (.bool ib) ∧ Q V V')) (HE : Hid (∀ V, Q w V → Calls Tryz.prog 10 #[.agg #[.int .i64 k, .string sh, x2, x3, x4, x5, x6, x7, x8, x9, x10, x11, x12, x13, x14, x15, x16, .int .i64 0, .int .i64 0, .int .i64 0, x20, x21, x22], .agg #[.int .i64 k, .string sh, .int .i64 0, .int .i64 0, .bool false, .int .i64 0, .int .i64 0, .string ⟨#[]⟩, .bool false, .int .i64 0, .int .i64 0, .int .i64 0, .string ⟨#[]⟩, .bool false, .int .i64 0, .slice none 0 0, .slice none 0 0, .int .i64 0, .int .i64 0, .int .i64 0, .slice none 0 0, .int .i64 0, .string ⟨#[]⟩]] V fun e V' => e = .returned (.bool eb) ∧ Q V V')) : Calls Tryz.prog 8 #[.agg #[.int .i64 k, .string sh, x2, x3, x4, x5, x6, x7, x8, x9, x10, x11, x12, x13, x14, x15, x16, x17, x18, x19, x20, x21, x22]] w fun e V' => e = .returned (.bool (p1 && (ib && eb))) ∧ Q w V' := by
  go_enter Tryz.func8, Tryz.ntmps8
  go_upto_region 1 with fail
  have Z1 := hid (cq_new w [.int .i64 k, .string sh, x2, x3, x4, x5, x6, x7, x8, x9, x10, x11, x12, x13, x14, x15, x16, x17, x18, x19, x20, x21, x22])
  rw [show ([.int .i64 k, .string sh, x2, x3, x4, x5, x6, x7, x8, x9, x10, x11, x12, x13, x14, x15, x16, x17, x18, x19, x20, x21, x22] : List Value).toArray = #[.int .i64 k, .string sh, x2, x3, x4, x5, x6, x7, x8, x9, x10, x11, x12, x13, x14, x15, x16, x17, x18, x19, x20, x21, x22] from rfl] at Z1
  have QA : Hid (Q w (w.alloc (.cells #[.int .i64 k, .string sh, x2, x3, x4, x5, x6, x7, x8, x9, x10, x11, x12, x13, x14, x15, x16, x17, x18, x19, x20, x21, x22] 35))) := hid ((Q.refl w).alloc _)
  generalize w.alloc (.cells #[.int .i64 k, .string sh, x2, x3, x4, x5, x6, x7, x8, x9, x10, x11, x12, x13, x14, x15, x16, x17, x18, x19, x20, x21, x22] 35) = w1 at Z1 QA ⊢
  generalize w.heap.size = b0 at Z1 ⊢
  refine two (F := ?F) (fun HF => ?both) ?rest
  case both =>
    refine wp_region_any (by kernel_rfl) ?_
    change wpAny _ _ _ _ _ _ _ (World.drew _)
    refine wpAny_ready (rs := [0, 1]) (by kernel_rfl) (by simp) ?_
    refine AllReady.cons rfl (fun K hK => ?_) (AllReady.cons rfl (fun K hK => ?_) AllReady.nil)
    · refine step_load_row (by rfl) _ (by rfl) b0 (by rfl) [.int .i64 k, .string sh, x2, x3, x4, x5, x6, x7, x8, x9, x10, x11, x12, x13, x14, x15, x16, x17, x18, x19, x20, x21, x22] (Z1.out.on (Q.refl _).drew) (by rfl) (hK _ _ ?_)
      clear hK K
      refine wpAny_ready (rs := [1]) (by kernel_rfl) (by simp) ?_
      refine AllReady.cons rfl (fun K hK => ?_) AllReady.nil
      go_simp
      refine hK _ _ ?_
      clear hK K
      refine wpAny_ready (rs := [2]) (by kernel_rfl) (by simp) ?_
      refine AllReady.cons rfl (fun K hK => ?_) AllReady.nil
      go_simp
      refine hK _ _ ?_
      clear hK K
      refine wpAny_ready (rs := [3]) (by kernel_rfl) (by simp) ?_
      refine AllReady.cons rfl (fun K hK => ?_) AllReady.nil
      refine step_store_row (by rfl) 35 _ _ (by rfl) w1.heap.size #[.int .i64 k, .string sh, x2, x3, x4, x5, x6, x7, x8, x9, x10, x11, x12, x13, x14, x15, x16, x17, x18, x19, x20, x21, x22] (by rfl) (by rfl) 35 #[.int .i64 0, .string ⟨#[]⟩, .int .i64 0, .int .i64 0, .bool false, .int .i64 0, .int .i64 0, .string ⟨#[]⟩, .bool false, .int .i64 0, .int .i64 0, .int .i64 0, .string ⟨#[]⟩, .bool false, .int .i64 0, .slice none 0 0, .slice none 0 0, .int .i64 0, .int .i64 0, .int .i64 0, .slice none 0 0, .int .i64 0, .string ⟨#[]⟩] (heap_alloc_last w1 _) info35 (by rfl) H0.out (hK _ _ ?_)
      clear hK K
      refine wpAny_done (by kernel_rfl) ?_ _
      rw [set_new]
      exact HF
    · go_simp
      refine hK _ _ ?_
      clear hK K
      refine wpAny_ready (rs := [0, 2]) (by kernel_rfl) (by simp) ?_
      refine AllReady.cons rfl (fun K hK => ?_) (AllReady.cons rfl (fun K hK => ?_) AllReady.nil)
      · refine step_load_row (by rfl) _ (by rfl) b0 (by rfl) [.int .i64 k, .string sh, x2, x3, x4, x5, x6, x7, x8, x9, x10, x11, x12, x13, x14, x15, x16, x17, x18, x19, x20, x21, x22] (Z1.out.on (((Q.refl _).alloc _).drew)) (by rfl) (hK _ _ ?_)
        clear hK K
        refine wpAny_ready (rs := [2]) (by kernel_rfl) (by simp) ?_
        refine AllReady.cons rfl (fun K hK => ?_) AllReady.nil
        go_simp
        refine hK _ _ ?_
        clear hK K
        refine wpAny_ready (rs := [3]) (by kernel_rfl) (by simp) ?_
        refine AllReady.cons rfl (fun K hK => ?_) AllReady.nil
        refine step_store_row (by rfl) 35 _ _ (by rfl) w1.heap.size #[.int .i64 k, .string sh, x2, x3, x4, x5, x6, x7, x8, x9, x10, x11, x12, x13, x14, x15, x16, x17, x18, x19, x20, x21, x22] (by rfl) (by rfl) 35 #[.int .i64 0, .string ⟨#[]⟩, .int .i64 0, .int .i64 0, .bool false, .int .i64 0, .int .i64 0, .string ⟨#[]⟩, .bool false, .int .i64 0, .int .i64 0, .int .i64 0, .string ⟨#[]⟩, .bool false, .int .i64 0, .slice none 0 0, .slice none 0 0, .int .i64 0, .int .i64 0, .int .i64 0, .slice none 0 0, .int .i64 0, .string ⟨#[]⟩] (heap_alloc_last w1 _) info35 (by rfl) H0.out (hK _ _ ?_)
        clear hK K
        refine wpAny_done (by kernel_rfl) ?_ _
        rw [set_new]
        exact HF
      · go_simp
        refine hK _ _ ?_
        clear hK K
        refine wpAny_ready (rs := [0]) (by kernel_rfl) (by simp) ?_
        refine AllReady.cons rfl (fun K hK => ?_) AllReady.nil
        refine step_load_row (by rfl) _ (by rfl) b0 (by rfl) [.int .i64 k, .string sh, x2, x3, x4, x5, x6, x7, x8, x9, x10, x11, x12, x13, x14, x15, x16, x17, x18, x19, x20, x21, x22] (Z1.out.on (((Q.refl _).alloc _).drew)) (by rfl) (hK _ _ ?_)
        clear hK K
        refine wpAny_ready (rs := [3]) (by kernel_rfl) (by simp) ?_
        refine AllReady.cons rfl (fun K hK => ?_) AllReady.nil
        refine step_store_row (by rfl) 35 _ _ (by rfl) w1.heap.size #[.int .i64 k, .string sh, x2, x3, x4, x5, x6, x7, x8, x9, x10, x11, x12, x13, x14, x15, x16, x17, x18, x19, x20, x21, x22] (by rfl) (by rfl) 35 #[.int .i64 0, .string ⟨#[]⟩, .int .i64 0, .int .i64 0, .bool false, .int .i64 0, .int .i64 0, .string ⟨#[]⟩, .bool false, .int .i64 0, .int .i64 0, .int .i64 0, .string ⟨#[]⟩, .bool false, .int .i64 0, .slice none 0 0, .slice none 0 0, .int .i64 0, .int .i64 0, .int .i64 0, .slice none 0 0, .int .i64 0, .string ⟨#[]⟩] (heap_alloc_last w1 _) info35 (by rfl) H0.out (hK _ _ ?_)
        clear hK K
        refine wpAny_done (by kernel_rfl) ?_ _
        rw [set_new]
        exact HF
  have Z2 := hid ((cq_new w1 [.int .i64 k, .string sh, x2, x3, x4, x5, x6, x7, x8, x9, x10, x11, x12, x13, x14, x15, x16, x17, x18, x19, x20, x21, x22]).on (Q.refl _).drew)
  rw [show ([.int .i64 k, .string sh, x2, x3, x4, x5, x6, x7, x8, x9, x10, x11, x12, x13, x14, x15, x16, x17, x18, x19, x20, x21, x22] : List Value).toArray = #[.int .i64 k, .string sh, x2, x3, x4, x5, x6, x7, x8, x9, x10, x11, x12, x13, x14, x15, x16, x17, x18, x19, x20, x21, x22] from rfl] at Z2
  have Z0 := hid (Z1.out.on (((Q.refl w1).alloc (.cells #[.int .i64 k, .string sh, x2, x3, x4, x5, x6, x7, x8, x9, x10, x11, x12, x13, x14, x15, x16, x17, x18, x19, x20, x21, x22] 35)).drew))
  have QB : Hid (Q w ((w1.alloc (.cells #[.int .i64 k, .string sh, x2, x3, x4, x5, x6, x7, x8, x9, x10, x11, x12, x13, x14, x15, x16, x17, x18, x19, x20, x21, x22] 35)).drew)) := hid ((QA.out.alloc _).drew)
  have hb1 : w.heap.size ≤ w1.heap.size := QA.out.size
  have hne : b0 ≠ w1.heap.size := Nat.ne_of_lt Z1.out.l
  generalize (w1.alloc (.cells #[.int .i64 k, .string sh, x2, x3, x4, x5, x6, x7, x8, x9, x10, x11, x12, x13, x14, x15, x16, x17, x18, x19, x20, x21, x22] 35)).drew = w2 at Z0 Z2 QB ⊢
  generalize w1.heap.size = b1x at Z2 hb1 hne ⊢
  clear Z1 QA
  have d0 := Z0.out.c 0 _ rfl
  have d17 := Z0.out.c 17 _ rfl
  have d18 := Z0.out.c 18 _ rfl
  have d19 := Z0.out.c 19 _ rfl
  have u17 := Z2.out.c 17 _ rfl; have uf17 := Z2.out.f 17
  have u18 := Z2.out.c 18 _ rfl; have uf18 := Z2.out.f 18
  have u19 := Z2.out.c 19 _ rfl; have uf19 := Z2.out.f 19
  cases p1 with
  | false =>
    go_wp2_with (first | (go_at_call 21; refine (H1.out _ QB.out).mono ?_; rintro e9 v0 ⟨rfl, q9⟩; have QC0 : Hid (Q w v0) := hid (QB.out.trans q9); have Z10 := hid (Z0.out.on q9); have Z20 := hid (Z2.out.on q9); clear q9; have d0_0 := Z10.out.c 0 _ rfl; have d0_17 := Z10.out.c 17 _ rfl; have d0_18 := Z10.out.c 18 _ rfl; have d0_19 := Z10.out.c 19 _ rfl; have u0_17 := Z20.out.c 17 _ rfl; have uf0_17 := Z20.out.f 17; have u0_18 := Z20.out.c 18 _ rfl; have uf0_18 := Z20.out.f 18; have u0_19 := Z20.out.c 19 _ rfl; have uf0_19 := Z20.out.f 19))
    go_ret
    exact ⟨rfl, by repeat (first | exact QC0.out | refine Q.setCell ?_ hb1 _)⟩
  | true =>
    go_upto_region 17 with (first | (go_at_call 21; refine (H1.out _ QB.out).mono ?_; rintro e9 v0 ⟨rfl, q9⟩; have QC0 : Hid (Q w v0) := hid (QB.out.trans q9); have Z10 := hid (Z0.out.on q9); have Z20 := hid (Z2.out.on q9); clear q9; have d0_0 := Z10.out.c 0 _ rfl; have d0_17 := Z10.out.c 17 _ rfl; have d0_18 := Z10.out.c 18 _ rfl; have d0_19 := Z10.out.c 19 _ rfl; have u0_17 := Z20.out.c 17 _ rfl; have uf0_17 := Z20.out.f 17; have u0_18 := Z20.out.c 18 _ rfl; have uf0_18 := Z20.out.f 18; have u0_19 := Z20.out.c 19 _ rfl; have uf0_19 := Z20.out.f 19))
    have QV : Hid (Q w (((v0.setCell ⟨b1x, 17, none⟩ (.int .i64 0)).setCell ⟨b1x, 18, none⟩ (.int .i64 0)).setCell ⟨b1x, 19, none⟩ (.int .i64 0))) := hid (by repeat (first | exact QC0.out | refine Q.setCell ?_ hb1 _))
    have Z1V : Hid (Cq (((v0.setCell ⟨b1x, 17, none⟩ (.int .i64 0)).setCell ⟨b1x, 18, none⟩ (.int .i64 0)).setCell ⟨b1x, 19, none⟩ (.int .i64 0)) b0 [.int .i64 k, .string sh, x2, x3, x4, x5, x6, x7, x8, x9, x10, x11, x12, x13, x14, x15, x16, x17, x18, x19, x20, x21, x22]) := hid ((((Z10.out.oth hne 17 (.int .i64 0)).oth hne 18 (.int .i64 0)).oth hne 19 (.int .i64 0)))
    have Z2V : Hid (Cq (((v0.setCell ⟨b1x, 17, none⟩ (.int .i64 0)).setCell ⟨b1x, 18, none⟩ (.int .i64 0)).setCell ⟨b1x, 19, none⟩ (.int .i64 0)) b1x [.int .i64 k, .string sh, x2, x3, x4, x5, x6, x7, x8, x9, x10, x11, x12, x13, x14, x15, x16, .int .i64 0, .int .i64 0, .int .i64 0, x20, x21, x22]) := hid ((((Z20.out.put 17 (.int .i64 0)).put 18 (.int .i64 0)).put 19 (.int .i64 0)))
    generalize (((v0.setCell ⟨b1x, 17, none⟩ (.int .i64 0)).setCell ⟨b1x, 18, none⟩ (.int .i64 0)).setCell ⟨b1x, 19, none⟩ (.int .i64 0)) = V at QV Z1V Z2V ⊢
    clear d0 d17 d18 d19 u17 uf17 u18 uf18 u19 uf19 d0_0 d0_17 d0_18 d0_19 u0_17 uf0_17 u0_18 uf0_18 u0_19 uf0_19
    have g0 := Z1V.out.c 0 _ rfl
    have g1 := Z1V.out.c 1 _ rfl
    cases ib with
    | false =>
      go_wp2_with (go_at_call 25; refine (HI.out _ QV.out).mono ?_; rintro e9 y1 ⟨rfl, q9⟩; have QY : Hid (Q w y1) := hid (QV.out.trans q9); clear q9)
      go_ret
      exact ⟨rfl, QY.out⟩
    | true =>
      go_wp2_with (first | (go_at_call 25; refine (HI.out _ QV.out).mono ?_; rintro e9 y1 ⟨rfl, q9⟩; have QY : Hid (Q w y1) := hid (QV.out.trans q9); have Z1Y := hid (Z1V.out.on q9); have Z2Y := hid (Z2V.out.on q9); clear q9; have g0' := Z1Y.out.c 0 _ rfl; have g1' := Z1Y.out.c 1 _ rfl) | (refine wpl_loadg _ (by rfl) (by rfl) b1x (by rfl) [.int .i64 k, .string sh, x2, x3, x4, x5, x6, x7, x8, x9, x10, x11, x12, x13, x14, x15, x16, .int .i64 0, .int .i64 0, .int .i64 0, x20, x21, x22] Z2Y.out (by rfl) ?_) | (refine wpl_buildg _ (by rfl) (by rfl) #[.int .i64 k, .string sh, .int .i64 0, .int .i64 0, .bool false, .int .i64 0, .int .i64 0, .string ⟨#[]⟩, .bool false, .int .i64 0, .int .i64 0, .int .i64 0, .string ⟨#[]⟩, .bool false, .int .i64 0, .slice none 0 0, .slice none 0 0, .int .i64 0, .int .i64 0, .int .i64 0, .slice none 0 0, .int .i64 0, .string ⟨#[]⟩] (by kernel_rfl) ?_) | (go_at_call 10; refine (HE.out _ QY.out).mono ?_; rintro e9 y2 ⟨rfl, q9⟩; have QY2 : Hid (Q w y2) := hid (QY.out.trans q9); clear q9))
      go_ret
      exact ⟨rfl, QY2.out⟩
set_option maxHeartbeats 8000000 in
theorem om3 (k : Int) (sh : ByteArray) (x2 x3 x4 x5 x6 x7 x8 x9 x10 x11 x12 x13 x14 x15 x16 x17 x18 x19 x20 x21 x22 : Value) (w : World) (p1 : Bool) (ib eb : Bool) (k0 : (k == 1) = false) (k1 : (k == 2) = false) (k2 : (k == 3) = true) (H0 : Hid ((#[.int .i64 k, .string sh, x2, x3, x4, x5, x6, x7, x8, x9, x10, x11, x12, x13, x14, x15, x16, x17, x18, x19, x20, x21, x22] : Array Value).all (·.oneCell') = true)) (H1 : Hid (∀ V, Q w V → Calls Tryz.prog 21 #[.agg #[x17, x18, x19]] V fun e V' => e = .returned (.bool p1) ∧ Q V V')) (HI : Hid (∀ V, Q w V → Calls Tryz.prog 25 #[.string sh] V fun e V' => e = .returned (.bool ib) ∧ Q V V')) (HE : Hid (∀ V, Q w V → Calls Tryz.prog 10 #[.agg #[.int .i64 k, .string sh, x2, x3, x4, x5, x6, x7, x8, x9, x10, x11, x12, x13, x14, x15, x16, .int .i64 0, .int .i64 0, .int .i64 0, x20, x21, x22], .agg #[.int .i64 k, .string sh, .int .i64 0, .int .i64 0, .bool false, .int .i64 0, .int .i64 0, .string ⟨#[]⟩, .bool false, .int .i64 0, .int .i64 0, .int .i64 0, .string ⟨#[]⟩, .bool false, .int .i64 0, .slice none 0 0, .slice none 0 0, .int .i64 0, .int .i64 0, .int .i64 0, .slice none 0 0, .int .i64 0, .string ⟨#[]⟩]] V fun e V' => e = .returned (.bool eb) ∧ Q V V')) : Calls Tryz.prog 8 #[.agg #[.int .i64 k, .string sh, x2, x3, x4, x5, x6, x7, x8, x9, x10, x11, x12, x13, x14, x15, x16, x17, x18, x19, x20, x21, x22]] w fun e V' => e = .returned (.bool (p1 && (ib && eb))) ∧ Q w V' := by
  go_enter Tryz.func8, Tryz.ntmps8
  go_upto_region 1 with fail
  have Z1 := hid (cq_new w [.int .i64 k, .string sh, x2, x3, x4, x5, x6, x7, x8, x9, x10, x11, x12, x13, x14, x15, x16, x17, x18, x19, x20, x21, x22])
  rw [show ([.int .i64 k, .string sh, x2, x3, x4, x5, x6, x7, x8, x9, x10, x11, x12, x13, x14, x15, x16, x17, x18, x19, x20, x21, x22] : List Value).toArray = #[.int .i64 k, .string sh, x2, x3, x4, x5, x6, x7, x8, x9, x10, x11, x12, x13, x14, x15, x16, x17, x18, x19, x20, x21, x22] from rfl] at Z1
  have QA : Hid (Q w (w.alloc (.cells #[.int .i64 k, .string sh, x2, x3, x4, x5, x6, x7, x8, x9, x10, x11, x12, x13, x14, x15, x16, x17, x18, x19, x20, x21, x22] 35))) := hid ((Q.refl w).alloc _)
  generalize w.alloc (.cells #[.int .i64 k, .string sh, x2, x3, x4, x5, x6, x7, x8, x9, x10, x11, x12, x13, x14, x15, x16, x17, x18, x19, x20, x21, x22] 35) = w1 at Z1 QA ⊢
  generalize w.heap.size = b0 at Z1 ⊢
  refine two (F := ?F) (fun HF => ?both) ?rest
  case both =>
    refine wp_region_any (by kernel_rfl) ?_
    change wpAny _ _ _ _ _ _ _ (World.drew _)
    refine wpAny_ready (rs := [0, 1]) (by kernel_rfl) (by simp) ?_
    refine AllReady.cons rfl (fun K hK => ?_) (AllReady.cons rfl (fun K hK => ?_) AllReady.nil)
    · refine step_load_row (by rfl) _ (by rfl) b0 (by rfl) [.int .i64 k, .string sh, x2, x3, x4, x5, x6, x7, x8, x9, x10, x11, x12, x13, x14, x15, x16, x17, x18, x19, x20, x21, x22] (Z1.out.on (Q.refl _).drew) (by rfl) (hK _ _ ?_)
      clear hK K
      refine wpAny_ready (rs := [1]) (by kernel_rfl) (by simp) ?_
      refine AllReady.cons rfl (fun K hK => ?_) AllReady.nil
      go_simp
      refine hK _ _ ?_
      clear hK K
      refine wpAny_ready (rs := [2]) (by kernel_rfl) (by simp) ?_
      refine AllReady.cons rfl (fun K hK => ?_) AllReady.nil
      go_simp
      refine hK _ _ ?_
      clear hK K
      refine wpAny_ready (rs := [3]) (by kernel_rfl) (by simp) ?_
      refine AllReady.cons rfl (fun K hK => ?_) AllReady.nil
      refine step_store_row (by rfl) 35 _ _ (by rfl) w1.heap.size #[.int .i64 k, .string sh, x2, x3, x4, x5, x6, x7, x8, x9, x10, x11, x12, x13, x14, x15, x16, x17, x18, x19, x20, x21, x22] (by rfl) (by rfl) 35 #[.int .i64 0, .string ⟨#[]⟩, .int .i64 0, .int .i64 0, .bool false, .int .i64 0, .int .i64 0, .string ⟨#[]⟩, .bool false, .int .i64 0, .int .i64 0, .int .i64 0, .string ⟨#[]⟩, .bool false, .int .i64 0, .slice none 0 0, .slice none 0 0, .int .i64 0, .int .i64 0, .int .i64 0, .slice none 0 0, .int .i64 0, .string ⟨#[]⟩] (heap_alloc_last w1 _) info35 (by rfl) H0.out (hK _ _ ?_)
      clear hK K
      refine wpAny_done (by kernel_rfl) ?_ _
      rw [set_new]
      exact HF
    · go_simp
      refine hK _ _ ?_
      clear hK K
      refine wpAny_ready (rs := [0, 2]) (by kernel_rfl) (by simp) ?_
      refine AllReady.cons rfl (fun K hK => ?_) (AllReady.cons rfl (fun K hK => ?_) AllReady.nil)
      · refine step_load_row (by rfl) _ (by rfl) b0 (by rfl) [.int .i64 k, .string sh, x2, x3, x4, x5, x6, x7, x8, x9, x10, x11, x12, x13, x14, x15, x16, x17, x18, x19, x20, x21, x22] (Z1.out.on (((Q.refl _).alloc _).drew)) (by rfl) (hK _ _ ?_)
        clear hK K
        refine wpAny_ready (rs := [2]) (by kernel_rfl) (by simp) ?_
        refine AllReady.cons rfl (fun K hK => ?_) AllReady.nil
        go_simp
        refine hK _ _ ?_
        clear hK K
        refine wpAny_ready (rs := [3]) (by kernel_rfl) (by simp) ?_
        refine AllReady.cons rfl (fun K hK => ?_) AllReady.nil
        refine step_store_row (by rfl) 35 _ _ (by rfl) w1.heap.size #[.int .i64 k, .string sh, x2, x3, x4, x5, x6, x7, x8, x9, x10, x11, x12, x13, x14, x15, x16, x17, x18, x19, x20, x21, x22] (by rfl) (by rfl) 35 #[.int .i64 0, .string ⟨#[]⟩, .int .i64 0, .int .i64 0, .bool false, .int .i64 0, .int .i64 0, .string ⟨#[]⟩, .bool false, .int .i64 0, .int .i64 0, .int .i64 0, .string ⟨#[]⟩, .bool false, .int .i64 0, .slice none 0 0, .slice none 0 0, .int .i64 0, .int .i64 0, .int .i64 0, .slice none 0 0, .int .i64 0, .string ⟨#[]⟩] (heap_alloc_last w1 _) info35 (by rfl) H0.out (hK _ _ ?_)
        clear hK K
        refine wpAny_done (by kernel_rfl) ?_ _
        rw [set_new]
        exact HF
      · go_simp
        refine hK _ _ ?_
        clear hK K
        refine wpAny_ready (rs := [0]) (by kernel_rfl) (by simp) ?_
        refine AllReady.cons rfl (fun K hK => ?_) AllReady.nil
        refine step_load_row (by rfl) _ (by rfl) b0 (by rfl) [.int .i64 k, .string sh, x2, x3, x4, x5, x6, x7, x8, x9, x10, x11, x12, x13, x14, x15, x16, x17, x18, x19, x20, x21, x22] (Z1.out.on (((Q.refl _).alloc _).drew)) (by rfl) (hK _ _ ?_)
        clear hK K
        refine wpAny_ready (rs := [3]) (by kernel_rfl) (by simp) ?_
        refine AllReady.cons rfl (fun K hK => ?_) AllReady.nil
        refine step_store_row (by rfl) 35 _ _ (by rfl) w1.heap.size #[.int .i64 k, .string sh, x2, x3, x4, x5, x6, x7, x8, x9, x10, x11, x12, x13, x14, x15, x16, x17, x18, x19, x20, x21, x22] (by rfl) (by rfl) 35 #[.int .i64 0, .string ⟨#[]⟩, .int .i64 0, .int .i64 0, .bool false, .int .i64 0, .int .i64 0, .string ⟨#[]⟩, .bool false, .int .i64 0, .int .i64 0, .int .i64 0, .string ⟨#[]⟩, .bool false, .int .i64 0, .slice none 0 0, .slice none 0 0, .int .i64 0, .int .i64 0, .int .i64 0, .slice none 0 0, .int .i64 0, .string ⟨#[]⟩] (heap_alloc_last w1 _) info35 (by rfl) H0.out (hK _ _ ?_)
        clear hK K
        refine wpAny_done (by kernel_rfl) ?_ _
        rw [set_new]
        exact HF
  have Z2 := hid ((cq_new w1 [.int .i64 k, .string sh, x2, x3, x4, x5, x6, x7, x8, x9, x10, x11, x12, x13, x14, x15, x16, x17, x18, x19, x20, x21, x22]).on (Q.refl _).drew)
  rw [show ([.int .i64 k, .string sh, x2, x3, x4, x5, x6, x7, x8, x9, x10, x11, x12, x13, x14, x15, x16, x17, x18, x19, x20, x21, x22] : List Value).toArray = #[.int .i64 k, .string sh, x2, x3, x4, x5, x6, x7, x8, x9, x10, x11, x12, x13, x14, x15, x16, x17, x18, x19, x20, x21, x22] from rfl] at Z2
  have Z0 := hid (Z1.out.on (((Q.refl w1).alloc (.cells #[.int .i64 k, .string sh, x2, x3, x4, x5, x6, x7, x8, x9, x10, x11, x12, x13, x14, x15, x16, x17, x18, x19, x20, x21, x22] 35)).drew))
  have QB : Hid (Q w ((w1.alloc (.cells #[.int .i64 k, .string sh, x2, x3, x4, x5, x6, x7, x8, x9, x10, x11, x12, x13, x14, x15, x16, x17, x18, x19, x20, x21, x22] 35)).drew)) := hid ((QA.out.alloc _).drew)
  have hb1 : w.heap.size ≤ w1.heap.size := QA.out.size
  have hne : b0 ≠ w1.heap.size := Nat.ne_of_lt Z1.out.l
  generalize (w1.alloc (.cells #[.int .i64 k, .string sh, x2, x3, x4, x5, x6, x7, x8, x9, x10, x11, x12, x13, x14, x15, x16, x17, x18, x19, x20, x21, x22] 35)).drew = w2 at Z0 Z2 QB ⊢
  generalize w1.heap.size = b1x at Z2 hb1 hne ⊢
  clear Z1 QA
  have d0 := Z0.out.c 0 _ rfl
  have d17 := Z0.out.c 17 _ rfl
  have d18 := Z0.out.c 18 _ rfl
  have d19 := Z0.out.c 19 _ rfl
  have u17 := Z2.out.c 17 _ rfl; have uf17 := Z2.out.f 17
  have u18 := Z2.out.c 18 _ rfl; have uf18 := Z2.out.f 18
  have u19 := Z2.out.c 19 _ rfl; have uf19 := Z2.out.f 19
  cases p1 with
  | false =>
    go_wp2_with (first | (go_at_call 21; refine (H1.out _ QB.out).mono ?_; rintro e9 v0 ⟨rfl, q9⟩; have QC0 : Hid (Q w v0) := hid (QB.out.trans q9); have Z10 := hid (Z0.out.on q9); have Z20 := hid (Z2.out.on q9); clear q9; have d0_0 := Z10.out.c 0 _ rfl; have d0_17 := Z10.out.c 17 _ rfl; have d0_18 := Z10.out.c 18 _ rfl; have d0_19 := Z10.out.c 19 _ rfl; have u0_17 := Z20.out.c 17 _ rfl; have uf0_17 := Z20.out.f 17; have u0_18 := Z20.out.c 18 _ rfl; have uf0_18 := Z20.out.f 18; have u0_19 := Z20.out.c 19 _ rfl; have uf0_19 := Z20.out.f 19))
    go_ret
    exact ⟨rfl, by repeat (first | exact QC0.out | refine Q.setCell ?_ hb1 _)⟩
  | true =>
    go_upto_region 17 with (first | (go_at_call 21; refine (H1.out _ QB.out).mono ?_; rintro e9 v0 ⟨rfl, q9⟩; have QC0 : Hid (Q w v0) := hid (QB.out.trans q9); have Z10 := hid (Z0.out.on q9); have Z20 := hid (Z2.out.on q9); clear q9; have d0_0 := Z10.out.c 0 _ rfl; have d0_17 := Z10.out.c 17 _ rfl; have d0_18 := Z10.out.c 18 _ rfl; have d0_19 := Z10.out.c 19 _ rfl; have u0_17 := Z20.out.c 17 _ rfl; have uf0_17 := Z20.out.f 17; have u0_18 := Z20.out.c 18 _ rfl; have uf0_18 := Z20.out.f 18; have u0_19 := Z20.out.c 19 _ rfl; have uf0_19 := Z20.out.f 19))
    have QV : Hid (Q w (((v0.setCell ⟨b1x, 17, none⟩ (.int .i64 0)).setCell ⟨b1x, 18, none⟩ (.int .i64 0)).setCell ⟨b1x, 19, none⟩ (.int .i64 0))) := hid (by repeat (first | exact QC0.out | refine Q.setCell ?_ hb1 _))
    have Z1V : Hid (Cq (((v0.setCell ⟨b1x, 17, none⟩ (.int .i64 0)).setCell ⟨b1x, 18, none⟩ (.int .i64 0)).setCell ⟨b1x, 19, none⟩ (.int .i64 0)) b0 [.int .i64 k, .string sh, x2, x3, x4, x5, x6, x7, x8, x9, x10, x11, x12, x13, x14, x15, x16, x17, x18, x19, x20, x21, x22]) := hid ((((Z10.out.oth hne 17 (.int .i64 0)).oth hne 18 (.int .i64 0)).oth hne 19 (.int .i64 0)))
    have Z2V : Hid (Cq (((v0.setCell ⟨b1x, 17, none⟩ (.int .i64 0)).setCell ⟨b1x, 18, none⟩ (.int .i64 0)).setCell ⟨b1x, 19, none⟩ (.int .i64 0)) b1x [.int .i64 k, .string sh, x2, x3, x4, x5, x6, x7, x8, x9, x10, x11, x12, x13, x14, x15, x16, .int .i64 0, .int .i64 0, .int .i64 0, x20, x21, x22]) := hid ((((Z20.out.put 17 (.int .i64 0)).put 18 (.int .i64 0)).put 19 (.int .i64 0)))
    generalize (((v0.setCell ⟨b1x, 17, none⟩ (.int .i64 0)).setCell ⟨b1x, 18, none⟩ (.int .i64 0)).setCell ⟨b1x, 19, none⟩ (.int .i64 0)) = V at QV Z1V Z2V ⊢
    clear d0 d17 d18 d19 u17 uf17 u18 uf18 u19 uf19 d0_0 d0_17 d0_18 d0_19 u0_17 uf0_17 u0_18 uf0_18 u0_19 uf0_19
    have g0 := Z1V.out.c 0 _ rfl
    have g1 := Z1V.out.c 1 _ rfl
    cases ib with
    | false =>
      go_wp2_with (go_at_call 25; refine (HI.out _ QV.out).mono ?_; rintro e9 y1 ⟨rfl, q9⟩; have QY : Hid (Q w y1) := hid (QV.out.trans q9); clear q9)
      go_ret
      exact ⟨rfl, QY.out⟩
    | true =>
      go_wp2_with (first | (go_at_call 25; refine (HI.out _ QV.out).mono ?_; rintro e9 y1 ⟨rfl, q9⟩; have QY : Hid (Q w y1) := hid (QV.out.trans q9); have Z1Y := hid (Z1V.out.on q9); have Z2Y := hid (Z2V.out.on q9); clear q9; have g0' := Z1Y.out.c 0 _ rfl; have g1' := Z1Y.out.c 1 _ rfl) | (refine wpl_loadg _ (by rfl) (by rfl) b1x (by rfl) [.int .i64 k, .string sh, x2, x3, x4, x5, x6, x7, x8, x9, x10, x11, x12, x13, x14, x15, x16, .int .i64 0, .int .i64 0, .int .i64 0, x20, x21, x22] Z2Y.out (by rfl) ?_) | (refine wpl_buildg _ (by rfl) (by rfl) #[.int .i64 k, .string sh, .int .i64 0, .int .i64 0, .bool false, .int .i64 0, .int .i64 0, .string ⟨#[]⟩, .bool false, .int .i64 0, .int .i64 0, .int .i64 0, .string ⟨#[]⟩, .bool false, .int .i64 0, .slice none 0 0, .slice none 0 0, .int .i64 0, .int .i64 0, .int .i64 0, .slice none 0 0, .int .i64 0, .string ⟨#[]⟩] (by kernel_rfl) ?_) | (go_at_call 10; refine (HE.out _ QY.out).mono ?_; rintro e9 y2 ⟨rfl, q9⟩; have QY2 : Hid (Q w y2) := hid (QY.out.trans q9); clear q9))
      go_ret
      exact ⟨rfl, QY2.out⟩
set_option maxHeartbeats 8000000 in
theorem rm_a1 (k : Int) (sh : ByteArray) (x4 x5 x6 x7 x8 x9 x10 x11 x12 x13 x14 x15 x16 : Value) (ra : Option Addr) (rc : Nat) (row : Int) (col : Int) (lk : Int) (la : Int) (lt : Int) (rl : Nat) (fm : Int) (nm : ByteArray) (w : World) (g0 : k ≠ 1) (g1 : row ≠ 0) (HI : Hid (∀ V, Calls Tryz.prog 26 #[.string sh] V fun e V' => e = .returned (.bool true) ∧ V' = V)) : Calls Tryz.prog 9 #[.agg #[.int .i64 k, .string sh, .int .i64 row, .int .i64 col, x4, x5, x6, x7, x8, x9, x10, x11, x12, x13, x14, x15, x16, .int .i64 lk, .int .i64 la, .int .i64 lt, .slice ra rl rc, .int .i64 fm, .string nm]] w fun e V' => e = .returned (.bool false) ∧ Q w V' := by
  go_enter Tryz.func9, Tryz.ntmps9
  go_upto_region 1 with fail
  have Z1 := hid (cq_new w [.int .i64 k, .string sh, .int .i64 row, .int .i64 col, x4, x5, x6, x7, x8, x9, x10, x11, x12, x13, x14, x15, x16, .int .i64 lk, .int .i64 la, .int .i64 lt, .slice ra rl rc, .int .i64 fm, .string nm])
  rw [show ([.int .i64 k, .string sh, .int .i64 row, .int .i64 col, x4, x5, x6, x7, x8, x9, x10, x11, x12, x13, x14, x15, x16, .int .i64 lk, .int .i64 la, .int .i64 lt, .slice ra rl rc, .int .i64 fm, .string nm] : List Value).toArray = #[.int .i64 k, .string sh, .int .i64 row, .int .i64 col, x4, x5, x6, x7, x8, x9, x10, x11, x12, x13, x14, x15, x16, .int .i64 lk, .int .i64 la, .int .i64 lt, .slice ra rl rc, .int .i64 fm, .string nm] from rfl] at Z1
  have QA : Hid (Q w (w.alloc (.cells #[.int .i64 k, .string sh, .int .i64 row, .int .i64 col, x4, x5, x6, x7, x8, x9, x10, x11, x12, x13, x14, x15, x16, .int .i64 lk, .int .i64 la, .int .i64 lt, .slice ra rl rc, .int .i64 fm, .string nm] 35))) := hid ((Q.refl w).alloc _)
  generalize w.alloc (.cells #[.int .i64 k, .string sh, .int .i64 row, .int .i64 col, x4, x5, x6, x7, x8, x9, x10, x11, x12, x13, x14, x15, x16, .int .i64 lk, .int .i64 la, .int .i64 lt, .slice ra rl rc, .int .i64 fm, .string nm] 35) = w1 at Z1 QA ⊢
  generalize w.heap.size = b0 at Z1 ⊢
  have d0 := Z1.out.c 0 _ rfl
  have d1 := Z1.out.c 1 _ rfl
  have d2 := Z1.out.c 2 _ rfl
  have d3 := Z1.out.c 3 _ rfl
  have d4 := Z1.out.c 4 _ rfl
  have d5 := Z1.out.c 5 _ rfl
  have d6 := Z1.out.c 6 _ rfl
  have d7 := Z1.out.c 7 _ rfl
  have d8 := Z1.out.c 8 _ rfl
  have d9 := Z1.out.c 9 _ rfl
  have d10 := Z1.out.c 10 _ rfl
  have d11 := Z1.out.c 11 _ rfl
  have d12 := Z1.out.c 12 _ rfl
  have d13 := Z1.out.c 13 _ rfl
  have d14 := Z1.out.c 14 _ rfl
  have d15 := Z1.out.c 15 _ rfl
  have d16 := Z1.out.c 16 _ rfl
  have d17 := Z1.out.c 17 _ rfl
  have d18 := Z1.out.c 18 _ rfl
  have d19 := Z1.out.c 19 _ rfl
  have d20 := Z1.out.c 20 _ rfl
  have d21 := Z1.out.c 21 _ rfl
  have d22 := Z1.out.c 22 _ rfl
  go_wp2_with (first | (go_at_call 26; refine (HI.out _).mono ?_; rintro e9 v9 ⟨rfl, h9⟩; replace h9 := h9.symm; subst h9))
  go_ret
  exact ⟨rfl, QA.out⟩
set_option maxHeartbeats 8000000 in
theorem rm_a2 (k : Int) (sh : ByteArray) (x4 x5 x6 x7 x8 x9 x10 x11 x12 x13 x14 x15 x16 : Value) (ra : Option Addr) (rc : Nat) (col : Int) (lk : Int) (la : Int) (lt : Int) (rl : Nat) (fm : Int) (nm : ByteArray) (w : World) (g0 : k ≠ 1) (g1 : col ≠ 0) (HI : Hid (∀ V, Calls Tryz.prog 26 #[.string sh] V fun e V' => e = .returned (.bool true) ∧ V' = V)) : Calls Tryz.prog 9 #[.agg #[.int .i64 k, .string sh, .int .i64 0, .int .i64 col, x4, x5, x6, x7, x8, x9, x10, x11, x12, x13, x14, x15, x16, .int .i64 lk, .int .i64 la, .int .i64 lt, .slice ra rl rc, .int .i64 fm, .string nm]] w fun e V' => e = .returned (.bool false) ∧ Q w V' := by
  go_enter Tryz.func9, Tryz.ntmps9
  go_upto_region 1 with fail
  have Z1 := hid (cq_new w [.int .i64 k, .string sh, .int .i64 0, .int .i64 col, x4, x5, x6, x7, x8, x9, x10, x11, x12, x13, x14, x15, x16, .int .i64 lk, .int .i64 la, .int .i64 lt, .slice ra rl rc, .int .i64 fm, .string nm])
  rw [show ([.int .i64 k, .string sh, .int .i64 0, .int .i64 col, x4, x5, x6, x7, x8, x9, x10, x11, x12, x13, x14, x15, x16, .int .i64 lk, .int .i64 la, .int .i64 lt, .slice ra rl rc, .int .i64 fm, .string nm] : List Value).toArray = #[.int .i64 k, .string sh, .int .i64 0, .int .i64 col, x4, x5, x6, x7, x8, x9, x10, x11, x12, x13, x14, x15, x16, .int .i64 lk, .int .i64 la, .int .i64 lt, .slice ra rl rc, .int .i64 fm, .string nm] from rfl] at Z1
  have QA : Hid (Q w (w.alloc (.cells #[.int .i64 k, .string sh, .int .i64 0, .int .i64 col, x4, x5, x6, x7, x8, x9, x10, x11, x12, x13, x14, x15, x16, .int .i64 lk, .int .i64 la, .int .i64 lt, .slice ra rl rc, .int .i64 fm, .string nm] 35))) := hid ((Q.refl w).alloc _)
  generalize w.alloc (.cells #[.int .i64 k, .string sh, .int .i64 0, .int .i64 col, x4, x5, x6, x7, x8, x9, x10, x11, x12, x13, x14, x15, x16, .int .i64 lk, .int .i64 la, .int .i64 lt, .slice ra rl rc, .int .i64 fm, .string nm] 35) = w1 at Z1 QA ⊢
  generalize w.heap.size = b0 at Z1 ⊢
  have d0 := Z1.out.c 0 _ rfl
  have d1 := Z1.out.c 1 _ rfl
  have d2 := Z1.out.c 2 _ rfl
  have d3 := Z1.out.c 3 _ rfl
  have d4 := Z1.out.c 4 _ rfl
  have d5 := Z1.out.c 5 _ rfl
  have d6 := Z1.out.c 6 _ rfl
  have d7 := Z1.out.c 7 _ rfl
  have d8 := Z1.out.c 8 _ rfl
  have d9 := Z1.out.c 9 _ rfl
  have d10 := Z1.out.c 10 _ rfl
  have d11 := Z1.out.c 11 _ rfl
  have d12 := Z1.out.c 12 _ rfl
  have d13 := Z1.out.c 13 _ rfl
  have d14 := Z1.out.c 14 _ rfl
  have d15 := Z1.out.c 15 _ rfl
  have d16 := Z1.out.c 16 _ rfl
  have d17 := Z1.out.c 17 _ rfl
  have d18 := Z1.out.c 18 _ rfl
  have d19 := Z1.out.c 19 _ rfl
  have d20 := Z1.out.c 20 _ rfl
  have d21 := Z1.out.c 21 _ rfl
  have d22 := Z1.out.c 22 _ rfl
  go_wp2_with (first | (go_at_call 26; refine (HI.out _).mono ?_; rintro e9 v9 ⟨rfl, h9⟩; replace h9 := h9.symm; subst h9))
  go_ret
  exact ⟨rfl, QA.out⟩
set_option maxHeartbeats 8000000 in
theorem rm_a3 (k : Int) (sh : ByteArray) (x4 x5 x6 x7 x8 x9 x10 x11 x12 x13 x14 x15 x16 : Value) (ra : Option Addr) (rc : Nat) (lk : Int) (la : Int) (lt : Int) (rl : Nat) (fm : Int) (nm : ByteArray) (w : World) (g0 : k ≠ 1) (HI : Hid (∀ V, Calls Tryz.prog 26 #[.string sh] V fun e V' => e = .returned (.bool true) ∧ V' = V)) (HC : Hid (∀ V, Q w V → Calls Tryz.prog 27 #[.agg #[x4, x5, x6, x7, x8, x9, x10, x11, x12, x13, x14, x15, x16], .agg #[.bool false, .int .i64 0, .int .i64 0, .string ⟨#[]⟩, .bool false, .int .i64 0, .int .i64 0, .int .i64 0, .string ⟨#[]⟩, .bool false, .int .i64 0, .slice none 0 0, .slice none 0 0]] V fun e V' => e = .returned (.bool false) ∧ Q V V')) : Calls Tryz.prog 9 #[.agg #[.int .i64 k, .string sh, .int .i64 0, .int .i64 0, x4, x5, x6, x7, x8, x9, x10, x11, x12, x13, x14, x15, x16, .int .i64 lk, .int .i64 la, .int .i64 lt, .slice ra rl rc, .int .i64 fm, .string nm]] w fun e V' => e = .returned (.bool false) ∧ Q w V' := by
  go_enter Tryz.func9, Tryz.ntmps9
  go_upto_region 1 with fail
  have Z1 := hid (cq_new w [.int .i64 k, .string sh, .int .i64 0, .int .i64 0, x4, x5, x6, x7, x8, x9, x10, x11, x12, x13, x14, x15, x16, .int .i64 lk, .int .i64 la, .int .i64 lt, .slice ra rl rc, .int .i64 fm, .string nm])
  rw [show ([.int .i64 k, .string sh, .int .i64 0, .int .i64 0, x4, x5, x6, x7, x8, x9, x10, x11, x12, x13, x14, x15, x16, .int .i64 lk, .int .i64 la, .int .i64 lt, .slice ra rl rc, .int .i64 fm, .string nm] : List Value).toArray = #[.int .i64 k, .string sh, .int .i64 0, .int .i64 0, x4, x5, x6, x7, x8, x9, x10, x11, x12, x13, x14, x15, x16, .int .i64 lk, .int .i64 la, .int .i64 lt, .slice ra rl rc, .int .i64 fm, .string nm] from rfl] at Z1
  have QA : Hid (Q w (w.alloc (.cells #[.int .i64 k, .string sh, .int .i64 0, .int .i64 0, x4, x5, x6, x7, x8, x9, x10, x11, x12, x13, x14, x15, x16, .int .i64 lk, .int .i64 la, .int .i64 lt, .slice ra rl rc, .int .i64 fm, .string nm] 35))) := hid ((Q.refl w).alloc _)
  generalize w.alloc (.cells #[.int .i64 k, .string sh, .int .i64 0, .int .i64 0, x4, x5, x6, x7, x8, x9, x10, x11, x12, x13, x14, x15, x16, .int .i64 lk, .int .i64 la, .int .i64 lt, .slice ra rl rc, .int .i64 fm, .string nm] 35) = w1 at Z1 QA ⊢
  generalize w.heap.size = b0 at Z1 ⊢
  have d0 := Z1.out.c 0 _ rfl
  have d1 := Z1.out.c 1 _ rfl
  have d2 := Z1.out.c 2 _ rfl
  have d3 := Z1.out.c 3 _ rfl
  have d4 := Z1.out.c 4 _ rfl
  have d5 := Z1.out.c 5 _ rfl
  have d6 := Z1.out.c 6 _ rfl
  have d7 := Z1.out.c 7 _ rfl
  have d8 := Z1.out.c 8 _ rfl
  have d9 := Z1.out.c 9 _ rfl
  have d10 := Z1.out.c 10 _ rfl
  have d11 := Z1.out.c 11 _ rfl
  have d12 := Z1.out.c 12 _ rfl
  have d13 := Z1.out.c 13 _ rfl
  have d14 := Z1.out.c 14 _ rfl
  have d15 := Z1.out.c 15 _ rfl
  have d16 := Z1.out.c 16 _ rfl
  have d17 := Z1.out.c 17 _ rfl
  have d18 := Z1.out.c 18 _ rfl
  have d19 := Z1.out.c 19 _ rfl
  have d20 := Z1.out.c 20 _ rfl
  have d21 := Z1.out.c 21 _ rfl
  have d22 := Z1.out.c 22 _ rfl
  go_wp2_with (first | (go_at_call 26; refine (HI.out _).mono ?_; rintro e9 v9 ⟨rfl, h9⟩; replace h9 := h9.symm; subst h9) | (go_at_call 27; refine (HC.out _ QA.out).mono ?_; rintro e9 v0 ⟨rfl, q9⟩; have Q0 : Hid (Q w v0) := hid (QA.out.trans q9); have Z10 := hid (Z1.out.on q9); clear q9; have c17 := Z10.out.c 17 _ rfl; have c18 := Z10.out.c 18 _ rfl; have c19 := Z10.out.c 19 _ rfl; have c20 := Z10.out.c 20 _ rfl; have c21 := Z10.out.c 21 _ rfl; have c22 := Z10.out.c 22 _ rfl))
  go_ret
  exact ⟨rfl, Q0.out⟩
end Go.Proofs.YtngnakdbhkjbjaaGreatDoor
