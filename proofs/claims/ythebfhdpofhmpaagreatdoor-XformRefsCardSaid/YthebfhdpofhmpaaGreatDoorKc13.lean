/- op.May, walked, kind by kind. -/
import Derived.Test.YthebfhdpofhmpaaGreatDoorKc00
set_option linter.unusedVariables false
set_option linter.unusedSimpArgs false
set_option maxRecDepth 100000
set_option maxHeartbeats 8000000
namespace Go.Proofs.YthebfhdpofhmpaaGreatDoor
open Go.RowKit
set_option maxHeartbeats 8000000 in
theorem om1 (k : Int) (sh : ByteArray) (x2 x3 x4 x5 x6 x7 x8 x9 x10 x11 x12 x13 x14 x15 x16 x17 x18 x19 x20 x21 x22 : Value) (w : World) (p1 : Bool) (p2 : Bool) (p3 : Bool) (ib eb : Bool) (k0 : (k == 1) = true) (H0 : Hid ((#[.int .i64 k, .string sh, x2, x3, x4, x5, x6, x7, x8, x9, x10, x11, x12, x13, x14, x15, x16, x17, x18, x19, x20, x21, x22] : Array Value).all (·.oneCell') = true)) (H1 : Hid (∀ V, Q w V → Calls Tryz.prog 28 #[x2] V fun e V' => e = .returned (.bool p1) ∧ Q V V')) (H2 : Hid (∀ V, Q w V → Calls Tryz.prog 28 #[x3] V fun e V' => e = .returned (.bool p2) ∧ Q V V')) (H3 : Hid (∀ V, Q w V → Calls Tryz.prog 29 #[.agg #[x4, x5, x6, x7, x8, x9, x10, x11, x12, x13, x14, x15, x16]] V fun e V' => e = .returned (.bool p3) ∧ Q V V')) (HI : Hid (∀ V, Q w V → Calls Tryz.prog 34 #[.string sh] V fun e V' => e = .returned (.bool ib) ∧ Q V V')) (HE : Hid (∀ V, Q w V → Calls Tryz.prog 35 #[.agg #[.int .i64 k, .string sh, .int .i64 0, .int .i64 0, .bool false, .int .i64 0, .int .i64 0, .string ⟨#[]⟩, .bool false, .int .i64 0, .int .i64 0, .int .i64 0, .string ⟨#[]⟩, .bool false, .int .i64 0, .slice none 0 0, .slice none 0 0, x17, x18, x19, x20, x21, x22], .agg #[.int .i64 k, .string sh, .int .i64 0, .int .i64 0, .bool false, .int .i64 0, .int .i64 0, .string ⟨#[]⟩, .bool false, .int .i64 0, .int .i64 0, .int .i64 0, .string ⟨#[]⟩, .bool false, .int .i64 0, .slice none 0 0, .slice none 0 0, .int .i64 0, .int .i64 0, .int .i64 0, .slice none 0 0, .int .i64 0, .string ⟨#[]⟩]] V fun e V' => e = .returned (.bool eb) ∧ Q V V')) : Calls Tryz.prog 22 #[.agg #[.int .i64 k, .string sh, x2, x3, x4, x5, x6, x7, x8, x9, x10, x11, x12, x13, x14, x15, x16, x17, x18, x19, x20, x21, x22]] w fun e V' => e = .returned (.bool ((p1 && (p2 && p3)) && (ib && eb))) ∧ Q w V' := by
  go_enter Tryz.func22, Tryz.ntmps22
  go_upto_region 1 with fail
  have Z1 := hid (cq_new w [.int .i64 k, .string sh, x2, x3, x4, x5, x6, x7, x8, x9, x10, x11, x12, x13, x14, x15, x16, x17, x18, x19, x20, x21, x22])
  rw [show ([.int .i64 k, .string sh, x2, x3, x4, x5, x6, x7, x8, x9, x10, x11, x12, x13, x14, x15, x16, x17, x18, x19, x20, x21, x22] : List Value).toArray = #[.int .i64 k, .string sh, x2, x3, x4, x5, x6, x7, x8, x9, x10, x11, x12, x13, x14, x15, x16, x17, x18, x19, x20, x21, x22] from rfl] at Z1
  have QA : Hid (Q w (w.alloc (.cells #[.int .i64 k, .string sh, x2, x3, x4, x5, x6, x7, x8, x9, x10, x11, x12, x13, x14, x15, x16, x17, x18, x19, x20, x21, x22] 40))) := hid ((Q.refl w).alloc _)
  generalize w.alloc (.cells #[.int .i64 k, .string sh, x2, x3, x4, x5, x6, x7, x8, x9, x10, x11, x12, x13, x14, x15, x16, x17, x18, x19, x20, x21, x22] 40) = w1 at Z1 QA ⊢
  generalize w.heap.size = b0 at Z1 ⊢
  refine two (F := ?F) (fun HF => ?both) ?rest
  case both =>
    refine wp_region_any (by kernel_rfl) ?_
    change wpAny _ _ _ _ _ _ _ (World.drew _)
    refine wpAny_ready (rs := [0, 1]) (by kernel_rfl) (by simp) ?_
    refine AllReady.cons rfl (fun K hK => ?_) (AllReady.cons rfl (fun K hK => ?_) AllReady.nil)
    · refine step_load_row (by rfl) _ (by rfl) b0 (by rfl) [.int .i64 k, .string sh, x2, x3, x4, x5, x6, x7, x8, x9, x10, x11, x12, x13, x14, x15, x16, x17, x18, x19, x20, x21, x22] (Z1.out.on (Q.refl _).drew) (by rfl) (hK _ _ ?_)
      clear hK K
      refine wpAny_ready (rs := [1]) (by kernel_rfl) (by simp) ?_
      refine AllReady.cons rfl (fun K hK => ?_) AllReady.nil
      go_simp
      refine hK _ _ ?_
      clear hK K
      refine wpAny_ready (rs := [2]) (by kernel_rfl) (by simp) ?_
      refine AllReady.cons rfl (fun K hK => ?_) AllReady.nil
      go_simp
      refine hK _ _ ?_
      clear hK K
      refine wpAny_ready (rs := [3]) (by kernel_rfl) (by simp) ?_
      refine AllReady.cons rfl (fun K hK => ?_) AllReady.nil
      refine step_store_row (by rfl) 40 _ _ (by rfl) w1.heap.size #[.int .i64 k, .string sh, x2, x3, x4, x5, x6, x7, x8, x9, x10, x11, x12, x13, x14, x15, x16, x17, x18, x19, x20, x21, x22] (by rfl) (by rfl) 40 #[.int .i64 0, .string ⟨#[]⟩, .int .i64 0, .int .i64 0, .bool false, .int .i64 0, .int .i64 0, .string ⟨#[]⟩, .bool false, .int .i64 0, .int .i64 0, .int .i64 0, .string ⟨#[]⟩, .bool false, .int .i64 0, .slice none 0 0, .slice none 0 0, .int .i64 0, .int .i64 0, .int .i64 0, .slice none 0 0, .int .i64 0, .string ⟨#[]⟩] (heap_alloc_last w1 _) info35 (by rfl) H0.out (hK _ _ ?_)
      clear hK K
      refine wpAny_done (by kernel_rfl) ?_ _
      rw [set_new]
      exact HF
    · go_simp
      refine hK _ _ ?_
      clear hK K
      refine wpAny_ready (rs := [0, 2]) (by kernel_rfl) (by simp) ?_
      refine AllReady.cons rfl (fun K hK => ?_) (AllReady.cons rfl (fun K hK => ?_) AllReady.nil)
      · refine step_load_row (by rfl) _ (by rfl) b0 (by rfl) [.int .i64 k, .string sh, x2, x3, x4, x5, x6, x7, x8, x9, x10, x11, x12, x13, x14, x15, x16, x17, x18, x19, x20, x21, x22] (Z1.out.on (((Q.refl _).alloc _).drew)) (by rfl) (hK _ _ ?_)
        clear hK K
        refine wpAny_ready (rs := [2]) (by kernel_rfl) (by simp) ?_
        refine AllReady.cons rfl (fun K hK => ?_) AllReady.nil
        go_simp
        refine hK _ _ ?_
        clear hK K
        refine wpAny_ready (rs := [3]) (by kernel_rfl) (by simp) ?_
        refine AllReady.cons rfl (fun K hK => ?_) AllReady.nil
        refine step_store_row (by rfl) 40 _ _ (by rfl) w1.heap.size #[.int .i64 k, .string sh, x2, x3, x4, x5, x6, x7, x8, x9, x10, x11, x12, x13, x14, x15, x16, x17, x18, x19, x20, x21, x22] (by rfl) (by rfl) 40 #[.int .i64 0, .string ⟨#[]⟩, .int .i64 0, .int .i64 0, .bool false, .int .i64 0, .int .i64 0, .string ⟨#[]⟩, .bool false, .int .i64 0, .int .i64 0, .int .i64 0, .string ⟨#[]⟩, .bool false, .int .i64 0, .slice none 0 0, .slice none 0 0, .int .i64 0, .int .i64 0, .int .i64 0, .slice none 0 0, .int .i64 0, .string ⟨#[]⟩] (heap_alloc_last w1 _) info35 (by rfl) H0.out (hK _ _ ?_)
        clear hK K
        refine wpAny_done (by kernel_rfl) ?_ _
        rw [set_new]
        exact HF
      · go_simp
        refine hK _ _ ?_
        clear hK K
        refine wpAny_ready (rs := [0]) (by kernel_rfl) (by simp) ?_
        refine AllReady.cons rfl (fun K hK => ?_) AllReady.nil
        refine step_load_row (by rfl) _ (by rfl) b0 (by rfl) [.int .i64 k, .string sh, x2, x3, x4, x5, x6, x7, x8, x9, x10, x11, x12, x13, x14, x15, x16, x17, x18, x19, x20, x21, x22] (Z1.out.on (((Q.refl _).alloc _).drew)) (by rfl) (hK _ _ ?_)
        clear hK K
        refine wpAny_ready (rs := [3]) (by kernel_rfl) (by simp) ?_
        refine AllReady.cons rfl (fun K hK => ?_) AllReady.nil
        refine step_store_row (by rfl) 40 _ _ (by rfl) w1.heap.size #[.int .i64 k, .string sh, x2, x3, x4, x5, x6, x7, x8, x9, x10, x11, x12, x13, x14, x15, x16, x17, x18, x19, x20, x21, x22] (by rfl) (by rfl) 40 #[.int .i64 0, .string ⟨#[]⟩, .int .i64 0, .int .i64 0, .bool false, .int .i64 0, .int .i64 0, .string ⟨#[]⟩, .bool false, .int .i64 0, .int .i64 0, .int .i64 0, .string ⟨#[]⟩, .bool false, .int .i64 0, .slice none 0 0, .slice none 0 0, .int .i64 0, .int .i64 0, .int .i64 0, .slice none 0 0, .int .i64 0, .string ⟨#[]⟩] (heap_alloc_last w1 _) info35 (by rfl) H0.out (hK _ _ ?_)
        clear hK K
        refine wpAny_done (by kernel_rfl) ?_ _
        rw [set_new]
        exact HF
  have Z2 := hid ((cq_new w1 [.int .i64 k, .string sh, x2, x3, x4, x5, x6, x7, x8, x9, x10, x11, x12, x13, x14, x15, x16, x17, x18, x19, x20, x21, x22]).on (Q.refl _).drew)
  rw [show ([.int .i64 k, .string sh, x2, x3, x4, x5, x6, x7, x8, x9, x10, x11, x12, x13, x14, x15, x16, x17, x18, x19, x20, x21, x22] : List Value).toArray = #[.int .i64 k, .string sh, x2, x3, x4, x5, x6, x7, x8, x9, x10, x11, x12, x13, x14, x15, x16, x17, x18, x19, x20, x21, x22] from rfl] at Z2
  have Z0 := hid (Z1.out.on (((Q.refl w1).alloc (.cells #[.int .i64 k, .string sh, x2, x3, x4, x5, x6, x7, x8, x9, x10, x11, x12, x13, x14, x15, x16, x17, x18, x19, x20, x21, x22] 40)).drew))
  have QB : Hid (Q w ((w1.alloc (.cells #[.int .i64 k, .string sh, x2, x3, x4, x5, x6, x7, x8, x9, x10, x11, x12, x13, x14, x15, x16, x17, x18, x19, x20, x21, x22] 40)).drew)) := hid ((QA.out.alloc _).drew)
  have hb1 : w.heap.size ≤ w1.heap.size := QA.out.size
  have hne : b0 ≠ w1.heap.size := Nat.ne_of_lt Z1.out.l
  generalize (w1.alloc (.cells #[.int .i64 k, .string sh, x2, x3, x4, x5, x6, x7, x8, x9, x10, x11, x12, x13, x14, x15, x16, x17, x18, x19, x20, x21, x22] 40)).drew = w2 at Z0 Z2 QB ⊢
  generalize w1.heap.size = b1x at Z2 hb1 hne ⊢
  clear Z1 QA
  have d0 := Z0.out.c 0 _ rfl
  have d2 := Z0.out.c 2 _ rfl
  cases p1 with
  | false =>
    go_upto_region 5 with (go_at_call 28; refine (H1.out _ QB.out).mono ?_; rintro e9 v0 ⟨rfl, q9⟩; have QC0 : Hid (Q w v0) := hid (QB.out.trans q9); have Z10 := hid (Z0.out.on q9); have Z20 := hid (Z2.out.on q9); clear q9; have d0_3 := Z10.out.c 3 _ rfl)
    have HT : Hid (((v0.setCell ⟨b1x, 2, none⟩ (.int .i64 0)).setCell ⟨b1x, 3, none⟩ (.int .i64 0)).there b1x 4 13) := hid (there_cq ((Z20.out.put 2 _).put 3 _) 4 13 (by simp))
    have QV : Hid (Q w (((v0.setCell ⟨b1x, 2, none⟩ (.int .i64 0)).setCell ⟨b1x, 3, none⟩ (.int .i64 0)).setCells b1x 4 [.bool false, .int .i64 0, .int .i64 0, .string ⟨#[]⟩, .bool false, .int .i64 0, .int .i64 0, .int .i64 0, .string ⟨#[]⟩, .bool false, .int .i64 0, .slice none 0 0, .slice none 0 0])) := hid (Q.cells hb1 _ _ (Q.setCell (Q.setCell QC0.out hb1 _) hb1 _))
    have Z1V : Hid (Cq (((v0.setCell ⟨b1x, 2, none⟩ (.int .i64 0)).setCell ⟨b1x, 3, none⟩ (.int .i64 0)).setCells b1x 4 [.bool false, .int .i64 0, .int .i64 0, .string ⟨#[]⟩, .bool false, .int .i64 0, .int .i64 0, .int .i64 0, .string ⟨#[]⟩, .bool false, .int .i64 0, .slice none 0 0, .slice none 0 0]) b0 [.int .i64 k, .string sh, x2, x3, x4, x5, x6, x7, x8, x9, x10, x11, x12, x13, x14, x15, x16, x17, x18, x19, x20, x21, x22]) := hid (Cq.othcells hne _ _ ((Z10.out.oth hne _ _).oth hne _ _))
    have Z2V : Hid (Cq (((v0.setCell ⟨b1x, 2, none⟩ (.int .i64 0)).setCell ⟨b1x, 3, none⟩ (.int .i64 0)).setCells b1x 4 [.bool false, .int .i64 0, .int .i64 0, .string ⟨#[]⟩, .bool false, .int .i64 0, .int .i64 0, .int .i64 0, .string ⟨#[]⟩, .bool false, .int .i64 0, .slice none 0 0, .slice none 0 0]) b1x [.int .i64 k, .string sh, .int .i64 0, .int .i64 0, .bool false, .int .i64 0, .int .i64 0, .string ⟨#[]⟩, .bool false, .int .i64 0, .int .i64 0, .int .i64 0, .string ⟨#[]⟩, .bool false, .int .i64 0, .slice none 0 0, .slice none 0 0, x17, x18, x19, x20, x21, x22]) := hid (Cq.cells [.bool false, .int .i64 0, .int .i64 0, .string ⟨#[]⟩, .bool false, .int .i64 0, .int .i64 0, .int .i64 0, .string ⟨#[]⟩, .bool false, .int .i64 0, .slice none 0 0, .slice none 0 0] 4 ((Z20.out.put 2 (.int .i64 0)).put 3 (.int .i64 0)))
    have u2 := Z20.out.c 2 _ rfl; have uf2 := Z20.out.f 2; have u3 := Z20.out.c 3 _ rfl; have uf3 := Z20.out.f 3
    go_upto_region 17 with (first | (refine wpl_buildt 37 _ (by rfl) (by rfl) #[.bool false, .int .i64 0, .int .i64 0, .string ⟨#[]⟩, .bool false, .int .i64 0, .int .i64 0, .int .i64 0, .string ⟨#[]⟩, .bool false, .int .i64 0, .slice none 0 0, .slice none 0 0] (by kernel_rfl) ?_) | (refine wpList_store_mid (by rfl) 37 _ _ (by rfl) b1x 4 #[.bool false, .int .i64 0, .int .i64 0, .string ⟨#[]⟩, .bool false, .int .i64 0, .int .i64 0, .int .i64 0, .string ⟨#[]⟩, .bool false, .int .i64 0, .slice none 0 0, .slice none 0 0] (by rfl) (by rfl) HT.out info30 (by kernel_rfl) ?_))
    generalize ((v0.setCell ⟨b1x, 2, none⟩ (.int .i64 0)).setCell ⟨b1x, 3, none⟩ (.int .i64 0)).setCells b1x 4 [.bool false, .int .i64 0, .int .i64 0, .string ⟨#[]⟩, .bool false, .int .i64 0, .int .i64 0, .int .i64 0, .string ⟨#[]⟩, .bool false, .int .i64 0, .slice none 0 0, .slice none 0 0] = V at QV Z1V Z2V ⊢
    clear HT u2 uf2 u3 uf3
    go_wp2_with fail
    go_ret
    exact ⟨rfl, QV.out⟩
  | true =>
    cases p2 with
    | false =>
      go_upto_region 5 with (first | (go_at_call 28; refine (H1.out _ QB.out).mono ?_; rintro e9 v0 ⟨rfl, q9⟩; have QC0 : Hid (Q w v0) := hid (QB.out.trans q9); have Z10 := hid (Z0.out.on q9); have Z20 := hid (Z2.out.on q9); clear q9; have d0_3 := Z10.out.c 3 _ rfl) | (go_at_call 28; refine (H2.out _ QC0.out).mono ?_; rintro e9 v1 ⟨rfl, q9⟩; have QC1 : Hid (Q w v1) := hid (QC0.out.trans q9); have Z11 := hid (Z10.out.on q9); have Z21 := hid (Z20.out.on q9); clear q9; have d1_4 := Z11.out.c 4 _ rfl; have d1_5 := Z11.out.c 5 _ rfl; have d1_6 := Z11.out.c 6 _ rfl; have d1_7 := Z11.out.c 7 _ rfl; have d1_8 := Z11.out.c 8 _ rfl; have d1_9 := Z11.out.c 9 _ rfl; have d1_10 := Z11.out.c 10 _ rfl; have d1_11 := Z11.out.c 11 _ rfl; have d1_12 := Z11.out.c 12 _ rfl; have d1_13 := Z11.out.c 13 _ rfl; have d1_14 := Z11.out.c 14 _ rfl; have d1_15 := Z11.out.c 15 _ rfl; have d1_16 := Z11.out.c 16 _ rfl))
      have HT : Hid (((v1.setCell ⟨b1x, 2, none⟩ (.int .i64 0)).setCell ⟨b1x, 3, none⟩ (.int .i64 0)).there b1x 4 13) := hid (there_cq ((Z21.out.put 2 _).put 3 _) 4 13 (by simp))
      have QV : Hid (Q w (((v1.setCell ⟨b1x, 2, none⟩ (.int .i64 0)).setCell ⟨b1x, 3, none⟩ (.int .i64 0)).setCells b1x 4 [.bool false, .int .i64 0, .int .i64 0, .string ⟨#[]⟩, .bool false, .int .i64 0, .int .i64 0, .int .i64 0, .string ⟨#[]⟩, .bool false, .int .i64 0, .slice none 0 0, .slice none 0 0])) := hid (Q.cells hb1 _ _ (Q.setCell (Q.setCell QC1.out hb1 _) hb1 _))
      have Z1V : Hid (Cq (((v1.setCell ⟨b1x, 2, none⟩ (.int .i64 0)).setCell ⟨b1x, 3, none⟩ (.int .i64 0)).setCells b1x 4 [.bool false, .int .i64 0, .int .i64 0, .string ⟨#[]⟩, .bool false, .int .i64 0, .int .i64 0, .int .i64 0, .string ⟨#[]⟩, .bool false, .int .i64 0, .slice none 0 0, .slice none 0 0]) b0 [.int .i64 k, .string sh, x2, x3, x4, x5, x6, x7, x8, x9, x10, x11, x12, x13, x14, x15, x16, x17, x18, x19, x20, x21, x22]) := hid (Cq.othcells hne _ _ ((Z11.out.oth hne _ _).oth hne _ _))
      have Z2V : Hid (Cq (((v1.setCell ⟨b1x, 2, none⟩ (.int .i64 0)).setCell ⟨b1x, 3, none⟩ (.int .i64 0)).setCells b1x 4 [.bool false, .int .i64 0, .int .i64 0, .string ⟨#[]⟩, .bool false, .int .i64 0, .int .i64 0, .int .i64 0, .string ⟨#[]⟩, .bool false, .int .i64 0, .slice none 0 0, .slice none 0 0]) b1x [.int .i64 k, .string sh, .int .i64 0, .int .i64 0, .bool false, .int .i64 0, .int .i64 0, .string ⟨#[]⟩, .bool false, .int .i64 0, .int .i64 0, .int .i64 0, .string ⟨#[]⟩, .bool false, .int .i64 0, .slice none 0 0, .slice none 0 0, x17, x18, x19, x20, x21, x22]) := hid (Cq.cells [.bool false, .int .i64 0, .int .i64 0, .string ⟨#[]⟩, .bool false, .int .i64 0, .int .i64 0, .int .i64 0, .string ⟨#[]⟩, .bool false, .int .i64 0, .slice none 0 0, .slice none 0 0] 4 ((Z21.out.put 2 (.int .i64 0)).put 3 (.int .i64 0)))
      have u2 := Z21.out.c 2 _ rfl; have uf2 := Z21.out.f 2; have u3 := Z21.out.c 3 _ rfl; have uf3 := Z21.out.f 3
      go_upto_region 17 with (first | (refine wpl_buildt 37 _ (by rfl) (by rfl) #[.bool false, .int .i64 0, .int .i64 0, .string ⟨#[]⟩, .bool false, .int .i64 0, .int .i64 0, .int .i64 0, .string ⟨#[]⟩, .bool false, .int .i64 0, .slice none 0 0, .slice none 0 0] (by kernel_rfl) ?_) | (refine wpList_store_mid (by rfl) 37 _ _ (by rfl) b1x 4 #[.bool false, .int .i64 0, .int .i64 0, .string ⟨#[]⟩, .bool false, .int .i64 0, .int .i64 0, .int .i64 0, .string ⟨#[]⟩, .bool false, .int .i64 0, .slice none 0 0, .slice none 0 0] (by rfl) (by rfl) HT.out info30 (by kernel_rfl) ?_))
      generalize ((v1.setCell ⟨b1x, 2, none⟩ (.int .i64 0)).setCell ⟨b1x, 3, none⟩ (.int .i64 0)).setCells b1x 4 [.bool false, .int .i64 0, .int .i64 0, .string ⟨#[]⟩, .bool false, .int .i64 0, .int .i64 0, .int .i64 0, .string ⟨#[]⟩, .bool false, .int .i64 0, .slice none 0 0, .slice none 0 0] = V at QV Z1V Z2V ⊢
      clear HT u2 uf2 u3 uf3
      go_wp2_with fail
      go_ret
      exact ⟨rfl, QV.out⟩
    | true =>
      go_upto_region 5 with (first | (go_at_call 28; refine (H1.out _ QB.out).mono ?_; rintro e9 v0 ⟨rfl, q9⟩; have QC0 : Hid (Q w v0) := hid (QB.out.trans q9); have Z10 := hid (Z0.out.on q9); have Z20 := hid (Z2.out.on q9); clear q9; have d0_3 := Z10.out.c 3 _ rfl) | (go_at_call 28; refine (H2.out _ QC0.out).mono ?_; rintro e9 v1 ⟨rfl, q9⟩; have QC1 : Hid (Q w v1) := hid (QC0.out.trans q9); have Z11 := hid (Z10.out.on q9); have Z21 := hid (Z20.out.on q9); clear q9; have d1_4 := Z11.out.c 4 _ rfl; have d1_5 := Z11.out.c 5 _ rfl; have d1_6 := Z11.out.c 6 _ rfl; have d1_7 := Z11.out.c 7 _ rfl; have d1_8 := Z11.out.c 8 _ rfl; have d1_9 := Z11.out.c 9 _ rfl; have d1_10 := Z11.out.c 10 _ rfl; have d1_11 := Z11.out.c 11 _ rfl; have d1_12 := Z11.out.c 12 _ rfl; have d1_13 := Z11.out.c 13 _ rfl; have d1_14 := Z11.out.c 14 _ rfl; have d1_15 := Z11.out.c 15 _ rfl; have d1_16 := Z11.out.c 16 _ rfl) | (go_at_call 29; refine (H3.out _ QC1.out).mono ?_; rintro e9 v2 ⟨rfl, q9⟩; have QC2 : Hid (Q w v2) := hid (QC1.out.trans q9); have Z12 := hid (Z11.out.on q9); have Z22 := hid (Z21.out.on q9); clear q9))
      clear d1_4 d1_5 d1_6 d1_7 d1_8 d1_9 d1_10 d1_11 d1_12 d1_13 d1_14 d1_15 d1_16
      have HT : Hid (((v2.setCell ⟨b1x, 2, none⟩ (.int .i64 0)).setCell ⟨b1x, 3, none⟩ (.int .i64 0)).there b1x 4 13) := hid (there_cq ((Z22.out.put 2 _).put 3 _) 4 13 (by simp))
      have QV : Hid (Q w (((v2.setCell ⟨b1x, 2, none⟩ (.int .i64 0)).setCell ⟨b1x, 3, none⟩ (.int .i64 0)).setCells b1x 4 [.bool false, .int .i64 0, .int .i64 0, .string ⟨#[]⟩, .bool false, .int .i64 0, .int .i64 0, .int .i64 0, .string ⟨#[]⟩, .bool false, .int .i64 0, .slice none 0 0, .slice none 0 0])) := hid (Q.cells hb1 _ _ (Q.setCell (Q.setCell QC2.out hb1 _) hb1 _))
      have Z1V : Hid (Cq (((v2.setCell ⟨b1x, 2, none⟩ (.int .i64 0)).setCell ⟨b1x, 3, none⟩ (.int .i64 0)).setCells b1x 4 [.bool false, .int .i64 0, .int .i64 0, .string ⟨#[]⟩, .bool false, .int .i64 0, .int .i64 0, .int .i64 0, .string ⟨#[]⟩, .bool false, .int .i64 0, .slice none 0 0, .slice none 0 0]) b0 [.int .i64 k, .string sh, x2, x3, x4, x5, x6, x7, x8, x9, x10, x11, x12, x13, x14, x15, x16, x17, x18, x19, x20, x21, x22]) := hid (Cq.othcells hne _ _ ((Z12.out.oth hne _ _).oth hne _ _))
      have Z2V : Hid (Cq (((v2.setCell ⟨b1x, 2, none⟩ (.int .i64 0)).setCell ⟨b1x, 3, none⟩ (.int .i64 0)).setCells b1x 4 [.bool false, .int .i64 0, .int .i64 0, .string ⟨#[]⟩, .bool false, .int .i64 0, .int .i64 0, .int .i64 0, .string ⟨#[]⟩, .bool false, .int .i64 0, .slice none 0 0, .slice none 0 0]) b1x [.int .i64 k, .string sh, .int .i64 0, .int .i64 0, .bool false, .int .i64 0, .int .i64 0, .string ⟨#[]⟩, .bool false, .int .i64 0, .int .i64 0, .int .i64 0, .string ⟨#[]⟩, .bool false, .int .i64 0, .slice none 0 0, .slice none 0 0, x17, x18, x19, x20, x21, x22]) := hid (Cq.cells [.bool false, .int .i64 0, .int .i64 0, .string ⟨#[]⟩, .bool false, .int .i64 0, .int .i64 0, .int .i64 0, .string ⟨#[]⟩, .bool false, .int .i64 0, .slice none 0 0, .slice none 0 0] 4 ((Z22.out.put 2 (.int .i64 0)).put 3 (.int .i64 0)))
      have u2 := Z22.out.c 2 _ rfl; have uf2 := Z22.out.f 2; have u3 := Z22.out.c 3 _ rfl; have uf3 := Z22.out.f 3
      go_upto_region 17 with (first | (refine wpl_buildt 37 _ (by rfl) (by rfl) #[.bool false, .int .i64 0, .int .i64 0, .string ⟨#[]⟩, .bool false, .int .i64 0, .int .i64 0, .int .i64 0, .string ⟨#[]⟩, .bool false, .int .i64 0, .slice none 0 0, .slice none 0 0] (by kernel_rfl) ?_) | (refine wpList_store_mid (by rfl) 37 _ _ (by rfl) b1x 4 #[.bool false, .int .i64 0, .int .i64 0, .string ⟨#[]⟩, .bool false, .int .i64 0, .int .i64 0, .int .i64 0, .string ⟨#[]⟩, .bool false, .int .i64 0, .slice none 0 0, .slice none 0 0] (by rfl) (by rfl) HT.out info30 (by kernel_rfl) ?_))
      generalize ((v2.setCell ⟨b1x, 2, none⟩ (.int .i64 0)).setCell ⟨b1x, 3, none⟩ (.int .i64 0)).setCells b1x 4 [.bool false, .int .i64 0, .int .i64 0, .string ⟨#[]⟩, .bool false, .int .i64 0, .int .i64 0, .int .i64 0, .string ⟨#[]⟩, .bool false, .int .i64 0, .slice none 0 0, .slice none 0 0] = V at QV Z1V Z2V ⊢
      clear HT u2 uf2 u3 uf3
      cases p3 with
      | false =>
        go_wp2_with fail
        go_ret
        exact ⟨rfl, QV.out⟩
      | true =>
        have g0 := Z1V.out.c 0 _ rfl
        have g1 := Z1V.out.c 1 _ rfl
        cases ib with
        | false =>
          go_wp2_with (go_at_call 34; refine (HI.out _ QV.out).mono ?_; rintro e9 y1 ⟨rfl, q9⟩; have QY : Hid (Q w y1) := hid (QV.out.trans q9); clear q9)
          go_ret
          exact ⟨rfl, QY.out⟩
        | true =>
          go_wp2_with (first | (go_at_call 34; refine (HI.out _ QV.out).mono ?_; rintro e9 y1 ⟨rfl, q9⟩; have QY : Hid (Q w y1) := hid (QV.out.trans q9); have Z1Y := hid (Z1V.out.on q9); have Z2Y := hid (Z2V.out.on q9); clear q9; have g0' := Z1Y.out.c 0 _ rfl; have g1' := Z1Y.out.c 1 _ rfl) | (refine wpl_loadg _ (by rfl) (by rfl) b1x (by rfl) [.int .i64 k, .string sh, .int .i64 0, .int .i64 0, .bool false, .int .i64 0, .int .i64 0, .string ⟨#[]⟩, .bool false, .int .i64 0, .int .i64 0, .int .i64 0, .string ⟨#[]⟩, .bool false, .int .i64 0, .slice none 0 0, .slice none 0 0, x17, x18, x19, x20, x21, x22] Z2Y.out (by rfl) ?_) | (refine wpl_buildg _ (by rfl) (by rfl) #[.int .i64 k, .string sh, .int .i64 0, .int .i64 0, .bool false, .int .i64 0, .int .i64 0, .string ⟨#[]⟩, .bool false, .int .i64 0, .int .i64 0, .int .i64 0, .string ⟨#[]⟩, .bool false, .int .i64 0, .slice none 0 0, .slice none 0 0, .int .i64 0, .int .i64 0, .int .i64 0, .slice none 0 0, .int .i64 0, .string ⟨#[]⟩] (by kernel_rfl) ?_) | (go_at_call 35; refine (HE.out _ QY.out).mono ?_; rintro e9 y2 ⟨rfl, q9⟩; have QY2 : Hid (Q w y2) := hid (QY.out.trans q9); clear q9))
          go_ret
          exact ⟨rfl, QY2.out⟩
end Go.Proofs.YthebfhdpofhmpaaGreatDoor
