/- The reader of package opcode: cells; counterpaneref5.MayCell. -/
import Derived.Test.YtcgddnliiondoaaGreatDoorKq25
import Derived.Test.YtcgddnliiondoaaGreatDoorKq19
import Derived.Test.YtcgddnliiondoaaGreatDoorKq16
import Derived.Test.YtcgddnliiondoaaGreatDoorKq20
import Derived.Test.YtcgddnliiondoaaGreatDoorKq18
set_option linter.unusedVariables false
set_option linter.unusedSimpArgs false
set_option maxRecDepth 100000
set_option maxHeartbeats 8000000
namespace Go.Proofs.YtcgddnliiondoaaGreatDoor
open Go.RowKit
def okCD (f : Bool) (vk n : Int) (t : List UInt8) (b : Bool) (e : Int) (X : Ex) : Prop :=
  (f = true ∧ vk = 0 ∧ n = 0 ∧ t = [] ∧ b = false ∧ e = 0 ∧ okD X ∧ nodes X ≤ 200) ∨
  (f = false ∧ X = zeroE ∧ (
    (vk = 0 ∧ n = 0 ∧ t = [] ∧ b = false ∧ e = 0) ∨ (vk = 1 ∧ (-9223372036854775808 ≤ n ∧ n < 9223372036854775808) ∧ t = [] ∧ b = false ∧ e = 0) ∨
    (vk = 2 ∧ n = 0 ∧ t.length ≤ 200 ∧ b = false ∧ e = 0) ∨ (vk = 3 ∧ n = 0 ∧ t = [] ∧ e = 0) ∨ (vk = 4 ∧ n = 0 ∧ t = [] ∧ b = false ∧ (0 ≤ e ∧ e ≤ 7))))
def RdC (w0 : World) (r : Nat) (W : World) (f : Bool) (vk n : Int) (t : List UInt8) (b : Bool) (e : Int) (X : Ex) (D : List UInt8) (en : Ending) (W' : World) : Prop :=
  ∃ k8 m8 t8 bb8 er8 a18 l18 c18 a28 l28 c28 nd, en = .returned (.agg #[.bool f, .int .i64 vk, .int .i64 n, .string ⟨t.toArray⟩, .bool b, .int .i64 e, .int .i64 k8, .int .i64 m8, .string t8, .bool bb8, .int .i64 er8, .slice a18 l18 c18, .slice a28 l28 c28]) ∧
    Rdg (fun b => W.heap.size ≤ b) W' X (.agg #[.int .i64 k8, .int .i64 m8, .string t8, .bool bb8, .int .i64 er8, .slice a18 l18 c18, .slice a28 l28 c28]) ∧ Rq w0 r D nd W' ∧ Qx r W W'
theorem rcell_end {w w0 : World} {r q q2 : Nat} {D : List UInt8} {nd : Int} {C : Array Value} {C2 : Array Value} {W : World} {p : Prop}
    (h : Hid (Sr w w0 r q q2 36 z13 42 D nd C W)) (hw2 : w.heap.size ≤ q2) (hq2 : q2 ≠ r) (hsz : C.size = 5) (hsz2 : C2.size = 13) (h1 : C2.all (·.oneCell') = true) (hbt : Tryz.prog.built 42 [(1, .agg C)] = some C2)
    (k : ∀ C' C2' : Array Value, Hid (Bq W q C' 36 ∧ Bq W q2 z13 42 ∧ (Tryz.prog.info? 36).map (·.size) = some C'.size ∧ (Tryz.prog.info? 42).map (·.size) = some C2'.size ∧ z13.size = C2'.size ∧ C2'.all (·.oneCell') = true ∧ Tryz.prog.built 42 [(1, .agg C')] = some C2' ∧ C2' = C2) → Hid (Bq (W.setRow q2 C2') q2 C2' 42 ∧ Rq w0 r D nd (W.setRow q2 C2') ∧ Qx r w (W.setRow q2 C2')) → p) : p :=
  k C C2 (hid ⟨h.out.c, h.out.z, by rw [hsz]; exact info36, by rw [hsz2]; exact info42, by rw [hsz2]; rfl, h1, hbt, rfl⟩) (hid ⟨h.out.z.row C2, h.out.R.orow (Ne.symm hq2) C2, h.out.x.newrow hw2 h.out.z C2⟩)
theorem all13 (f : Bool) (vk n : Int) (vt : ByteArray) (vb : Bool) (ve : Int) (k m : Int) (t : ByteArray) (b : Bool) (e : Int) (a1 : Option Addr) (l1 c1 : Nat) (a2 : Option Addr) (l2 c2 : Nat) : (#[.bool f, .int .i64 vk, .int .i64 n, .string vt, .bool vb, .int .i64 ve, .int .i64 k, .int .i64 m, .string t, .bool b, .int .i64 e, .slice a1 l1 c1, .slice a2 l2 c2] : Array Value).all (·.oneCell') = true := by kernel_rfl
set_option maxHeartbeats 16000000 in
theorem rcellq (w0 : World) (r : Nat) (hr0 : w0.heap.size ≤ r) (f : Bool) (vk n : Int) (t : List UInt8) (b : Bool) (e : Int) (X : Ex) (D : List UInt8) (nd : Int) (w : World) (hX : okCD f vk n t b e X) (hq : Q w0 w) (h : Rq w0 r (encC f vk n t b e X ++ D) nd w) :
    Calls Tryz.prog 34 #[.pointer (some ⟨r, 0, none⟩)] w fun en W' => RdC w0 r w f vk n t b e X D en W' := by
  have HQ := hid hq
  have hlt : r < w.heap.size := h.lt
  have HR := hid h
  clear h hq
  rcases hX with ⟨rfl, rfl, rfl, rfl, rfl, rfl, hX, hN⟩ | ⟨rfl, rfl, hX⟩
  · simp only [encC, if_true, List.append_assoc] at HR
    go_enter Tryz.func34, Tryz.ntmps34
    go_upto_region 1 with fail
    obtain ⟨q2, e2⟩ : ∃ q2, q2 = w.heap.size := ⟨_, rfl⟩
    have Z1 : Hid (Bq (w.alloc (.cells z13 42)) q2 z13 42) := hid (e2 ▸ bq_new w z13 42)
    have Q1 : Hid (Q w (w.alloc (.cells z13 42))) := hid ((Q.refl w).alloc _)
    unfold z13 at Z1 Q1
    rw [← e2]
    have hq2 : q2 ≠ r := by omega
    have hw2 : w.heap.size ≤ q2 := by omega
    clear e2
    generalize w.alloc (.cells _ 42) = w1 at Z1 Q1 ⊢
    have R1 := hid (HR.out.on Q1.out)
    have HC : Hid (Calls Tryz.prog 46 #[.pointer (some ⟨r, 0, none⟩), .int .i64 5] w1 fun e W' => e = .returned (.int .i64 5) ∧ Rq w0 r (encT X ++ D) nd W' ∧ Qx r w1 W') := hid (rcountq w0 r 5 5 (encT X ++ D) nd w1 (HQ.out.trans Q1.out) (by decide) (by decide) R1.out)
    go_upto_region 3 with (go_at_call 46; refine HC.out.mono ?_; rintro e9 w2 ⟨rfl, hw9, hq9⟩; have R2 := hid hw9; have X2 : Hid (Qx r w w2) := hid ((Qx.of Q1.out).trans hq9); have Z2 := hid (Z1.out.qx hq9 hq2); clear hw9 hq9; obtain ⟨c1, f1⟩ := R2.out.node)
    have HN2 := hid (R2.out.nod 0)
    have Z3 := hid (Z2.out.qx HN2.out.2 hq2)
    have X3 := hid (X2.out.trans HN2.out.2)
    have R3 := hid HN2.out.1
    clear HN2 Z1 Q1 R1 R2 X2 Z2 HR HC
    go_upto_region 4 with fail
    clear c1 f1
    generalize w2.setCell ⟨r, 1, none⟩ _ = w3 at Z3 X3 R3 ⊢
    have HT := hid (rtree_all w0 r hr0 (SizeOf.sizeOf X) X D 0 w3 (Nat.le_refl _) hX (X3.out.qq HQ.out hr0) (Int.le_refl _) (by omega) R3.out)
    unfold RdT at HT
    have hB3 : w.heap.size ≤ w3.heap.size ∧ q2 < w3.heap.size := ⟨X3.out.size, Z3.out.l⟩
    go_wp2_with (first
      | (go_at_call 60; refine HT.out.mono ?_; rintro e9 V ⟨v8, rfl, hd9, hw9, hq9⟩; have RV := hid hw9; have XV := hid (X3.out.trans hq9); have ZV : Hid (Bq V q2 z13 42) := hid (Z3.out.qx hq9 hq2); have DV := hid hd9; obtain ⟨k8, m8, t8, bb8, er8, a18, l18, c18, a28, l28, c28, hsh⟩ := (Rdg.rd _ _ hd9).shape; subst hsh; clear hw9 hq9 hd9)
      | (with_reducible refine wpl_buildt 42 _ (by with_unfolding_all rfl) (by with_unfolding_all rfl) #[.bool true, .int .i64 0, .int .i64 0, .string ⟨#[]⟩, .bool false, .int .i64 0, .int .i64 k8, .int .i64 m8, .string t8, .bool bb8, .int .i64 er8, .slice a18 l18 c18, .slice a28 l28 c28] (by kernel_rfl) ?_)
      | (with_reducible refine wpList_store_row (by with_unfolding_all rfl) 42 _ _ (by with_unfolding_all rfl) q2 #[.bool true, .int .i64 0, .int .i64 0, .string ⟨#[]⟩, .bool false, .int .i64 0, .int .i64 k8, .int .i64 m8, .string t8, .bool bb8, .int .i64 er8, .slice a18 l18 c18, .slice a28 l28 c28] (by with_unfolding_all rfl) (by with_unfolding_all rfl) 42 z13 ZV.out.h (by with_unfolding_all exact info42) (by with_unfolding_all rfl) (by with_unfolding_all exact all13 _ _ _ _ _ _ _ _ _ _ _ _ _ _ _ _ _) ?_))
    obtain ⟨C, hC⟩ : ∃ C : Array Value, C = #[.bool true, .int .i64 0, .int .i64 0, .string ⟨#[]⟩, .bool false, .int .i64 0, .int .i64 k8, .int .i64 m8, .string t8, .bool bb8, .int .i64 er8, .slice a18 l18 c18, .slice a28 l28 c28] := ⟨_, rfl⟩
    rw [← hC]
    refine bodyPost_ret (v := .agg C) (results_cell_row Tryz.results34 _ _ q2 42 C (0, 0) _ (by rfl) (ZV.out.row C).h Tryz.underlying42 rfl (by rw [hC]; exact info42)) rfl ?_
    refine ⟨k8, m8, t8, bb8, er8, a18, l18, c18, a28, l28, c28, 0 + (nodes X : Int), by rw [hC], ?_, RV.out.orow (Ne.symm hq2) C, XV.out.newrow hw2 ZV.out C⟩
    exact Rdg.mono (fun b hb => by omega) _ _ (Rdg.on (qx_setRow V q2 C) (fun b hb => by omega) _ _ DV.out)
  · have HK : Hid ((vk.toNat : Int) = vk ∧ vk.toNat ≤ 5 ∧ ¬ vk = 5) := hid (by rcases hX with h | h | h | h | h <;> (have := h.1; omega))
    simp only [encC, Bool.false_eq_true, if_false, List.append_assoc] at HR
    generalize hE : (if vk = 1 then vn (sgN n) else if vk = 2 then vn t.length ++ t else if vk = 3 then vn (if b = true then 1 else 0) else if vk = 4 then vn e.toNat else []) = E at HR
    have hk5 := HK.out.2.2
    go_enter Tryz.func34, Tryz.ntmps34
    go_upto_region 1 with fail
    obtain ⟨q2, e2⟩ : ∃ q2, q2 = w.heap.size := ⟨_, rfl⟩
    have Z1 : Hid (Bq (w.alloc (.cells z13 42)) q2 z13 42) := hid (e2 ▸ bq_new w z13 42)
    have Q1 : Hid (Q w (w.alloc (.cells z13 42))) := hid ((Q.refl w).alloc _)
    unfold z13 at Z1 Q1
    rw [← e2]
    have hq2 : q2 ≠ r := by omega
    have hw2 : w.heap.size ≤ q2 := by omega
    clear e2
    generalize w.alloc (.cells _ 42) = w1 at Z1 Q1 ⊢
    have R1 := hid (HR.out.on Q1.out)
    have HC : Hid (Calls Tryz.prog 46 #[.pointer (some ⟨r, 0, none⟩), .int .i64 5] w1 fun e W' => e = .returned (.int .i64 (vk.toNat : Int)) ∧ Rq w0 r (E ++ D) nd W' ∧ Qx r w1 W') := hid (rcountq w0 r 5 vk.toNat (E ++ D) nd w1 (HQ.out.trans Q1.out) HK.out.2.1 (by decide) R1.out)
    rw [HK.out.1] at HC
    go_upto_region 6 with (first
      | (go_at_call 46; refine HC.out.mono ?_; rintro e9 w3 ⟨rfl, hw9, hq9⟩; have R3 := hid hw9; have X3 : Hid (Qx r w w3) := hid ((Qx.of Q1.out).trans hq9); have Z3 := hid (Z1.out.qx hq9 hq2); clear hw9 hq9)
      | (with_reducible refine wpl_buildt 36 _ (by with_unfolding_all rfl) (by with_unfolding_all rfl) #[.int .i64 vk, .int .i64 0, .string ⟨#[]⟩, .bool false, .int .i64 0] (by kernel_rfl) ?_)
      | (with_reducible refine wpl_layt w3 36 _ _ (by with_unfolding_all rfl) (by with_unfolding_all rfl) #[.int .i64 vk, .int .i64 0, .string ⟨#[]⟩, .bool false, .int .i64 0] z5 (by with_unfolding_all rfl) (by with_unfolding_all rfl) (by with_unfolding_all exact info36) (by with_unfolding_all rfl) (by kernel_rfl) (by with_unfolding_all rfl) ?_))
    obtain ⟨q, e1⟩ : ∃ q, q = w3.heap.size := ⟨_, rfl⟩
    have HB := hid (bq_new w3 #[.int .i64 vk, .int .i64 0, .string ⟨#[]⟩, .bool false, .int .i64 0] 36)
    rw [← e1] at HB ⊢
    have hq1 : q ≠ r := by have := R3.out.lt; omega
    have hqq : q2 ≠ q := by have := Z3.out.l; omega
    have hw1 : w.heap.size ≤ q := by have := X3.out.size; omega
    have S0 : Hid (Sr w w0 r q q2 36 z13 42 (E ++ D) nd #[.int .i64 vk, .int .i64 0, .string ⟨#[]⟩, .bool false, .int .i64 0] (w3.alloc (.cells #[.int .i64 vk, .int .i64 0, .string ⟨#[]⟩, .bool false, .int .i64 0] 36))) := hid ⟨X3.out.alloc _, R3.out.on ((Q.refl _).alloc _), HB.out, Z3.out.on ((Q.refl _).alloc _)⟩
    clear HB HC Z1 Q1 R1 R3 X3 Z3 e1 HR
    generalize w3.alloc (.cells _ 36) = w4 at S0 ⊢
    have HQ4 : Hid (Q w0 w4) := hid (S0.out.x.qq HQ.out hr0)
    clear HK
    rcases hX with h | h | h | h | h
    · obtain ⟨rfl, rfl, rfl, rfl, rfl⟩ := h
      simp only [Int.reduceEq, if_true, if_false] at hE
      subst hE
      · skip
        go_upto_region 15 with fail
        refine rcell_end (C := #[.int .i64 0, .int .i64 0, .string ⟨#[]⟩, .bool false, .int .i64 0]) (C2 := #[.bool false, .int .i64 0, .int .i64 0, .string ⟨#[]⟩, .bool false, .int .i64 0, .int .i64 0, .int .i64 0, .string ⟨#[]⟩, .bool false, .int .i64 0, .slice none 0 0, .slice none 0 0]) S0 hw2 hq2 rfl rfl (all13 _ _ _ _ _ _ _ _ _ _ _ _ _ _ _ _ _) (by kernel_rfl) ?_
        intro C C2 hC F
        go_wp2_with (first
          | (with_reducible refine wpList_load_row (by with_unfolding_all rfl) 36 _ (by with_unfolding_all rfl) q (by with_unfolding_all rfl) 36 C (0, 0) _ hC.out.1.h Tryz.underlying36 (by with_unfolding_all rfl) (by with_unfolding_all exact hC.out.2.2.1) ?_)
          | (with_reducible refine wpl_buildt 42 _ (by with_unfolding_all rfl) (by with_unfolding_all rfl) C2 (by with_unfolding_all exact hC.out.2.2.2.2.2.2.1) ?_)
          | (with_reducible refine wpList_store_row (by with_unfolding_all rfl) 42 _ _ (by with_unfolding_all rfl) q2 C2 (by with_unfolding_all rfl) (by with_unfolding_all rfl) 42 z13 hC.out.2.1.h (by with_unfolding_all exact hC.out.2.2.2.1) (by with_unfolding_all exact hC.out.2.2.2.2.1) hC.out.2.2.2.2.2.1 ?_))
        refine bodyPost_ret (v := .agg C2) (results_cell_row Tryz.results34 _ _ q2 42 C2 (0, 0) _ (by rfl) F.out.1.h Tryz.underlying42 rfl hC.out.2.2.2.1) rfl ?_
        exact ⟨0, 0, ⟨#[]⟩, false, 0, none, 0, 0, none, 0, 0, _, by rw [hC.out.2.2.2.2.2.2.2], rdg_zero _ _, F.out.2⟩
    · obtain ⟨rfl, hn, rfl, rfl, rfl⟩ := h
      simp only [Int.reduceEq, if_true, if_false] at hE
      subst hE
      · skip
        have HT : Hid (Calls Tryz.prog 61 #[.pointer (some ⟨r, 0, none⟩)] w4 fun e W' => e = .returned (.int .i64 n) ∧ Rq w0 r D nd W' ∧ Qx r w4 W') := hid (rsignedq w0 r n D nd w4 HQ4.out hn.1 hn.2 S0.out.R)
        go_upto_region 15 with (go_at_call 61; refine HT.out.mono ?_; rintro e9 w5 ⟨rfl, hw9, hq9⟩; have S9 := hid (S0.out.call hq1 hq2 hw9 hq9); clear hw9 hq9; have f0 := S9.out.c.f 1; have c0 := S9.out.c.c 1 _ rfl)
        have S1 := hid (S9.out.put hw1 hq1 hqq 1 (.int .i64 n))
        clear HT S9 f0 c0
        generalize w5.setCell ⟨q, 1, none⟩ _ = w6 at S1 ⊢
        refine rcell_end (C := #[.int .i64 1, .int .i64 n, .string ⟨#[]⟩, .bool false, .int .i64 0]) (C2 := #[.bool false, .int .i64 1, .int .i64 n, .string ⟨#[]⟩, .bool false, .int .i64 0, .int .i64 0, .int .i64 0, .string ⟨#[]⟩, .bool false, .int .i64 0, .slice none 0 0, .slice none 0 0]) S1 hw2 hq2 rfl rfl (all13 _ _ _ _ _ _ _ _ _ _ _ _ _ _ _ _ _) (by kernel_rfl) ?_
        intro C C2 hC F
        go_wp2_with (first
          | (with_reducible refine wpList_load_row (by with_unfolding_all rfl) 36 _ (by with_unfolding_all rfl) q (by with_unfolding_all rfl) 36 C (0, 0) _ hC.out.1.h Tryz.underlying36 (by with_unfolding_all rfl) (by with_unfolding_all exact hC.out.2.2.1) ?_)
          | (with_reducible refine wpl_buildt 42 _ (by with_unfolding_all rfl) (by with_unfolding_all rfl) C2 (by with_unfolding_all exact hC.out.2.2.2.2.2.2.1) ?_)
          | (with_reducible refine wpList_store_row (by with_unfolding_all rfl) 42 _ _ (by with_unfolding_all rfl) q2 C2 (by with_unfolding_all rfl) (by with_unfolding_all rfl) 42 z13 hC.out.2.1.h (by with_unfolding_all exact hC.out.2.2.2.1) (by with_unfolding_all exact hC.out.2.2.2.2.1) hC.out.2.2.2.2.2.1 ?_))
        refine bodyPost_ret (v := .agg C2) (results_cell_row Tryz.results34 _ _ q2 42 C2 (0, 0) _ (by rfl) F.out.1.h Tryz.underlying42 rfl hC.out.2.2.2.1) rfl ?_
        exact ⟨0, 0, ⟨#[]⟩, false, 0, none, 0, 0, none, 0, 0, _, by rw [hC.out.2.2.2.2.2.2.2], rdg_zero _ _, F.out.2⟩
    · obtain ⟨rfl, rfl, ht, rfl, rfl⟩ := h
      simp only [Int.reduceEq, if_true, if_false] at hE
      subst hE
      · skip
        have HT : Hid (Calls Tryz.prog 62 #[.pointer (some ⟨r, 0, none⟩)] w4 fun e W' => e = .returned (.string ⟨t.toArray⟩) ∧ Rq w0 r D nd W' ∧ Qx r w4 W') := hid (rtextq w0 r t D nd w4 HQ4.out hr0 ht (by have := S0.out.R; simpa only [List.append_assoc] using this))
        go_upto_region 15 with (go_at_call 62; refine HT.out.mono ?_; rintro e9 w5 ⟨rfl, hw9, hq9⟩; have S9 := hid (S0.out.call hq1 hq2 hw9 hq9); clear hw9 hq9; have f0 := S9.out.c.f 2; have c0 := S9.out.c.c 2 _ rfl)
        have S1 := hid (S9.out.put hw1 hq1 hqq 2 (.string ⟨t.toArray⟩))
        clear HT S9 f0 c0
        generalize w5.setCell ⟨q, 2, none⟩ _ = w6 at S1 ⊢
        refine rcell_end (C := #[.int .i64 2, .int .i64 0, .string ⟨t.toArray⟩, .bool false, .int .i64 0]) (C2 := #[.bool false, .int .i64 2, .int .i64 0, .string ⟨t.toArray⟩, .bool false, .int .i64 0, .int .i64 0, .int .i64 0, .string ⟨#[]⟩, .bool false, .int .i64 0, .slice none 0 0, .slice none 0 0]) S1 hw2 hq2 rfl rfl (all13 _ _ _ _ _ _ _ _ _ _ _ _ _ _ _ _ _) (by kernel_rfl) ?_
        intro C C2 hC F
        go_wp2_with (first
          | (with_reducible refine wpList_load_row (by with_unfolding_all rfl) 36 _ (by with_unfolding_all rfl) q (by with_unfolding_all rfl) 36 C (0, 0) _ hC.out.1.h Tryz.underlying36 (by with_unfolding_all rfl) (by with_unfolding_all exact hC.out.2.2.1) ?_)
          | (with_reducible refine wpl_buildt 42 _ (by with_unfolding_all rfl) (by with_unfolding_all rfl) C2 (by with_unfolding_all exact hC.out.2.2.2.2.2.2.1) ?_)
          | (with_reducible refine wpList_store_row (by with_unfolding_all rfl) 42 _ _ (by with_unfolding_all rfl) q2 C2 (by with_unfolding_all rfl) (by with_unfolding_all rfl) 42 z13 hC.out.2.1.h (by with_unfolding_all exact hC.out.2.2.2.1) (by with_unfolding_all exact hC.out.2.2.2.2.1) hC.out.2.2.2.2.2.1 ?_))
        refine bodyPost_ret (v := .agg C2) (results_cell_row Tryz.results34 _ _ q2 42 C2 (0, 0) _ (by rfl) F.out.1.h Tryz.underlying42 rfl hC.out.2.2.2.1) rfl ?_
        exact ⟨0, 0, ⟨#[]⟩, false, 0, none, 0, 0, none, 0, 0, _, by rw [hC.out.2.2.2.2.2.2.2], rdg_zero _ _, F.out.2⟩
    · obtain ⟨rfl, rfl, rfl, rfl⟩ := h
      simp only [Int.reduceEq, if_true, if_false] at hE
      subst hE
      · skip
        have HT : Hid (Calls Tryz.prog 63 #[.pointer (some ⟨r, 0, none⟩)] w4 fun e W' => e = .returned (.bool b) ∧ Rq w0 r D nd W' ∧ Qx r w4 W') := hid (rtruthq w0 r b D nd w4 HQ4.out S0.out.R)
        go_upto_region 15 with (go_at_call 63; refine HT.out.mono ?_; rintro e9 w5 ⟨rfl, hw9, hq9⟩; have S9 := hid (S0.out.call hq1 hq2 hw9 hq9); clear hw9 hq9; have f0 := S9.out.c.f 3; have c0 := S9.out.c.c 3 _ rfl)
        have S1 := hid (S9.out.put hw1 hq1 hqq 3 (.bool b))
        clear HT S9 f0 c0
        generalize w5.setCell ⟨q, 3, none⟩ _ = w6 at S1 ⊢
        refine rcell_end (C := #[.int .i64 3, .int .i64 0, .string ⟨#[]⟩, .bool b, .int .i64 0]) (C2 := #[.bool false, .int .i64 3, .int .i64 0, .string ⟨#[]⟩, .bool b, .int .i64 0, .int .i64 0, .int .i64 0, .string ⟨#[]⟩, .bool false, .int .i64 0, .slice none 0 0, .slice none 0 0]) S1 hw2 hq2 rfl rfl (all13 _ _ _ _ _ _ _ _ _ _ _ _ _ _ _ _ _) (by kernel_rfl) ?_
        intro C C2 hC F
        go_wp2_with (first
          | (with_reducible refine wpList_load_row (by with_unfolding_all rfl) 36 _ (by with_unfolding_all rfl) q (by with_unfolding_all rfl) 36 C (0, 0) _ hC.out.1.h Tryz.underlying36 (by with_unfolding_all rfl) (by with_unfolding_all exact hC.out.2.2.1) ?_)
          | (with_reducible refine wpl_buildt 42 _ (by with_unfolding_all rfl) (by with_unfolding_all rfl) C2 (by with_unfolding_all exact hC.out.2.2.2.2.2.2.1) ?_)
          | (with_reducible refine wpList_store_row (by with_unfolding_all rfl) 42 _ _ (by with_unfolding_all rfl) q2 C2 (by with_unfolding_all rfl) (by with_unfolding_all rfl) 42 z13 hC.out.2.1.h (by with_unfolding_all exact hC.out.2.2.2.1) (by with_unfolding_all exact hC.out.2.2.2.2.1) hC.out.2.2.2.2.2.1 ?_))
        refine bodyPost_ret (v := .agg C2) (results_cell_row Tryz.results34 _ _ q2 42 C2 (0, 0) _ (by rfl) F.out.1.h Tryz.underlying42 rfl hC.out.2.2.2.1) rfl ?_
        exact ⟨0, 0, ⟨#[]⟩, false, 0, none, 0, 0, none, 0, 0, _, by rw [hC.out.2.2.2.2.2.2.2], rdg_zero _ _, F.out.2⟩
    · obtain ⟨rfl, rfl, rfl, rfl, e0, e7⟩ := h
      obtain ⟨m, rfl⟩ := Int.eq_ofNat_of_zero_le e0
      simp only [Int.reduceEq, if_true, if_false, Int.toNat_natCast] at hE
      subst hE
      · skip
        have HT : Hid (Calls Tryz.prog 46 #[.pointer (some ⟨r, 0, none⟩), .int .i64 7] w4 fun e W' => e = .returned (.int .i64 m) ∧ Rq w0 r D nd W' ∧ Qx r w4 W') := hid (rcountq w0 r 7 m D nd w4 HQ4.out (by omega) (by decide) S0.out.R)
        go_upto_region 15 with (go_at_call 46; refine HT.out.mono ?_; rintro e9 w5 ⟨rfl, hw9, hq9⟩; have S9 := hid (S0.out.call hq1 hq2 hw9 hq9); clear hw9 hq9; have f0 := S9.out.c.f 4; have c0 := S9.out.c.c 4 _ rfl)
        have S1 := hid (S9.out.put hw1 hq1 hqq 4 (.int .i64 m))
        clear HT S9 f0 c0
        generalize w5.setCell ⟨q, 4, none⟩ _ = w6 at S1 ⊢
        refine rcell_end (C := #[.int .i64 4, .int .i64 0, .string ⟨#[]⟩, .bool false, .int .i64 m]) (C2 := #[.bool false, .int .i64 4, .int .i64 0, .string ⟨#[]⟩, .bool false, .int .i64 m, .int .i64 0, .int .i64 0, .string ⟨#[]⟩, .bool false, .int .i64 0, .slice none 0 0, .slice none 0 0]) S1 hw2 hq2 rfl rfl (all13 _ _ _ _ _ _ _ _ _ _ _ _ _ _ _ _ _) (by kernel_rfl) ?_
        intro C C2 hC F
        go_wp2_with (first
          | (with_reducible refine wpList_load_row (by with_unfolding_all rfl) 36 _ (by with_unfolding_all rfl) q (by with_unfolding_all rfl) 36 C (0, 0) _ hC.out.1.h Tryz.underlying36 (by with_unfolding_all rfl) (by with_unfolding_all exact hC.out.2.2.1) ?_)
          | (with_reducible refine wpl_buildt 42 _ (by with_unfolding_all rfl) (by with_unfolding_all rfl) C2 (by with_unfolding_all exact hC.out.2.2.2.2.2.2.1) ?_)
          | (with_reducible refine wpList_store_row (by with_unfolding_all rfl) 42 _ _ (by with_unfolding_all rfl) q2 C2 (by with_unfolding_all rfl) (by with_unfolding_all rfl) 42 z13 hC.out.2.1.h (by with_unfolding_all exact hC.out.2.2.2.1) (by with_unfolding_all exact hC.out.2.2.2.2.1) hC.out.2.2.2.2.2.1 ?_))
        refine bodyPost_ret (v := .agg C2) (results_cell_row Tryz.results34 _ _ q2 42 C2 (0, 0) _ (by rfl) F.out.1.h Tryz.underlying42 rfl hC.out.2.2.2.1) rfl ?_
        exact ⟨0, 0, ⟨#[]⟩, false, 0, none, 0, 0, none, 0, 0, _, by rw [hC.out.2.2.2.2.2.2.2], rdg_zero _ _, F.out.2⟩
structure Cv where
  (f : Bool)
  (vk : Int)
  (vn : Int)
  (vt : ByteArray)
  (vb : Bool)
  (ve : Int)
  (k : Int)
  (m : Int)
  (t : ByteArray)
  (bb : Bool)
  (er : Int)
  (a1 : Option Addr)
  (l1 : Nat)
  (c1 : Nat)
  (a2 : Option Addr)
  (l2 : Nat)
  (c2 : Nat)
def Cv.a (x : Cv) : Array Value := #[.bool x.f, .int .i64 x.vk, .int .i64 x.vn, .string x.vt, .bool x.vb, .int .i64 x.ve, .int .i64 x.k, .int .i64 x.m, .string x.t, .bool x.bb, .int .i64 x.er, .slice x.a1 x.l1 x.c1, .slice x.a2 x.l2 x.c2]
def Cv.tr (x : Cv) : Value := .agg #[.int .i64 x.k, .int .i64 x.m, .string x.t, .bool x.bb, .int .i64 x.er, .slice x.a1 x.l1 x.c1, .slice x.a2 x.l2 x.c2]
def Cv.may (x : Cv) (X : Ex) : Bool := mcB x.f x.vk x.vn x.vt.data.toList x.vb x.ve X
def Cv.enc (x : Cv) (X : Ex) : List UInt8 := encC x.f x.vk x.vn x.vt.data.toList x.vb x.ve X
def Cv.same (x y : Cv) (X Y : Ex) : Prop := x.f = y.f ∧ (x.vk = y.vk ∧ x.vn = y.vn ∧ x.vt.data.toList = y.vt.data.toList ∧ x.vb = y.vb ∧ x.ve = y.ve) ∧ X = Y
theorem Cv.size (x : Cv) : x.a.size = 13 := rfl
theorem Cv.one (x : Cv) : x.a.all (·.oneCell') = true := all13 _ _ _ _ _ _ _ _ _ _ _ _ _ _ _ _ _
structure CvR (W : World) (x : Cv) (X : Ex) : Prop where
  t : Rd W X x.tr
  vt : x.vt.size ≤ 1000000
  sm : Sm X
  nd : nodes X ≤ 1000
  rn : Rn X
  vr : V.fitB x.vn = true
theorem CvR.on {W V : World} {x : Cv} {X : Ex} (h : CvR W x X) (q : Q W V) : CvR V x X := ⟨Rd.on q _ _ h.t, h.vt, h.sm, h.nd, h.rn, h.vr⟩
theorem rmayc_any (f : Bool) (vk vn : Int) (vt : ByteArray) (vb : Bool) (ve : Int) (k m : Int) (t : ByteArray) (bb : Bool) (er : Int) (a1 : Option Addr) (l1 c1 : Nat) (a2 : Option Addr) (l2 c2 : Nat) (X : Ex) (w : World) (hv : vt.size ≤ 1000000) (hs : Sm X) (hr : Rd w X (.agg #[.int .i64 k, .int .i64 m, .string t, .bool bb, .int .i64 er, .slice a1 l1 c1, .slice a2 l2 c2])) : Calls Tryz.prog 16 #[.agg #[.bool f, .int .i64 vk, .int .i64 vn, .string vt, .bool vb, .int .i64 ve, .int .i64 k, .int .i64 m, .string t, .bool bb, .int .i64 er, .slice a1 l1 c1, .slice a2 l2 c2]] w fun e W' => e = .returned (.bool (mcB f vk vn vt.data.toList vb ve X)) ∧ Q w W' := by
  cases f with
  | true => exact rmayc_form vk vn vt vb ve k m t bb er a1 l1 c1 a2 l2 c2 X w hs hr
  | false => exact rmayc_val vk vn vt vb ve k m t bb er a1 l1 c1 a2 l2 c2 X w hv hr
theorem smay_cv {x : Cv} {X : Ex} {W : World} (hg : Gd W) (h : CvR W x X) : Calls Tryz.prog 28 #[.agg x.a] W fun e W' => e = .returned (.bool (x.may X)) ∧ Q W W' :=
  smay_any _ _ _ _ _ _ _ _ _ _ _ _ _ _ _ _ _ X W hg h.vt h.sm h.nd h.t
theorem rmay_cv {x : Cv} {X : Ex} {W : World} (h : CvR W x X) : Calls Tryz.prog 16 #[.agg x.a] W fun e W' => e = .returned (.bool (x.may X)) ∧ Q W W' :=
  rmayc_any _ _ _ _ _ _ _ _ _ _ _ _ _ _ _ _ _ X W h.vt h.sm h.t
theorem eqcell_cv {x y : Cv} {X Y : Ex} {W : World} (b : Bool) (h : Rd W X x.tr) (k : Rd W Y y.tr) (hb : b = true ↔ x.same y X Y) : Calls Tryz.prog 18 #[.agg x.a, .agg y.a] W fun e W' => e = .returned (.bool b) ∧ Q W W' :=
  eqcell_any _ _ _ _ _ _ _ _ _ _ _ _ _ _ _ _ _ _ _ _ _ _ _ _ _ _ _ _ _ _ _ _ _ _ X Y b W h k hb
theorem okc_cv {x : Cv} {X : Ex} {W : World} (h : CvR W x X) (hm : x.may X = true) : okC x.f x.vk x.vn x.vt.data.toList x.vb x.ve X :=
  okC_of hm (by rw [len_data]; exact h.vt) h.vr h.sm h.rn
theorem wcell_cv {x : Cv} {X : Ex} {W : World} (w0 : World) (p : Nat) (h : CvR W x X) (hm : x.may X = true) (q : Q W w0) (hp : w0.heap.size ≤ p) : CellC w0 p (x.enc X) (.agg x.a) := by
  have hc := okc_cv h hm
  exact wcell_any w0 p _ _ _ _ _ _ _ _ _ _ _ _ _ X hp hc (fun hf => wtree_all w0 p hp X _ (Rd.on q _ _ h.t) (wfT_of X (by
    rcases hc with h | h
    · exact h.2.2.2.2.2.2
    · rw [h.1] at hf; exact absurd hf Bool.false_ne_true)))
theorem okD_of : ∀ X : Ex, mall mayN X = true → Rn X → okD X
  | .mk k n t b e rs ks, hm, hn => by
    rw [mall] at hm
    simp only [Bool.and_eq_true] at hm
    obtain ⟨hm, hml⟩ := hm
    rw [Rn] at hn
    rw [okD]
    refine ⟨?_, go ks hml hn.2⟩
    have hn1 := hn.1
    clear hml hn
    have hR : ∀ x : Rf, mayR x.1 x.2.1 x.2.2.1 = true → okR x := fun x h => by
      unfold mayR at h
      simp only [Bool.and_eq_true, Bool.or_eq_true, decide_eq_true_eq] at h
      have h1 : x.1.length ≤ 32 := by
        rcases h.1 with h | h
        · simp [List.isEmpty_iff] at h; simp [h]
        · exact idB_short _ h
      exact ⟨by omega, ⟨by omega, by omega⟩, by omega, by omega⟩
    unfold mayN at hm
    dsimp only at hm
    by_cases h1 : k = 1
    · subst h1
      rw [if_pos rfl] at hm
      simp only [Bool.and_eq_true, decide_eq_true_eq] at hm
      obtain ⟨_, rfl, rfl, rfl, l1, l2⟩ := bare_of hm.2
      exact .inl ⟨rfl, ⟨hm.1, by omega⟩, rfl, rfl, rfl, len0 l1, len0 l2⟩
    rw [if_neg h1] at hm
    by_cases h2 : k = 2
    · subst h2
      rw [if_pos rfl] at hm
      simp only [Bool.and_eq_true] at hm
      obtain ⟨rfl, _, rfl, rfl, l1, l2⟩ := bare_of hm.2
      have h9 := hm.1
      simp only [V.mayB, Int.reduceEq, if_true, if_false, Bool.and_eq_true] at h9
      exact .inr (.inl ⟨rfl, rfl, mt_short t h9.2.2.2, rfl, rfl, len0 l1, len0 l2⟩)
    rw [if_neg h2] at hm
    by_cases h3 : k = 3
    · subst h3
      rw [if_pos rfl] at hm
      simp only [Bool.and_eq_true] at hm
      obtain ⟨rfl, rfl, _, rfl, l1, l2⟩ := bare_of hm.2
      exact .inr (.inr (.inl ⟨rfl, rfl, rfl, rfl, len0 l1, len0 l2⟩))
    rw [if_neg h3] at hm
    by_cases h4 : k = 4
    · subst h4
      rw [if_pos rfl] at hm
      simp only [Bool.and_eq_true, decide_eq_true_eq] at hm
      obtain ⟨rfl, rfl, rfl, _, l1, l2⟩ := bare_of hm.2
      exact .inr (.inr (.inr (.inl ⟨rfl, rfl, rfl, rfl, en7 hm.1, len0 l1, len0 l2⟩)))
    rw [if_neg h4] at hm
    by_cases h5 : k = 5
    · subst h5
      rw [if_pos rfl] at hm
      simp only [Bool.and_eq_true] at hm
      obtain ⟨rfl, rfl, rfl, rfl, _, l2⟩ := bare_of hm.2
      have hx : ∃ x, rs = [x] ∧ okR x := by
        match rs, hm.1 with
        | [x], ho => exact ⟨x, rfl, hR x ho⟩
      exact .inr (.inr (.inr (.inr (.inl ⟨rfl, rfl, rfl, rfl, rfl, hx, len0 l2⟩))))
    rw [if_neg h5] at hm
    by_cases h6 : k = 6
    · subst h6
      rw [if_pos rfl] at hm
      simp only [Bool.and_eq_true] at hm
      obtain ⟨rfl, rfl, rfl, rfl, _, l2⟩ := bare_of hm.2
      have hx : ∃ x y, rs = [x, y] ∧ okR x ∧ okR y := by
        match rs, hm.1 with
        | [x, y], ho =>
          unfold rngB at ho
          simp only [Bool.and_eq_true] at ho
          exact ⟨x, y, rfl, hR x ho.1, hR y ho.2.1⟩
      exact .inr (.inr (.inr (.inr (.inr (.inl ⟨rfl, rfl, rfl, rfl, rfl, hx, len0 l2⟩)))))
    rw [if_neg h6] at hm
    by_cases h7 : k = 7
    · subst h7
      rw [if_pos rfl] at hm
      simp only [Bool.and_eq_true, decide_eq_true_eq] at hm
      obtain ⟨rfl, rfl, rfl, rfl, l1, _⟩ := bare_of hm.2
      exact .inr (.inr (.inr (.inr (.inr (.inr (.inl ⟨rfl, rfl, rfl, rfl, rfl, len0 l1, hm.1⟩))))))
    rw [if_neg h7] at hm
    by_cases h8 : k = 8
    · subst h8
      rw [if_pos rfl] at hm
      simp only [Bool.and_eq_true, decide_eq_true_eq] at hm
      obtain ⟨rfl, _, rfl, rfl, l1, _⟩ := bare_of hm.2
      exact .inr (.inr (.inr (.inr (.inr (.inr (.inr (.inl ⟨rfl, rfl, by have := lvl_short t hm.1.1; omega, rfl, rfl, len0 l1, hm.1.2⟩)))))))
    rw [if_neg h8] at hm
    by_cases h9 : k = 9
    · subst h9
      rw [if_pos rfl] at hm
      simp only [Bool.and_eq_true, decide_eq_true_eq, namF] at hm
      obtain ⟨rfl, _, rfl, rfl, l1, _⟩ := bare_of hm.2
      exact .inr (.inr (.inr (.inr (.inr (.inr (.inr (.inr ⟨rfl, rfl, by have := hm.1.1.2.1; omega, rfl, rfl, len0 l1, hm.1.2⟩)))))))
    rw [if_neg h9] at hm
    cases hm
  where
  en7 {e : Int} (h : enL e ≠ []) : 0 ≤ e ∧ e ≤ 7 := by
    unfold enL at h
    by_cases h1 : e = 1; · omega
    by_cases h2 : e = 2; · omega
    by_cases h3 : e = 3; · omega
    by_cases h4 : e = 4; · omega
    by_cases h5 : e = 5; · omega
    by_cases h6 : e = 6; · omega
    by_cases h7 : e = 7; · omega
    rw [if_neg h1, if_neg h2, if_neg h3, if_neg h4, if_neg h5, if_neg h6, if_neg h7] at h
    exact absurd rfl h
  go : ∀ ks : List Ex, mall.mallL mayN ks = true → Rn.RnL ks → okD.okDL ks
  | [], _, _ => by rw [okD.okDL]; trivial
  | x :: xs, hm, hn => by
    rw [mall.mallL] at hm
    simp only [Bool.and_eq_true] at hm
    rw [Rn.RnL] at hn
    rw [okD.okDL]
    exact ⟨okD_of x hm.1 hn.1, go xs hm.2 hn.2⟩
theorem okcd_cv {x : Cv} {X : Ex} {W : World} (h : CvR W x X) (hm : x.may X = true) : okCD x.f x.vk x.vn x.vt.data.toList x.vb x.ve X := by
  have hv' : -9223372036854775808 ≤ x.vn ∧ x.vn ≤ 9223372036854775807 := of_decide_eq_true h.vr
  have hn := h.rn
  clear h
  unfold Cv.may mcB at hm
  cases hf : x.f with
  | true =>
    rw [hf, if_pos rfl] at hm
    simp only [Bool.and_eq_true, decide_eq_true_eq] at hm
    obtain ⟨⟨h1, h2⟩, h3, h4, h5, h6, h7⟩ := hm
    unfold fitB at h1
    simp only [Bool.and_eq_true, decide_eq_true_eq] at h1
    exact .inl ⟨rfl, h3, h4, h5, h6, h7, okD_of X h2 hn, h1.1⟩
  | false =>
    rw [hf, if_neg Bool.false_ne_true] at hm
    simp only [Bool.and_eq_true] at hm
    obtain ⟨h, hz⟩ := hm
    refine .inr ⟨rfl, (isZ_iff X).1 hz, ?_⟩
    unfold V.mayB at h
    by_cases h0 : x.vk = 0
    · rw [if_pos h0] at h
      simp only [Bool.and_eq_true, decide_eq_true_eq, Bool.not_eq_true'] at h
      exact .inl ⟨h0, h.1, h.2.1, h.2.2.1, h.2.2.2⟩
    rw [if_neg h0] at h
    by_cases h1 : x.vk = 1
    · rw [if_pos h1] at h
      simp only [Bool.and_eq_true, decide_eq_true_eq, Bool.not_eq_true'] at h
      exact .inr (.inl ⟨h1, ⟨hv'.1, by omega⟩, h.1, h.2.1, h.2.2⟩)
    rw [if_neg h1] at h
    by_cases h2 : x.vk = 2
    · rw [if_pos h2] at h
      simp only [Bool.and_eq_true, decide_eq_true_eq, Bool.not_eq_true'] at h
      exact .inr (.inr (.inl ⟨h2, h.1, mt_short _ h.2.2.2, h.2.1, h.2.2.1⟩))
    rw [if_neg h2] at h
    by_cases h3 : x.vk = 3
    · rw [if_pos h3] at h
      simp only [Bool.and_eq_true, decide_eq_true_eq] at h
      exact .inr (.inr (.inr (.inl ⟨h3, h.1, h.2.1, h.2.2⟩)))
    rw [if_neg h3] at h
    by_cases h4 : x.vk = 4
    · rw [if_pos h4] at h
      simp only [Bool.and_eq_true, decide_eq_true_eq, Bool.not_eq_true'] at h
      exact .inr (.inr (.inr (.inr ⟨h4, h.1, h.2.1, h.2.2.1, by have := h.2.2.2; omega⟩)))
    rw [if_neg h4] at h
    cases h
theorem same_iff {x y : Cv} {X Y : Ex} {W V : World} (h : CvR W x X) (k : CvR V y Y) (hx : x.may X = true) (hy : y.may Y = true) : y.enc Y = x.enc X ↔ x.same y X Y := by
  constructor
  · intro e
    obtain ⟨⟨e1, e2, e3, e4, e5, e6, e7⟩, _⟩ := encC_inj (r := []) (s := []) (okc_cv h hx) (okc_cv k hy) (by simpa [Cv.enc] using e.symm)
    exact ⟨e1, ⟨e2, e3, e4, e5, e6⟩, e7⟩
  · rintro ⟨e1, ⟨e2, e3, e4, e5, e6⟩, e7⟩
    unfold Cv.enc
    rw [e1, e2, e3, e4, e5, e6, e7]
theorem results_cell3 {P : Program} {fn : Func} {p u v : Tmp} {ty : TypeId} (h : fn.results = #[.cell p ty, .tmp u, .tmp v]) (tmps : Array Value) (w : World) (g : Nat) (t : TypeId) (cs : Array Value) (fr : Nat × Nat) (d : TypeDesc)
    (hp : tmps.getD p undef = .pointer (some ⟨g, 0, none⟩)) (hg : w.heap[g]? = some (.cells cs t fr))
    (hu : P.underlying ty = some d) (hd : (match d with | .struct _ | .array _ _ => true | _ => false) = true) (hi : (P.info? ty).map (·.size) = some cs.size) :
    (results fn tmps).run P w = .ok (.tuple #[.agg cs, tmps.getD u undef, tmps.getD v undef]) w := by
  have hp' : tmps[p]?.getD undef = .pointer (some ⟨g, 0, none⟩) := by simpa using hp
  simp [results, h, hp', asAddr, run_loadVar_row w g t ty cs fr d hg hu hd hi]
set_option maxHeartbeats 4000000 in
theorem cellenc_c (C : Array Value) (hsz : C.size = 13) (mb : Bool) (bs : List UInt8) (W : World) (hm : ∀ V, Q W V → Calls Tryz.prog 28 #[.agg C] V fun e V' => e = .returned (.bool mb) ∧ Q V V') (hl : mb = true → bs.length ≤ 100000) (hc : mb = true → ∀ w0 p, Q W w0 → w0.heap.size ≤ p → CellC w0 p bs (.agg C)) :
    Calls Tryz.prog 15 #[.agg C] W fun e W' => EncP W mb bs e W' := by
  have HM := hid hm
  have HL := hid hl
  have HC := hid hc
  have HI : Hid ((Tryz.prog.info? 42).map (·.size) = some C.size) := hid (by rw [hsz]; exact info42)
  clear hm hl hc hsz
  go_enter Tryz.func15, Tryz.ntmps15
  go_upto_region 1 with fail
  have Z0 := hid (bq_new W C 42)
  have Q0 : Hid (Q W (W.alloc (.cells C 42))) := hid ((Q.refl W).alloc _)
  generalize W.heap.size = q at Z0 ⊢
  generalize W.alloc (.cells C 42) = w1 at Z0 Q0 ⊢
  cases mb
  · go_wp2_with (first
      | (with_reducible refine wpList_load_row (by with_unfolding_all rfl) 42 _ (by with_unfolding_all rfl) q (by with_unfolding_all rfl) 42 C (0, 0) _ Z0.out.h Tryz.underlying42 (by with_unfolding_all rfl) (by with_unfolding_all exact HI.out) ?_)
      | (go_at_call 28; refine (HM.out _ Q0.out).mono ?_; rintro e9 w2 ⟨rfl, hq9⟩; have Q2 : Hid (Q W w2) := hid (Q0.out.trans hq9); clear hq9))
    go_ret2
    exact ⟨Q2.out, (fun e => absurd e Bool.false_ne_true), (fun _ => rfl)⟩
  · go_upto_region 4 with (first
      | (with_reducible refine wpList_load_row (by with_unfolding_all rfl) 42 _ (by with_unfolding_all rfl) q (by with_unfolding_all rfl) 42 C (0, 0) _ Z0.out.h Tryz.underlying42 (by with_unfolding_all rfl) (by with_unfolding_all exact HI.out) ?_)
      | (go_at_call 28; refine (HM.out _ Q0.out).mono ?_; rintro e9 w2 ⟨rfl, hq9⟩; have Q2 : Hid (Q W w2) := hid (Q0.out.trans hq9); have Z2 := hid (Z0.out.on hq9); clear hq9))
    have HW := hid (wr_new w2)
    have Z3 := hid (Z2.out.on ((Q.refl _).alloc (.cells #[.slice none 0 0] 59)))
    have Q3 : Hid (Q w2 (w2.alloc (.cells #[.slice none 0 0] 59))) := hid ((Q.refl _).alloc _)
    obtain ⟨p, hp⟩ : ∃ p, p = w2.heap.size := ⟨_, rfl⟩
    have HP : Hid (w2.heap.size ≤ p) := hid (Nat.le_of_eq hp.symm)
    rw [← hp] at HW ⊢
    clear hp
    generalize w2.alloc (.cells #[.slice none 0 0] 59) = w3 at HW Z3 Q3 ⊢
    have HCC := hid ((HC.out (by trivial) w2 p Q2.out HP.out) [] w3 Q3.out HW.out (by have := HL.out (by trivial); simp; omega))
    go_upto_region 5 with (first
      | (with_reducible refine wpList_load_row (by with_unfolding_all rfl) 42 _ (by with_unfolding_all rfl) q (by with_unfolding_all rfl) 42 C (0, 0) _ Z3.out.h Tryz.underlying42 (by with_unfolding_all rfl) (by with_unfolding_all exact HI.out) ?_)
      | (go_at_call 29; refine HCC.out.mono ?_; rintro e9 w4 ⟨rfl, hw9, hq9⟩; have HW4 := hid hw9; have Q4 : Hid (Q W w4) := hid (Q2.out.trans (hq9.q Q3.out HP.out)); clear hw9 hq9))
    obtain ⟨v, hbk, hown⟩ := HW4.out.h
    have c0 : w4.cell? ⟨p, 0, none⟩ = some v := by rw [Lib.cell_of_heap hbk]; rfl
    have HV : Hid (Sl eb 1 w4 v ([] ++ bs)) := hid (Own.sl (e := 5) (B := p + 1) (by unfold Own; rw [flat_eb]; exact hown) eb_len (by decide))
    rw [List.nil_append] at HV
    clear hown
    go_wp2_with fail
    go_ret2
    exact ⟨Q4.out, (fun _ => ⟨v, rfl, HV.out⟩), (fun e => absurd e.symm Bool.false_ne_true)⟩
theorem cellenc_cv {x : Cv} {X : Ex} {W : World} (hg : Gd W) (h : CvR W x X) : Calls Tryz.prog 15 #[.agg x.a] W fun e W' => EncP W (x.may X) (x.enc X) e W' :=
  cellenc_c x.a x.size _ _ W (fun V q => smay_cv (hg.on q) (h.on q)) (fun hm => by have := encC_short hm; unfold Cv.enc; omega) (fun hm w0 p q hp => wcell_cv w0 p h hm q hp)
theorem rcell_cv (w0 : World) (r : Nat) (hr0 : w0.heap.size ≤ r) (x : Cv) (X : Ex) (D : List UInt8) (nd : Int) (w : World) (hX : okCD x.f x.vk x.vn x.vt.data.toList x.vb x.ve X) (hq : Q w0 w) (h : Rq w0 r (x.enc X ++ D) nd w) :
    Calls Tryz.prog 34 #[.pointer (some ⟨r, 0, none⟩)] w fun en W' => ∃ y : Cv, en = .returned (.agg y.a) ∧ y.same x X X ∧ y.vt = x.vt ∧ y.vn = x.vn ∧ Rdg (fun b => w.heap.size ≤ b) W' X y.tr ∧ (∃ nd', Rq w0 r D nd' W') ∧ Qx r w W' := by
  refine (rcellq w0 r hr0 x.f x.vk x.vn x.vt.data.toList x.vb x.ve X D nd w hX hq h).mono ?_
  rintro en W' ⟨k8, m8, t8, bb8, er8, a18, l18, c18, a28, l28, c28, nd', rfl, h1, h2, h3⟩
  have ev : (⟨x.vt.data.toList.toArray⟩ : ByteArray) = x.vt := by simp
  exact ⟨⟨x.f, x.vk, x.vn, ⟨x.vt.data.toList.toArray⟩, x.vb, x.ve, k8, m8, t8, bb8, er8, a18, l18, c18, a28, l28, c28⟩, rfl, ⟨rfl, ⟨rfl, rfl, by simp, rfl, rfl⟩, rfl⟩, ev, rfl, h1, ⟨nd', h2⟩, h3⟩
def RcP (W : World) (X : Ex) (x : Cv) (n : Nat) (e : Ending) (W' : World) : Prop := ∃ y : Cv, e = .returned (.tuple #[.agg y.a, .int .i64 n, .int .i64 0]) ∧ Rd W' X y.tr ∧ y.same x X X ∧ Q W W'
set_option maxHeartbeats 8000000 in
theorem readcell_any (u : Value) (x : Cv) (X : Ex) (D : List UInt8) (W0 W : World) (hg : Gd W) (h : CvR W0 x X) (hm : x.may X = true) (hu : Sl eb 1 W u (x.enc X ++ D)) :
    Calls Tryz.prog 17 #[u] W fun e W' => RcP W X x (x.enc X).length e W' := by
  have hD := okcd_cv h hm
  have HG := hid hg
  have HH := hid (And.intro h hm)
  have HU := hid hu
  obtain ⟨bs, hbs⟩ : ∃ bs, bs = x.enc X := ⟨_, rfl⟩
  have HBS := hid hbs
  obtain ⟨a1, c1, hr1, hs1⟩ := sl_to hu bs.length (by rw [List.length_append, hbs]; omega)
  obtain ⟨ao, cap, rfl, h1, h2⟩ := hu.len
  rw [← hbs] at hs1 HU hr1 h1 ⊢
  rw [List.take_left] at hs1
  have HS1 := hid hs1
  have hnl : (bs ++ D).length = bs.length + D.length := by simp
  obtain ⟨n, hn⟩ : ∃ n, n = (bs ++ D).length := ⟨_, rfl⟩
  rw [← hn] at hr1 h1 hnl HU ⊢
  have HR1 := hid hr1.out
  clear hu hs1 h hm hg hr1 h1 h2 hbs
  obtain ⟨l, hl⟩ : ∃ l, l = bs.length := ⟨_, rfl⟩
  obtain ⟨d, hd⟩ : ∃ d, d = D.length := ⟨_, rfl⟩
  rw [← hl] at hnl HR1 HS1 ⊢
  rw [← hd] at hnl
  have HLD := hid (And.intro hl hd)
  clear hn hl hd
  have hsub : (n : Int) - (d : Int) = (l : Int) := by omega
  clear hnl
  have hlb : (l : Int) ≤ 9223372036854775807 := by
    have h9 : (x.enc X).length ≤ 60000 := encC_short HH.out.2
    have := HLD.out.1
    rw [HBS.out] at this
    omega
  have hwl : wrap64 (l : Int) = (l : Int) := by unfold wrap64; omega
  go_enter Tryz.func17, Tryz.ntmps17
  go_upto_region 2 with fail
  obtain ⟨q2, e2⟩ : ∃ q2, q2 = W.heap.size := ⟨_, rfl⟩
  obtain ⟨r, e1⟩ : ∃ r, r = W.heap.size + 1 := ⟨_, rfl⟩
  have Z1 : Hid (Bq ((W.alloc (.cells z13 42)).alloc (.cells #[.slice ao n cap, .int .i64 0] 63)) q2 z13 42) := hid ((e2 ▸ bq_new W z13 42).on ((Q.refl _).alloc _))
  have R1 : Hid (Rq W r (x.enc X ++ D) 0 ((W.alloc (.cells z13 42)).alloc (.cells #[.slice ao n cap, .int .i64 0] 63))) := hid ⟨_, by
    have h9 := heap_alloc_last (W.alloc (.cells z13 42)) (.cells #[.slice ao n cap, .int .i64 0] 63)
    rw [show (W.alloc (.cells z13 42)).heap.size = r by rw [e1]; simp] at h9
    exact h9, by rw [← HBS.out]; exact HU.out⟩
  have Q1 : Hid (Q W ((W.alloc (.cells z13 42)).alloc (.cells #[.slice ao n cap, .int .i64 0] 63))) := hid (((Q.refl W).alloc _).alloc _)
  unfold z13 at Z1 R1 Q1
  rw [← e1, ← e2]
  have hq2 : q2 ≠ r := by omega
  have hw2 : W.heap.size ≤ q2 ∧ W.heap.size ≤ r := by omega
  clear e1 e2
  generalize (W.alloc (.cells _ 42)).alloc _ = w1 at Z1 R1 Q1 ⊢
  have HRC := hid (rcell_cv W r hw2.2 x X D 0 w1 hD Q1.out R1.out)
  go_upto_region 3 with (first
    | (go_at_call 34; refine HRC.out.mono ?_; rintro e9 V ⟨y, rfl, hy1, hy2, hy3, hd9, ⟨nd', hw9⟩, hq9⟩; have HY := hid (And.intro hy1 (And.intro hy2 hy3)); have RV := hid hw9; have XV := hid hq9; have QV : Hid (Q W V) := hid (hq9.qq Q1.out hw2.2); have ZV : Hid (Bq V q2 z13 42) := hid (Z1.out.qx hq9 hq2); have DV := hid hd9; clear hw9 hq9 hd9 hy1 hy2 hy3)
    | (with_reducible refine wpl_layt V 42 _ _ (by with_unfolding_all rfl) (by with_unfolding_all rfl) y.a z13 (by with_unfolding_all rfl) (by with_unfolding_all rfl) (by with_unfolding_all exact info42) (by with_unfolding_all rfl) (by with_unfolding_all exact y.one) (by with_unfolding_all rfl) ?_))
  have hB1 : q2 < w1.heap.size := Z1.out.l
  clear HRC Z1 R1 Q1
  obtain ⟨q6, e6⟩ : ∃ q6, q6 = V.heap.size := ⟨_, rfl⟩
  have Z6 := hid (bq_new V y.a 42)
  rw [← e6] at Z6 ⊢
  clear e6
  have Q6 : Hid (Q V (V.alloc (.cells y.a 42))) := hid ((Q.refl _).alloc _)
  have CY : Hid (CvR V y X) := hid ⟨Rdg.rd _ _ DV.out, by rw [HY.out.2.1]; exact HH.out.1.vt, HH.out.1.sm, HH.out.1.nd, HH.out.1.rn, by rw [HY.out.2.2]; exact HH.out.1.vr⟩
  have hmy : y.may X = true := by
    obtain ⟨⟨e1, ⟨e2, e3, e4, e5, e6⟩, _⟩, _⟩ := HY.out
    have := HH.out.2
    unfold Cv.may at this ⊢
    rw [e1, e2, e3, e4, e5, e6]
    exact this
  have hey : y.enc X = bs := by
    obtain ⟨⟨e1, ⟨e2, e3, e4, e5, e6⟩, _⟩, _⟩ := HY.out
    rw [HBS.out]
    unfold Cv.enc
    rw [e1, e2, e3, e4, e5, e6]
  have QW := hid (QV.out.trans Q6.out)
  have ZW := hid (ZV.out.on Q6.out)
  have RW := hid (RV.out.on Q6.out)
  generalize V.alloc (.cells y.a 42) = w3 at Z6 Q6 QW ZW RW ⊢
  obtain ⟨v', hb', hs'⟩ := RW.out.h
  obtain ⟨a', c', rfl, _, _⟩ := hs'.len
  rw [← HLD.out.2] at hb'
  have c0 : w3.cell? ⟨r, 0, none⟩ = some (.slice a' d c') := by rw [Lib.cell_of_heap hb']; rfl
  clear hb' hs' RV RW
  have HE := hid (cellenc_cv (HG.out.on QW.out) (CY.out.on Q6.out))
  rw [hmy, hey] at HE
  have HI : Hid ((Tryz.prog.info? 42).map (·.size) = some y.a.size) := hid info42
  go_upto_region 4 with fail
  clear c0
  go_upto_region 5 with (first
    | (with_reducible refine wpList_load_row (by with_unfolding_all rfl) 42 _ (by with_unfolding_all rfl) q6 (by with_unfolding_all rfl) 42 y.a (0, 0) _ Z6.out.h Tryz.underlying42 (by with_unfolding_all rfl) (by with_unfolding_all exact HI.out) ?_)
    | (go_at_call 15; refine HE.out.mono ?_; rintro e9 w5 ⟨hq9, he9, _⟩; obtain ⟨vb, rfl, hs9⟩ := he9 rfl; have VB := hid hs9; have Q5 := hid hq9; clear hq9 he9 hs9))
  clear HE
  have QW5 := hid (QW.out.trans Q5.out)
  have Z65 := hid (Z6.out.on Q5.out)
  have ZW5 : Hid (Bq w5 q2 z13 42) := hid (ZW.out.on Q5.out)
  have HEQ := hid (bytesEqual_any vb (.slice a1 l c1) bs bs w5 VB.out (HS1.out.on QW5.out))
  rw [decide_eq_true rfl] at HEQ
  have hR1 := HR1.out
  go_upto_region 7 with (go_at_call 25; refine HEQ.out.mono ?_; rintro e9 w7 ⟨rfl, hq9⟩; have Q7 := hid hq9; clear hq9)
  have QW7 := hid (QW5.out.trans Q7.out)
  have Z7 := hid (Z65.out.on Q7.out)
  have ZW7 : Hid (Bq w7 q2 z13 42) := hid (ZW5.out.on Q7.out)
  have Q37 := hid (Q6.out.trans (Q5.out.trans Q7.out))
  go_wp2_with (first
    | (with_reducible refine wpList_load_row (by with_unfolding_all rfl) 42 _ (by with_unfolding_all rfl) q6 (by with_unfolding_all rfl) 42 y.a (0, 0) _ Z7.out.h Tryz.underlying42 (by with_unfolding_all rfl) (by with_unfolding_all exact HI.out) ?_)
    | (with_reducible refine wpList_store_row (by with_unfolding_all rfl) 42 _ _ (by with_unfolding_all rfl) q2 y.a (by with_unfolding_all rfl) (by with_unfolding_all rfl) 42 z13 ZW7.out.h (by with_unfolding_all exact HI.out) (by with_unfolding_all rfl) (by with_unfolding_all exact y.one) ?_))
  refine bodyPost_ret (v := .tuple #[.agg y.a, .int .i64 l, .int .i64 0]) (results_cell3 Tryz.results17 _ _ q2 42 y.a (0, 0) _ (by rfl) (ZW7.out.row y.a).h Tryz.underlying42 rfl HI.out) rfl ?_
  refine ⟨y, rfl, ?_, HY.out.1, ?_⟩
  · exact Rdg.rd _ _ (Rdg.on (qx_setRow w7 q2 y.a) (fun b hb => by omega) _ _ (Rdg.on (Qx.of Q37.out) (p := q2) (fun b hb => by omega) _ _ DV.out))
  · exact (qx_setRow w7 q2 y.a).qq QW7.out hw2.1
end Go.Proofs.YtcgddnliiondoaaGreatDoor
