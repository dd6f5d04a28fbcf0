/- op.sameCell, counterpaneref5.EqCell, walked: are two cells t. -/
import Derived.Test.YthebfhdpofhmpaaGreatDoorKc10
import Derived.Test.YthebfhdpofhmpaaGreatDoorKc00
import Derived.Test.YthebfhdpofhmpaaGreatDoorKc04
import Derived.Test.YthebfhdpofhmpaaGreatDoorKc13
import Derived.Test.YthebfhdpofhmpaaGreatDoorKc05
import Derived.Test.YthebfhdpofhmpaaGreatDoorKc02
import Derived.Test.YthebfhdpofhmpaaGreatDoorKc03
import Derived.Test.YthebfhdpofhmpaaGreatDoorProg
import Derived.Deep.CutBlock
import Derived.BigRegion
import Derived.Shelf.Abstract
import Derived.OwnWalkIn
import Derived.TacticsInMore
import Derived.LoopNIn
import Derived.LoopIn
import Derived.Maps.AppendAt
import Derived.Test.YthebfhdpofhmpaaGreatDoorKc07
import Derived.Shelf.Strconv.Itoa4
import Derived.Deep.RegionHeld3
import Derived.Deep.CutRange
import Derived.BigQuiet
import Derived.Lib.AppendStr
import Derived.Great.Ranges
import Derived.Great.Walk
import Derived.Laws.ResultCell
import Derived.Test.YthebfhdpofhmpaaGreatDoorKc08
import Derived.Great.BuildSlice
import Derived.Laws.CopyOwn
import Derived.Deep.AppendLies
import Derived.Lib.Builder
import Derived.Shelf.Bytes.SlEqualAll
import Derived.Test.YthebfhdpofhmpaaGreatDoorKc11
import Derived.Carry
import Derived.Deep.RegionLaw
set_option linter.unusedVariables false
set_option linter.unusedSimpArgs false
set_option maxRecDepth 100000
set_option maxHeartbeats 8000000
namespace Go.Proofs.YthebfhdpofhmpaaGreatDoor
open Go.RowKit
set_option maxHeartbeats 4000000 in
theorem samecell_any (f : Bool) (vk vn : Int) (vt : ByteArray) (vb : Bool) (ve : Int) (k m : Int) (t : ByteArray) (bb : Bool) (er : Int) (a1 : Option Addr) (l1 c1 : Nat) (a2 : Option Addr) (l2 c2 : Nat) (f' : Bool) (vk' vn' : Int) (vt' : ByteArray) (vb' : Bool) (ve' : Int) (k' m' : Int) (t' : ByteArray) (bb' : Bool) (er' : Int) (a1' : Option Addr) (l1' c1' : Nat) (a2' : Option Addr) (l2' c2' : Nat) (X Y : Ex) (b : Bool) (w : World) (hr : Rd w X (.agg #[.int .i64 k, .int .i64 m, .string t, .bool bb, .int .i64 er, .slice a1 l1 c1, .slice a2 l2 c2])) (hr' : Rd w Y (.agg #[.int .i64 k', .int .i64 m', .string t', .bool bb', .int .i64 er', .slice a1' l1' c1', .slice a2' l2' c2'])) (hn : nodes X ≤ 1000) (hb : b = true ↔ (f = f' ∧ (vk = vk' ∧ vn = vn' ∧ vt.data.toList = vt'.data.toList ∧ vb = vb' ∧ ve = ve') ∧ X = Y)) : Calls Tryz.prog 54 #[.agg #[.bool f, .int .i64 vk, .int .i64 vn, .string vt, .bool vb, .int .i64 ve, .int .i64 k, .int .i64 m, .string t, .bool bb, .int .i64 er, .slice a1 l1 c1, .slice a2 l2 c2], .agg #[.bool f', .int .i64 vk', .int .i64 vn', .string vt', .bool vb', .int .i64 ve', .int .i64 k', .int .i64 m', .string t', .bool bb', .int .i64 er', .slice a1' l1' c1', .slice a2' l2' c2']] w fun e W' => e = .returned (.bool b) ∧ Q w W' := by
  have HV := hid (fun W' => veq_any vk vn vt vb ve vk' vn' vt' vb' ve' W')
  have HE := hid (fun W' (q : Q w W') => eq_any X Y _ _ W' (Rd.on q _ _ hr) (Rd.on q _ _ hr') hn)
  obtain ⟨rr, hrr⟩ : ∃ rr, decide (vk = vk' ∧ vn = vn' ∧ vt.data.toList = vt'.data.toList ∧ vb = vb' ∧ ve = ve') = rr := ⟨_, rfl⟩
  rw [hrr] at HV
  unfold vx at HV
  clear hr hr'
  by_cases hf : f = f'
  · have e0 : (f == f') = true := by simpa using hf
    cases rr with
    | true =>
      have hv := of_decide_eq_true hrr
      have HB : Hid (∀ e, Ans (X = Y) e → e = .returned (.bool b)) := hid (fun e ⟨r, he, hr⟩ => by
        rw [he, show r = b from Bool.eq_iff_iff.2 (hr.trans ⟨fun x => hb.2 ⟨hf, hv, x⟩, fun x => (hb.1 x).2.2⟩)])
      clear hb hf hv hrr
      go_enter Tryz.func54, Tryz.ntmps54
      go_upto_region 1 with fail
      have Z1 := hid ((cb_new w [.bool f, .int .i64 vk, .int .i64 vn, .string vt, .bool vb, .int .i64 ve, .int .i64 k, .int .i64 m, .string t, .bool bb, .int .i64 er, .slice a1 l1 c1, .slice a2 l2 c2] 37).on ((Q.refl _).alloc (.cells #[.bool f', .int .i64 vk', .int .i64 vn', .string vt', .bool vb', .int .i64 ve', .int .i64 k', .int .i64 m', .string t', .bool bb', .int .i64 er', .slice a1' l1' c1', .slice a2' l2' c2'] 37)))
      have Z2 := hid (cb_new (w.alloc (.cells #[.bool f, .int .i64 vk, .int .i64 vn, .string vt, .bool vb, .int .i64 ve, .int .i64 k, .int .i64 m, .string t, .bool bb, .int .i64 er, .slice a1 l1 c1, .slice a2 l2 c2] 37)) [.bool f', .int .i64 vk', .int .i64 vn', .string vt', .bool vb', .int .i64 ve', .int .i64 k', .int .i64 m', .string t', .bool bb', .int .i64 er', .slice a1' l1' c1', .slice a2' l2' c2'] 37)
      have QA : Hid (Q w ((w.alloc (.cells #[.bool f, .int .i64 vk, .int .i64 vn, .string vt, .bool vb, .int .i64 ve, .int .i64 k, .int .i64 m, .string t, .bool bb, .int .i64 er, .slice a1 l1 c1, .slice a2 l2 c2] 37)).alloc (.cells #[.bool f', .int .i64 vk', .int .i64 vn', .string vt', .bool vb', .int .i64 ve', .int .i64 k', .int .i64 m', .string t', .bool bb', .int .i64 er', .slice a1' l1' c1', .slice a2' l2' c2'] 37))) := hid (((Q.refl w).alloc _).alloc _)
      rw [show ([.bool f, .int .i64 vk, .int .i64 vn, .string vt, .bool vb, .int .i64 ve, .int .i64 k, .int .i64 m, .string t, .bool bb, .int .i64 er, .slice a1 l1 c1, .slice a2 l2 c2] : List Value).toArray = #[.bool f, .int .i64 vk, .int .i64 vn, .string vt, .bool vb, .int .i64 ve, .int .i64 k, .int .i64 m, .string t, .bool bb, .int .i64 er, .slice a1 l1 c1, .slice a2 l2 c2] from rfl] at Z1
      rw [show ([.bool f', .int .i64 vk', .int .i64 vn', .string vt', .bool vb', .int .i64 ve', .int .i64 k', .int .i64 m', .string t', .bool bb', .int .i64 er', .slice a1' l1' c1', .slice a2' l2' c2'] : List Value).toArray = #[.bool f', .int .i64 vk', .int .i64 vn', .string vt', .bool vb', .int .i64 ve', .int .i64 k', .int .i64 m', .string t', .bool bb', .int .i64 er', .slice a1' l1' c1', .slice a2' l2' c2'] from rfl, show (w.alloc (.cells #[.bool f, .int .i64 vk, .int .i64 vn, .string vt, .bool vb, .int .i64 ve, .int .i64 k, .int .i64 m, .string t, .bool bb, .int .i64 er, .slice a1 l1 c1, .slice a2 l2 c2] 37)).heap.size = w.heap.size + 1 by simp] at Z2
      generalize ((w.alloc (.cells #[.bool f, .int .i64 vk, .int .i64 vn, .string vt, .bool vb, .int .i64 ve, .int .i64 k, .int .i64 m, .string t, .bool bb, .int .i64 er, .slice a1 l1 c1, .slice a2 l2 c2] 37)).alloc (.cells #[.bool f', .int .i64 vk', .int .i64 vn', .string vt', .bool vb', .int .i64 ve', .int .i64 k', .int .i64 m', .string t', .bool bb', .int .i64 er', .slice a1' l1' c1', .slice a2' l2' c2'] 37)) = w2 at Z1 Z2 QA ⊢
      generalize w.heap.size + 1 = b1 at Z2 ⊢
      generalize w.heap.size = b0 at Z1 ⊢
      have d0 := Z1.out.c 0 _ rfl
      have d1 := Z1.out.c 1 _ rfl
      have d2 := Z1.out.c 2 _ rfl
      have d3 := Z1.out.c 3 _ rfl
      have d4 := Z1.out.c 4 _ rfl
      have d5 := Z1.out.c 5 _ rfl
      have d6 := Z1.out.c 6 _ rfl
      have d7 := Z1.out.c 7 _ rfl
      have d8 := Z1.out.c 8 _ rfl
      have d9 := Z1.out.c 9 _ rfl
      have d10 := Z1.out.c 10 _ rfl
      have d11 := Z1.out.c 11 _ rfl
      have d12 := Z1.out.c 12 _ rfl
      have n0 := Z2.out.c 0 _ rfl
      have n1 := Z2.out.c 1 _ rfl
      have n2 := Z2.out.c 2 _ rfl
      have n3 := Z2.out.c 3 _ rfl
      have n4 := Z2.out.c 4 _ rfl
      have n5 := Z2.out.c 5 _ rfl
      have n6 := Z2.out.c 6 _ rfl
      have n7 := Z2.out.c 7 _ rfl
      have n8 := Z2.out.c 8 _ rfl
      have n9 := Z2.out.c 9 _ rfl
      have n10 := Z2.out.c 10 _ rfl
      have n11 := Z2.out.c 11 _ rfl
      have n12 := Z2.out.c 12 _ rfl
      go_wp2_with (first | (go_at_call 45; refine (HV.out _).mono ?_; rintro e9 w3 ⟨rfl, q3⟩; have Z13 := hid (Z1.out.on q3); have Z23 := hid (Z2.out.on q3); have Q3 : Hid (Q w w3) := hid (QA.out.trans q3); clear q3; have x0 := Z13.out.c 0 _ rfl; have x1 := Z13.out.c 1 _ rfl; have x2 := Z13.out.c 2 _ rfl; have x3 := Z13.out.c 3 _ rfl; have x4 := Z13.out.c 4 _ rfl; have x5 := Z13.out.c 5 _ rfl; have x6 := Z13.out.c 6 _ rfl; have x7 := Z13.out.c 7 _ rfl; have x8 := Z13.out.c 8 _ rfl; have x9 := Z13.out.c 9 _ rfl; have x10 := Z13.out.c 10 _ rfl; have x11 := Z13.out.c 11 _ rfl; have x12 := Z13.out.c 12 _ rfl; have y0 := Z23.out.c 0 _ rfl; have y1 := Z23.out.c 1 _ rfl; have y2 := Z23.out.c 2 _ rfl; have y3 := Z23.out.c 3 _ rfl; have y4 := Z23.out.c 4 _ rfl; have y5 := Z23.out.c 5 _ rfl; have y6 := Z23.out.c 6 _ rfl; have y7 := Z23.out.c 7 _ rfl; have y8 := Z23.out.c 8 _ rfl; have y9 := Z23.out.c 9 _ rfl; have y10 := Z23.out.c 10 _ rfl; have y11 := Z23.out.c 11 _ rfl; have y12 := Z23.out.c 12 _ rfl) | (go_at_call 47; refine (HE.out _ Q3.out).mono ?_; rintro e9 w4 ⟨ha, q4⟩; have he := HB.out _ ha; subst he; have Q4 : Hid (Q w w4) := hid (Q3.out.trans q4); clear q4 ha))
      go_ret
      exact ⟨rfl, Q4.out⟩
    | false =>
      have HB : Hid (b = false) := hid (by
        cases b with
        | false => rfl
        | true => exact absurd (hb.1 rfl).2.1 (of_decide_eq_false hrr))
      clear hb hf hrr
      go_enter Tryz.func54, Tryz.ntmps54
      go_upto_region 1 with fail
      have Z1 := hid ((cb_new w [.bool f, .int .i64 vk, .int .i64 vn, .string vt, .bool vb, .int .i64 ve, .int .i64 k, .int .i64 m, .string t, .bool bb, .int .i64 er, .slice a1 l1 c1, .slice a2 l2 c2] 37).on ((Q.refl _).alloc (.cells #[.bool f', .int .i64 vk', .int .i64 vn', .string vt', .bool vb', .int .i64 ve', .int .i64 k', .int .i64 m', .string t', .bool bb', .int .i64 er', .slice a1' l1' c1', .slice a2' l2' c2'] 37)))
      have Z2 := hid (cb_new (w.alloc (.cells #[.bool f, .int .i64 vk, .int .i64 vn, .string vt, .bool vb, .int .i64 ve, .int .i64 k, .int .i64 m, .string t, .bool bb, .int .i64 er, .slice a1 l1 c1, .slice a2 l2 c2] 37)) [.bool f', .int .i64 vk', .int .i64 vn', .string vt', .bool vb', .int .i64 ve', .int .i64 k', .int .i64 m', .string t', .bool bb', .int .i64 er', .slice a1' l1' c1', .slice a2' l2' c2'] 37)
      have QA : Hid (Q w ((w.alloc (.cells #[.bool f, .int .i64 vk, .int .i64 vn, .string vt, .bool vb, .int .i64 ve, .int .i64 k, .int .i64 m, .string t, .bool bb, .int .i64 er, .slice a1 l1 c1, .slice a2 l2 c2] 37)).alloc (.cells #[.bool f', .int .i64 vk', .int .i64 vn', .string vt', .bool vb', .int .i64 ve', .int .i64 k', .int .i64 m', .string t', .bool bb', .int .i64 er', .slice a1' l1' c1', .slice a2' l2' c2'] 37))) := hid (((Q.refl w).alloc _).alloc _)
      rw [show ([.bool f, .int .i64 vk, .int .i64 vn, .string vt, .bool vb, .int .i64 ve, .int .i64 k, .int .i64 m, .string t, .bool bb, .int .i64 er, .slice a1 l1 c1, .slice a2 l2 c2] : List Value).toArray = #[.bool f, .int .i64 vk, .int .i64 vn, .string vt, .bool vb, .int .i64 ve, .int .i64 k, .int .i64 m, .string t, .bool bb, .int .i64 er, .slice a1 l1 c1, .slice a2 l2 c2] from rfl] at Z1
      rw [show ([.bool f', .int .i64 vk', .int .i64 vn', .string vt', .bool vb', .int .i64 ve', .int .i64 k', .int .i64 m', .string t', .bool bb', .int .i64 er', .slice a1' l1' c1', .slice a2' l2' c2'] : List Value).toArray = #[.bool f', .int .i64 vk', .int .i64 vn', .string vt', .bool vb', .int .i64 ve', .int .i64 k', .int .i64 m', .string t', .bool bb', .int .i64 er', .slice a1' l1' c1', .slice a2' l2' c2'] from rfl, show (w.alloc (.cells #[.bool f, .int .i64 vk, .int .i64 vn, .string vt, .bool vb, .int .i64 ve, .int .i64 k, .int .i64 m, .string t, .bool bb, .int .i64 er, .slice a1 l1 c1, .slice a2 l2 c2] 37)).heap.size = w.heap.size + 1 by simp] at Z2
      generalize ((w.alloc (.cells #[.bool f, .int .i64 vk, .int .i64 vn, .string vt, .bool vb, .int .i64 ve, .int .i64 k, .int .i64 m, .string t, .bool bb, .int .i64 er, .slice a1 l1 c1, .slice a2 l2 c2] 37)).alloc (.cells #[.bool f', .int .i64 vk', .int .i64 vn', .string vt', .bool vb', .int .i64 ve', .int .i64 k', .int .i64 m', .string t', .bool bb', .int .i64 er', .slice a1' l1' c1', .slice a2' l2' c2'] 37)) = w2 at Z1 Z2 QA ⊢
      generalize w.heap.size + 1 = b1 at Z2 ⊢
      generalize w.heap.size = b0 at Z1 ⊢
      have d0 := Z1.out.c 0 _ rfl
      have d1 := Z1.out.c 1 _ rfl
      have d2 := Z1.out.c 2 _ rfl
      have d3 := Z1.out.c 3 _ rfl
      have d4 := Z1.out.c 4 _ rfl
      have d5 := Z1.out.c 5 _ rfl
      have d6 := Z1.out.c 6 _ rfl
      have d7 := Z1.out.c 7 _ rfl
      have d8 := Z1.out.c 8 _ rfl
      have d9 := Z1.out.c 9 _ rfl
      have d10 := Z1.out.c 10 _ rfl
      have d11 := Z1.out.c 11 _ rfl
      have d12 := Z1.out.c 12 _ rfl
      have n0 := Z2.out.c 0 _ rfl
      have n1 := Z2.out.c 1 _ rfl
      have n2 := Z2.out.c 2 _ rfl
      have n3 := Z2.out.c 3 _ rfl
      have n4 := Z2.out.c 4 _ rfl
      have n5 := Z2.out.c 5 _ rfl
      have n6 := Z2.out.c 6 _ rfl
      have n7 := Z2.out.c 7 _ rfl
      have n8 := Z2.out.c 8 _ rfl
      have n9 := Z2.out.c 9 _ rfl
      have n10 := Z2.out.c 10 _ rfl
      have n11 := Z2.out.c 11 _ rfl
      have n12 := Z2.out.c 12 _ rfl
      go_wp2_with (go_at_call 45; refine (HV.out _).mono ?_; rintro e9 w3 ⟨rfl, q3⟩; have Q3 : Hid (Q w w3) := hid (QA.out.trans q3); clear q3)
      go_ret
      exact ⟨ret_bool HB.out.symm, Q3.out⟩
  · have e0 : (f == f') = false := by simpa using hf
    have HB : Hid (b = false) := hid (by
      cases b with
      | false => rfl
      | true => exact absurd (hb.1 rfl).1 hf)
    clear hb hf hrr
    go_enter Tryz.func54, Tryz.ntmps54
    go_upto_region 1 with fail
    have Z1 := hid ((cb_new w [.bool f, .int .i64 vk, .int .i64 vn, .string vt, .bool vb, .int .i64 ve, .int .i64 k, .int .i64 m, .string t, .bool bb, .int .i64 er, .slice a1 l1 c1, .slice a2 l2 c2] 37).on ((Q.refl _).alloc (.cells #[.bool f', .int .i64 vk', .int .i64 vn', .string vt', .bool vb', .int .i64 ve', .int .i64 k', .int .i64 m', .string t', .bool bb', .int .i64 er', .slice a1' l1' c1', .slice a2' l2' c2'] 37)))
    have Z2 := hid (cb_new (w.alloc (.cells #[.bool f, .int .i64 vk, .int .i64 vn, .string vt, .bool vb, .int .i64 ve, .int .i64 k, .int .i64 m, .string t, .bool bb, .int .i64 er, .slice a1 l1 c1, .slice a2 l2 c2] 37)) [.bool f', .int .i64 vk', .int .i64 vn', .string vt', .bool vb', .int .i64 ve', .int .i64 k', .int .i64 m', .string t', .bool bb', .int .i64 er', .slice a1' l1' c1', .slice a2' l2' c2'] 37)
    have QA : Hid (Q w ((w.alloc (.cells #[.bool f, .int .i64 vk, .int .i64 vn, .string vt, .bool vb, .int .i64 ve, .int .i64 k, .int .i64 m, .string t, .bool bb, .int .i64 er, .slice a1 l1 c1, .slice a2 l2 c2] 37)).alloc (.cells #[.bool f', .int .i64 vk', .int .i64 vn', .string vt', .bool vb', .int .i64 ve', .int .i64 k', .int .i64 m', .string t', .bool bb', .int .i64 er', .slice a1' l1' c1', .slice a2' l2' c2'] 37))) := hid (((Q.refl w).alloc _).alloc _)
    rw [show ([.bool f, .int .i64 vk, .int .i64 vn, .string vt, .bool vb, .int .i64 ve, .int .i64 k, .int .i64 m, .string t, .bool bb, .int .i64 er, .slice a1 l1 c1, .slice a2 l2 c2] : List Value).toArray = #[.bool f, .int .i64 vk, .int .i64 vn, .string vt, .bool vb, .int .i64 ve, .int .i64 k, .int .i64 m, .string t, .bool bb, .int .i64 er, .slice a1 l1 c1, .slice a2 l2 c2] from rfl] at Z1
    rw [show ([.bool f', .int .i64 vk', .int .i64 vn', .string vt', .bool vb', .int .i64 ve', .int .i64 k', .int .i64 m', .string t', .bool bb', .int .i64 er', .slice a1' l1' c1', .slice a2' l2' c2'] : List Value).toArray = #[.bool f', .int .i64 vk', .int .i64 vn', .string vt', .bool vb', .int .i64 ve', .int .i64 k', .int .i64 m', .string t', .bool bb', .int .i64 er', .slice a1' l1' c1', .slice a2' l2' c2'] from rfl, show (w.alloc (.cells #[.bool f, .int .i64 vk, .int .i64 vn, .string vt, .bool vb, .int .i64 ve, .int .i64 k, .int .i64 m, .string t, .bool bb, .int .i64 er, .slice a1 l1 c1, .slice a2 l2 c2] 37)).heap.size = w.heap.size + 1 by simp] at Z2
    generalize ((w.alloc (.cells #[.bool f, .int .i64 vk, .int .i64 vn, .string vt, .bool vb, .int .i64 ve, .int .i64 k, .int .i64 m, .string t, .bool bb, .int .i64 er, .slice a1 l1 c1, .slice a2 l2 c2] 37)).alloc (.cells #[.bool f', .int .i64 vk', .int .i64 vn', .string vt', .bool vb', .int .i64 ve', .int .i64 k', .int .i64 m', .string t', .bool bb', .int .i64 er', .slice a1' l1' c1', .slice a2' l2' c2'] 37)) = w2 at Z1 Z2 QA ⊢
    generalize w.heap.size + 1 = b1 at Z2 ⊢
    generalize w.heap.size = b0 at Z1 ⊢
    have d0 := Z1.out.c 0 _ rfl
    have d1 := Z1.out.c 1 _ rfl
    have d2 := Z1.out.c 2 _ rfl
    have d3 := Z1.out.c 3 _ rfl
    have d4 := Z1.out.c 4 _ rfl
    have d5 := Z1.out.c 5 _ rfl
    have d6 := Z1.out.c 6 _ rfl
    have d7 := Z1.out.c 7 _ rfl
    have d8 := Z1.out.c 8 _ rfl
    have d9 := Z1.out.c 9 _ rfl
    have d10 := Z1.out.c 10 _ rfl
    have d11 := Z1.out.c 11 _ rfl
    have d12 := Z1.out.c 12 _ rfl
    have n0 := Z2.out.c 0 _ rfl
    have n1 := Z2.out.c 1 _ rfl
    have n2 := Z2.out.c 2 _ rfl
    have n3 := Z2.out.c 3 _ rfl
    have n4 := Z2.out.c 4 _ rfl
    have n5 := Z2.out.c 5 _ rfl
    have n6 := Z2.out.c 6 _ rfl
    have n7 := Z2.out.c 7 _ rfl
    have n8 := Z2.out.c 8 _ rfl
    have n9 := Z2.out.c 9 _ rfl
    have n10 := Z2.out.c 10 _ rfl
    have n11 := Z2.out.c 11 _ rfl
    have n12 := Z2.out.c 12 _ rfl
    go_wp2_with fail
    go_ret
    exact ⟨ret_bool HB.out.symm, QA.out⟩
structure Rv where
  (k : Int)
  (sh : ByteArray)
  (row : Int)
  (col : Int)
  (f : Bool)
  (vk : Int)
  (vn : Int)
  (vt : ByteArray)
  (vb : Bool)
  (ve : Int)
  (tk : Int)
  (tm : Int)
  (tt : ByteArray)
  (tb : Bool)
  (te : Int)
  (a1 : Option Addr)
  (l1 : Nat)
  (c1 : Nat)
  (a2 : Option Addr)
  (l2 : Nat)
  (c2 : Nat)
  (lk : Int)
  (la : Int)
  (lt : Int)
  (ra : Option Addr)
  (rl : Nat)
  (rc : Nat)
  (fm : Int)
  (nm : ByteArray)
def Rv.L (x : Rv) : List Value := [.int .i64 x.k, .string x.sh, .int .i64 x.row, .int .i64 x.col, .bool x.f, .int .i64 x.vk, .int .i64 x.vn, .string x.vt, .bool x.vb, .int .i64 x.ve, .int .i64 x.tk, .int .i64 x.tm, .string x.tt, .bool x.tb, .int .i64 x.te, .slice x.a1 x.l1 x.c1, .slice x.a2 x.l2 x.c2, .int .i64 x.lk, .int .i64 x.la, .int .i64 x.lt, .slice x.ra x.rl x.rc, .int .i64 x.fm, .string x.nm]
def Rv.v (x : Rv) : Value := .agg #[.int .i64 x.k, .string x.sh, .int .i64 x.row, .int .i64 x.col, .bool x.f, .int .i64 x.vk, .int .i64 x.vn, .string x.vt, .bool x.vb, .int .i64 x.ve, .int .i64 x.tk, .int .i64 x.tm, .string x.tt, .bool x.tb, .int .i64 x.te, .slice x.a1 x.l1 x.c1, .slice x.a2 x.l2 x.c2, .int .i64 x.lk, .int .i64 x.la, .int .i64 x.lt, .slice x.ra x.rl x.rc, .int .i64 x.fm, .string x.nm]
structure RO (W : World) (x : Rv) (X : Ex) (L : List R.Rg.Rc) : Prop where
  t : Rd W X (.agg #[.int .i64 x.tk, .int .i64 x.tm, .string x.tt, .bool x.tb, .int .i64 x.te, .slice x.a1 x.l1 x.c1, .slice x.a2 x.l2 x.c2])
  r : R.Sl R.rc 4 W (.slice x.ra x.rl x.rc) L
def vE (x y : Rv) : Prop := x.vk = y.vk ∧ x.vn = y.vn ∧ x.vt.data.toList = y.vt.data.toList ∧ x.vb = y.vb ∧ x.ve = y.ve
def oE (x y : Rv) (X Y : Ex) (L M : List R.Rg.Rc) : Prop := x.k = y.k ∧ x.sh.data.toList = y.sh.data.toList ∧ x.row = y.row ∧ x.col = y.col ∧ (x.lk = y.lk ∧ x.la = y.la ∧ x.lt = y.lt) ∧ x.fm = y.fm ∧ x.nm.data.toList = y.nm.data.toList ∧ L = M ∧ (x.f = y.f ∧ vE x y ∧ X = Y)
theorem oe_split (x y : Rv) (X Y : Ex) (L M : List R.Rg.Rc) (b : Bool) (hb : b = true ↔ oE x y X Y L M) : ∃ (cb : Bool), (cb = true ↔ (x.f = y.f ∧ vE x y ∧ X = Y)) ∧ b = (decide (x.k = y.k) && (decide (x.sh.data.toList = y.sh.data.toList) && (decide (x.row = y.row) && (decide (x.col = y.col) && (decide (x.lk = y.lk ∧ x.la = y.la ∧ x.lt = y.lt) && (decide (x.fm = y.fm) && (decide (x.nm.data.toList = y.nm.data.toList) && (R.eqRc L M && cb)))))))) := by
  obtain ⟨cb, hc⟩ : ∃ cb : Bool, (cb = true ↔ (x.f = y.f ∧ vE x y ∧ X = Y)) := by
    by_cases h : (x.f = y.f ∧ vE x y ∧ X = Y)
    · exact ⟨true, fun _ => h, fun _ => rfl⟩
    · exact ⟨false, fun e => absurd e Bool.false_ne_true, fun e => absurd e h⟩
  refine ⟨cb, hc, ?_⟩
  rw [Bool.eq_iff_iff, hb]
  simp only [Bool.and_eq_true, decide_eq_true_eq, R.eqRc_iff, hc]
  rfl
theorem line_eq (a b c a' b' c' : Int) (w : World) : (binOp .eql 28 (.agg #[.int .i64 a, .int .i64 b, .int .i64 c]) (.agg #[.int .i64 a', .int .i64 b', .int .i64 c'])).run Tryz.prog w = .ok (.bool (decide (a = a' ∧ b = b' ∧ c = c'))) w := by
  have u2 := Tryz.underlying2
  have u3 := Tryz.underlying3
  have hS : Tryz.prog.underlying 28 = some (.struct (Tryz.prog.fieldsOf 28)) := by kernel_rfl
  have hp : Tryz.prog.stoodInHeld 28 = false := by kernel_rfl
  rw [run_eql_struct, show (10000 : Nat) = 9999 + 1 from rfl, run_equalIn_agg w 9999 28 _ _ hS hp]
  simp only [Program.fieldsOf, Tryz.underlying28]
  go_simp
  by_cases h1 : a = a' <;> by_cases h2 : b = b' <;> by_cases h3 : c = c' <;> simp [h1, h2, h3]
set_option maxHeartbeats 8000000 in
theorem opeq_any (x y : Rv) (X Y : Ex) (L M : List R.Rg.Rc) (b : Bool) (w : World) (hx : RO w x X L) (hy : RO w y Y M) (hn : nodes X ≤ 1000) (hL : L.length ≤ 1000000000000) (hM : M.length ≤ 1000000000000) (hb : b = true ↔ oE x y X Y L M) : Calls Tryz.prog 35 #[x.v, y.v] w fun e W' => e = .returned (.bool b) ∧ Q w W' := by
  obtain ⟨cb, hcb, hbb⟩ := oe_split x y X Y L M b hb
  clear hb
  have hxt := hx.t
  have hxr := hx.r
  have hyt := hy.t
  have hyr := hy.r
  clear hx hy
  obtain ⟨k, sh, row, col, f, vk, vn, vt, vb, ve, tk, tm, tt, tb, te, a1, l1, c1, a2, l2, c2, lk, la, lt, ra, rl, rc, fm, nm⟩ := x
  obtain ⟨k', sh', row', col', f', vk', vn', vt', vb', ve', tk', tm', tt', tb', te', a1', l1', c1', a2', l2', c2', lk', la', lt', ra', rl', rc', fm', nm'⟩ := y
  unfold Rv.v
  unfold vE at hcb
  dsimp only at *
  have HC := hid (fun W' (q : Q w W') => samecell_any f vk vn vt vb ve tk tm tt tb te a1 l1 c1 a2 l2 c2 f' vk' vn' vt' vb' ve' tk' tm' tt' tb' te' a1' l1' c1' a2' l2' c2' X Y cb W' (Rd.on q _ _ hxt) (Rd.on q _ _ hyt) hn hcb)
  have HR := hid (fun W' (q : Q w W') => R.eqR_any _ _ L M W' (hxr.on q) (hyr.on q) hL hM)
  generalize R.eqRc L M = rb at HR hbb
  clear hxt hxr hyt hyr hcb hL hM hn
  have HBB := hid hbb
  clear hbb
  go_enter Tryz.func35, Tryz.ntmps35
  go_upto_region 1 with fail
  have Z1 := hid ((cb_new w [.int .i64 k, .string sh, .int .i64 row, .int .i64 col, .bool f, .int .i64 vk, .int .i64 vn, .string vt, .bool vb, .int .i64 ve, .int .i64 tk, .int .i64 tm, .string tt, .bool tb, .int .i64 te, .slice a1 l1 c1, .slice a2 l2 c2, .int .i64 lk, .int .i64 la, .int .i64 lt, .slice ra rl rc, .int .i64 fm, .string nm] 40).on ((Q.refl _).alloc (.cells #[.int .i64 k', .string sh', .int .i64 row', .int .i64 col', .bool f', .int .i64 vk', .int .i64 vn', .string vt', .bool vb', .int .i64 ve', .int .i64 tk', .int .i64 tm', .string tt', .bool tb', .int .i64 te', .slice a1' l1' c1', .slice a2' l2' c2', .int .i64 lk', .int .i64 la', .int .i64 lt', .slice ra' rl' rc', .int .i64 fm', .string nm'] 40)))
  have Z2 := hid (cb_new (w.alloc (.cells #[.int .i64 k, .string sh, .int .i64 row, .int .i64 col, .bool f, .int .i64 vk, .int .i64 vn, .string vt, .bool vb, .int .i64 ve, .int .i64 tk, .int .i64 tm, .string tt, .bool tb, .int .i64 te, .slice a1 l1 c1, .slice a2 l2 c2, .int .i64 lk, .int .i64 la, .int .i64 lt, .slice ra rl rc, .int .i64 fm, .string nm] 40)) [.int .i64 k', .string sh', .int .i64 row', .int .i64 col', .bool f', .int .i64 vk', .int .i64 vn', .string vt', .bool vb', .int .i64 ve', .int .i64 tk', .int .i64 tm', .string tt', .bool tb', .int .i64 te', .slice a1' l1' c1', .slice a2' l2' c2', .int .i64 lk', .int .i64 la', .int .i64 lt', .slice ra' rl' rc', .int .i64 fm', .string nm'] 40)
  have QA : Hid (Q w ((w.alloc (.cells #[.int .i64 k, .string sh, .int .i64 row, .int .i64 col, .bool f, .int .i64 vk, .int .i64 vn, .string vt, .bool vb, .int .i64 ve, .int .i64 tk, .int .i64 tm, .string tt, .bool tb, .int .i64 te, .slice a1 l1 c1, .slice a2 l2 c2, .int .i64 lk, .int .i64 la, .int .i64 lt, .slice ra rl rc, .int .i64 fm, .string nm] 40)).alloc (.cells #[.int .i64 k', .string sh', .int .i64 row', .int .i64 col', .bool f', .int .i64 vk', .int .i64 vn', .string vt', .bool vb', .int .i64 ve', .int .i64 tk', .int .i64 tm', .string tt', .bool tb', .int .i64 te', .slice a1' l1' c1', .slice a2' l2' c2', .int .i64 lk', .int .i64 la', .int .i64 lt', .slice ra' rl' rc', .int .i64 fm', .string nm'] 40))) := hid (((Q.refl w).alloc _).alloc _)
  rw [show ([.int .i64 k, .string sh, .int .i64 row, .int .i64 col, .bool f, .int .i64 vk, .int .i64 vn, .string vt, .bool vb, .int .i64 ve, .int .i64 tk, .int .i64 tm, .string tt, .bool tb, .int .i64 te, .slice a1 l1 c1, .slice a2 l2 c2, .int .i64 lk, .int .i64 la, .int .i64 lt, .slice ra rl rc, .int .i64 fm, .string nm] : List Value).toArray = #[.int .i64 k, .string sh, .int .i64 row, .int .i64 col, .bool f, .int .i64 vk, .int .i64 vn, .string vt, .bool vb, .int .i64 ve, .int .i64 tk, .int .i64 tm, .string tt, .bool tb, .int .i64 te, .slice a1 l1 c1, .slice a2 l2 c2, .int .i64 lk, .int .i64 la, .int .i64 lt, .slice ra rl rc, .int .i64 fm, .string nm] from rfl] at Z1
  rw [show ([.int .i64 k', .string sh', .int .i64 row', .int .i64 col', .bool f', .int .i64 vk', .int .i64 vn', .string vt', .bool vb', .int .i64 ve', .int .i64 tk', .int .i64 tm', .string tt', .bool tb', .int .i64 te', .slice a1' l1' c1', .slice a2' l2' c2', .int .i64 lk', .int .i64 la', .int .i64 lt', .slice ra' rl' rc', .int .i64 fm', .string nm'] : List Value).toArray = #[.int .i64 k', .string sh', .int .i64 row', .int .i64 col', .bool f', .int .i64 vk', .int .i64 vn', .string vt', .bool vb', .int .i64 ve', .int .i64 tk', .int .i64 tm', .string tt', .bool tb', .int .i64 te', .slice a1' l1' c1', .slice a2' l2' c2', .int .i64 lk', .int .i64 la', .int .i64 lt', .slice ra' rl' rc', .int .i64 fm', .string nm'] from rfl, show (w.alloc (.cells #[.int .i64 k, .string sh, .int .i64 row, .int .i64 col, .bool f, .int .i64 vk, .int .i64 vn, .string vt, .bool vb, .int .i64 ve, .int .i64 tk, .int .i64 tm, .string tt, .bool tb, .int .i64 te, .slice a1 l1 c1, .slice a2 l2 c2, .int .i64 lk, .int .i64 la, .int .i64 lt, .slice ra rl rc, .int .i64 fm, .string nm] 40)).heap.size = w.heap.size + 1 by simp] at Z2
  generalize ((w.alloc (.cells #[.int .i64 k, .string sh, .int .i64 row, .int .i64 col, .bool f, .int .i64 vk, .int .i64 vn, .string vt, .bool vb, .int .i64 ve, .int .i64 tk, .int .i64 tm, .string tt, .bool tb, .int .i64 te, .slice a1 l1 c1, .slice a2 l2 c2, .int .i64 lk, .int .i64 la, .int .i64 lt, .slice ra rl rc, .int .i64 fm, .string nm] 40)).alloc (.cells #[.int .i64 k', .string sh', .int .i64 row', .int .i64 col', .bool f', .int .i64 vk', .int .i64 vn', .string vt', .bool vb', .int .i64 ve', .int .i64 tk', .int .i64 tm', .string tt', .bool tb', .int .i64 te', .slice a1' l1' c1', .slice a2' l2' c2', .int .i64 lk', .int .i64 la', .int .i64 lt', .slice ra' rl' rc', .int .i64 fm', .string nm'] 40)) = w2 at Z1 Z2 QA ⊢
  generalize w.heap.size + 1 = b1 at Z2 ⊢
  generalize w.heap.size = b0 at Z1 ⊢
  have d0 := Z1.out.c 0 _ rfl
  have d1 := Z1.out.c 1 _ rfl
  have d2 := Z1.out.c 2 _ rfl
  have d3 := Z1.out.c 3 _ rfl
  have d4 := Z1.out.c 4 _ rfl
  have d5 := Z1.out.c 5 _ rfl
  have d6 := Z1.out.c 6 _ rfl
  have d7 := Z1.out.c 7 _ rfl
  have d8 := Z1.out.c 8 _ rfl
  have d9 := Z1.out.c 9 _ rfl
  have d10 := Z1.out.c 10 _ rfl
  have d11 := Z1.out.c 11 _ rfl
  have d12 := Z1.out.c 12 _ rfl
  have d13 := Z1.out.c 13 _ rfl
  have d14 := Z1.out.c 14 _ rfl
  have d15 := Z1.out.c 15 _ rfl
  have d16 := Z1.out.c 16 _ rfl
  have d17 := Z1.out.c 17 _ rfl
  have d18 := Z1.out.c 18 _ rfl
  have d19 := Z1.out.c 19 _ rfl
  have d20 := Z1.out.c 20 _ rfl
  have d21 := Z1.out.c 21 _ rfl
  have d22 := Z1.out.c 22 _ rfl
  have n0 := Z2.out.c 0 _ rfl
  have n1 := Z2.out.c 1 _ rfl
  have n2 := Z2.out.c 2 _ rfl
  have n3 := Z2.out.c 3 _ rfl
  have n4 := Z2.out.c 4 _ rfl
  have n5 := Z2.out.c 5 _ rfl
  have n6 := Z2.out.c 6 _ rfl
  have n7 := Z2.out.c 7 _ rfl
  have n8 := Z2.out.c 8 _ rfl
  have n9 := Z2.out.c 9 _ rfl
  have n10 := Z2.out.c 10 _ rfl
  have n11 := Z2.out.c 11 _ rfl
  have n12 := Z2.out.c 12 _ rfl
  have n13 := Z2.out.c 13 _ rfl
  have n14 := Z2.out.c 14 _ rfl
  have n15 := Z2.out.c 15 _ rfl
  have n16 := Z2.out.c 16 _ rfl
  have n17 := Z2.out.c 17 _ rfl
  have n18 := Z2.out.c 18 _ rfl
  have n19 := Z2.out.c 19 _ rfl
  have n20 := Z2.out.c 20 _ rfl
  have n21 := Z2.out.c 21 _ rfl
  have n22 := Z2.out.c 22 _ rfl
  have hbb := HBB.out
  clear HBB
  by_cases h_k : k = k'
  · rw [decide_eq_true h_k, Bool.true_and] at hbb
    have e_k : (k == k') = true := by simpa using h_k
    clear h_k
    by_cases h_sh : sh.data.toList = sh'.data.toList
    · rw [decide_eq_true h_sh, Bool.true_and] at hbb
      have e_sh : (sh.toList == sh'.toList) = true := by rw [Lib.toList_data, Lib.toList_data]; simpa using h_sh
      clear h_sh
      by_cases h_row : row = row'
      · rw [decide_eq_true h_row, Bool.true_and] at hbb
        have e_row : (row == row') = true := by simpa using h_row
        clear h_row
        by_cases h_col : col = col'
        · rw [decide_eq_true h_col, Bool.true_and] at hbb
          have e_col : (col == col') = true := by simpa using h_col
          clear h_col
          by_cases h_ln : lk = lk' ∧ la = la' ∧ lt = lt'
          · rw [decide_eq_true h_ln, Bool.true_and] at hbb
            obtain ⟨rfl, rfl, rfl⟩ := h_ln
            have e_ln : ∀ W, (binOp .eql 28 (.agg #[.int .i64 lk, .int .i64 la, .int .i64 lt]) (.agg #[.int .i64 lk, .int .i64 la, .int .i64 lt])).run Tryz.prog W = .ok (.bool true) W := fun W => by rw [line_eq]; simp
            by_cases h_fm : fm = fm'
            · rw [decide_eq_true h_fm, Bool.true_and] at hbb
              have e_fm : (fm == fm') = true := by simpa using h_fm
              clear h_fm
              by_cases h_nm : nm.data.toList = nm'.data.toList
              · rw [decide_eq_true h_nm, Bool.true_and] at hbb
                have e_nm : (nm.toList == nm'.toList) = true := by rw [Lib.toList_data, Lib.toList_data]; simpa using h_nm
                clear h_nm
                cases rb with
                | true =>
                  simp only [Bool.true_and, Bool.and_true] at hbb
                  have HB : Hid (b = cb) := hid (by rw [hbb])
                  clear hbb
                  go_wp2_with (first | (go_at_call 49; refine (HR.out _ QA.out).mono ?_; rintro e9 w10 ⟨rfl, q9⟩; have Q10 : Hid (Q w w10) := hid (QA.out.trans q9); have Z10 := hid (Z1.out.on q9); have Z20 := hid (Z2.out.on q9); clear q9; have p0_0 := Z10.out.c 0 _ rfl; have o0_0 := Z20.out.c 0 _ rfl; have p0_1 := Z10.out.c 1 _ rfl; have o0_1 := Z20.out.c 1 _ rfl; have p0_2 := Z10.out.c 2 _ rfl; have o0_2 := Z20.out.c 2 _ rfl; have p0_3 := Z10.out.c 3 _ rfl; have o0_3 := Z20.out.c 3 _ rfl; have p0_4 := Z10.out.c 4 _ rfl; have o0_4 := Z20.out.c 4 _ rfl; have p0_5 := Z10.out.c 5 _ rfl; have o0_5 := Z20.out.c 5 _ rfl; have p0_6 := Z10.out.c 6 _ rfl; have o0_6 := Z20.out.c 6 _ rfl; have p0_7 := Z10.out.c 7 _ rfl; have o0_7 := Z20.out.c 7 _ rfl; have p0_8 := Z10.out.c 8 _ rfl; have o0_8 := Z20.out.c 8 _ rfl; have p0_9 := Z10.out.c 9 _ rfl; have o0_9 := Z20.out.c 9 _ rfl; have p0_10 := Z10.out.c 10 _ rfl; have o0_10 := Z20.out.c 10 _ rfl; have p0_11 := Z10.out.c 11 _ rfl; have o0_11 := Z20.out.c 11 _ rfl; have p0_12 := Z10.out.c 12 _ rfl; have o0_12 := Z20.out.c 12 _ rfl; have p0_13 := Z10.out.c 13 _ rfl; have o0_13 := Z20.out.c 13 _ rfl; have p0_14 := Z10.out.c 14 _ rfl; have o0_14 := Z20.out.c 14 _ rfl; have p0_15 := Z10.out.c 15 _ rfl; have o0_15 := Z20.out.c 15 _ rfl; have p0_16 := Z10.out.c 16 _ rfl; have o0_16 := Z20.out.c 16 _ rfl; have p0_17 := Z10.out.c 17 _ rfl; have o0_17 := Z20.out.c 17 _ rfl; have p0_18 := Z10.out.c 18 _ rfl; have o0_18 := Z20.out.c 18 _ rfl; have p0_19 := Z10.out.c 19 _ rfl; have o0_19 := Z20.out.c 19 _ rfl; have p0_20 := Z10.out.c 20 _ rfl; have o0_20 := Z20.out.c 20 _ rfl; have p0_21 := Z10.out.c 21 _ rfl; have o0_21 := Z20.out.c 21 _ rfl; have p0_22 := Z10.out.c 22 _ rfl; have o0_22 := Z20.out.c 22 _ rfl) | (go_at_call 54; refine (HC.out _ Q10.out).mono ?_; rintro e9 w11 ⟨rfl, q9⟩; have Q11 : Hid (Q w w11) := hid (Q10.out.trans q9); have Z11 := hid (Z10.out.on q9); have Z21 := hid (Z20.out.on q9); clear q9))
                  go_ret
                  exact ⟨ret_bool HB.out.symm, Q11.out⟩
                | false =>
                  have HB : Hid (b = false) := hid (by rw [hbb]; simp)
                  clear hbb
                  go_wp2_with (first | (go_at_call 49; refine (HR.out _ QA.out).mono ?_; rintro e9 w10 ⟨rfl, q9⟩; have Q10 : Hid (Q w w10) := hid (QA.out.trans q9); have Z10 := hid (Z1.out.on q9); have Z20 := hid (Z2.out.on q9); clear q9; have p0_0 := Z10.out.c 0 _ rfl; have o0_0 := Z20.out.c 0 _ rfl; have p0_1 := Z10.out.c 1 _ rfl; have o0_1 := Z20.out.c 1 _ rfl; have p0_2 := Z10.out.c 2 _ rfl; have o0_2 := Z20.out.c 2 _ rfl; have p0_3 := Z10.out.c 3 _ rfl; have o0_3 := Z20.out.c 3 _ rfl; have p0_4 := Z10.out.c 4 _ rfl; have o0_4 := Z20.out.c 4 _ rfl; have p0_5 := Z10.out.c 5 _ rfl; have o0_5 := Z20.out.c 5 _ rfl; have p0_6 := Z10.out.c 6 _ rfl; have o0_6 := Z20.out.c 6 _ rfl; have p0_7 := Z10.out.c 7 _ rfl; have o0_7 := Z20.out.c 7 _ rfl; have p0_8 := Z10.out.c 8 _ rfl; have o0_8 := Z20.out.c 8 _ rfl; have p0_9 := Z10.out.c 9 _ rfl; have o0_9 := Z20.out.c 9 _ rfl; have p0_10 := Z10.out.c 10 _ rfl; have o0_10 := Z20.out.c 10 _ rfl; have p0_11 := Z10.out.c 11 _ rfl; have o0_11 := Z20.out.c 11 _ rfl; have p0_12 := Z10.out.c 12 _ rfl; have o0_12 := Z20.out.c 12 _ rfl; have p0_13 := Z10.out.c 13 _ rfl; have o0_13 := Z20.out.c 13 _ rfl; have p0_14 := Z10.out.c 14 _ rfl; have o0_14 := Z20.out.c 14 _ rfl; have p0_15 := Z10.out.c 15 _ rfl; have o0_15 := Z20.out.c 15 _ rfl; have p0_16 := Z10.out.c 16 _ rfl; have o0_16 := Z20.out.c 16 _ rfl; have p0_17 := Z10.out.c 17 _ rfl; have o0_17 := Z20.out.c 17 _ rfl; have p0_18 := Z10.out.c 18 _ rfl; have o0_18 := Z20.out.c 18 _ rfl; have p0_19 := Z10.out.c 19 _ rfl; have o0_19 := Z20.out.c 19 _ rfl; have p0_20 := Z10.out.c 20 _ rfl; have o0_20 := Z20.out.c 20 _ rfl; have p0_21 := Z10.out.c 21 _ rfl; have o0_21 := Z20.out.c 21 _ rfl; have p0_22 := Z10.out.c 22 _ rfl; have o0_22 := Z20.out.c 22 _ rfl))
                  go_ret
                  exact ⟨ret_bool HB.out.symm, Q10.out⟩
              · rw [decide_eq_false h_nm] at hbb
                have e_nm : (nm.toList == nm'.toList) = false := by rw [Lib.toList_data, Lib.toList_data]; simpa using h_nm
                clear h_nm
                have HB : Hid (b = false) := hid (by rw [hbb]; simp)
                clear hbb
                go_wp2_with fail
                go_ret
                exact ⟨ret_bool HB.out.symm, QA.out⟩
            · rw [decide_eq_false h_fm] at hbb
              have e_fm : (fm == fm') = false := by simpa using h_fm
              clear h_fm
              have HB : Hid (b = false) := hid (by rw [hbb]; simp)
              clear hbb
              go_wp2_with fail
              go_ret
              exact ⟨ret_bool HB.out.symm, QA.out⟩
          · rw [decide_eq_false h_ln] at hbb
            have e_ln : ∀ W, (binOp .eql 28 (.agg #[.int .i64 lk, .int .i64 la, .int .i64 lt]) (.agg #[.int .i64 lk', .int .i64 la', .int .i64 lt'])).run Tryz.prog W = .ok (.bool false) W := fun W => by rw [line_eq, decide_eq_false h_ln]
            clear h_ln
            have HB : Hid (b = false) := hid (by rw [hbb]; simp)
            clear hbb
            go_wp2_with fail
            go_ret
            exact ⟨ret_bool HB.out.symm, QA.out⟩
        · rw [decide_eq_false h_col] at hbb
          have e_col : (col == col') = false := by simpa using h_col
          clear h_col
          have HB : Hid (b = false) := hid (by rw [hbb]; simp)
          clear hbb
          go_wp2_with fail
          go_ret
          exact ⟨ret_bool HB.out.symm, QA.out⟩
      · rw [decide_eq_false h_row] at hbb
        have e_row : (row == row') = false := by simpa using h_row
        clear h_row
        have HB : Hid (b = false) := hid (by rw [hbb]; simp)
        clear hbb
        go_wp2_with fail
        go_ret
        exact ⟨ret_bool HB.out.symm, QA.out⟩
    · rw [decide_eq_false h_sh] at hbb
      have e_sh : (sh.toList == sh'.toList) = false := by rw [Lib.toList_data, Lib.toList_data]; simpa using h_sh
      clear h_sh
      have HB : Hid (b = false) := hid (by rw [hbb]; simp)
      clear hbb
      go_wp2_with fail
      go_ret
      exact ⟨ret_bool HB.out.symm, QA.out⟩
  · rw [decide_eq_false h_k] at hbb
    have e_k : (k == k') = false := by simpa using h_k
    clear h_k
    have HB : Hid (b = false) := hid (by rw [hbb]; simp)
    clear hbb
    go_wp2_with fail
    go_ret
    exact ⟨ret_bool HB.out.symm, QA.out⟩
def so (k : Int) (sh : ByteArray) (r c lk la lt : Int) : Rv := ⟨k, sh, r, c, false, 0, 0, ⟨#[]⟩, false, 0, 0, 0, ⟨#[]⟩, false, 0, none, 0, 0, none, 0, 0, lk, la, lt, none, 0, 0, 0, ⟨#[]⟩⟩
theorem so_eq (k : Int) (sh : ByteArray) (V : World) : Calls Tryz.prog 35 #[(so k sh 0 0 0 0 0).v, (so k sh 0 0 0 0 0).v] V fun e V' => e = .returned (.bool true) ∧ Q V V' :=
  opeq_any (so k sh 0 0 0 0 0) (so k sh 0 0 0 0 0) zeroE zeroE [] [] true V ⟨rd_zero V, R.sl_nil V⟩ ⟨rd_zero V, R.sl_nil V⟩ (by decide) (by decide) (by decide) ⟨fun _ => ⟨rfl, rfl, rfl, rfl, ⟨rfl, rfl, rfl⟩, rfl, rfl, rfl, rfl, ⟨rfl, rfl, rfl, rfl, rfl⟩, rfl⟩, fun _ => rfl⟩
theorem may_set (sh : ByteArray) (r c : Int) (w : World) (hg : Gd w) (hs : sh.size < 4294967281) : Calls Tryz.prog 22 #[(so 1 sh r c 0 0 0).v] w fun e V' => e = .returned (.bool (lnB r && (lnB c && true) && (idB sh.data.toList && true))) ∧ Q w V' := by
  have HE := hid (fun V (q : Q w V) => so_eq 1 sh V)
  unfold Rv.v so at HE ⊢
  exact om1 1 sh (.int .i64 r) (.int .i64 c) (.bool false) (.int .i64 0) (.int .i64 0) (.string ⟨#[]⟩) (.bool false) (.int .i64 0) (.int .i64 0) (.int .i64 0) (.string ⟨#[]⟩) (.bool false) (.int .i64 0) (.slice none 0 0) (.slice none 0 0) (.int .i64 0) (.int .i64 0) (.int .i64 0) (.slice none 0 0) (.int .i64 0) (.string ⟨#[]⟩) w (lnB r) (lnB c) true (idB sh.data.toList) true (by decide) (hid (by kernel_rfl)) (hid (fun V q => (mayLine_any' r V).mono fun e V' h => ⟨h.1, h.2 ▸ Q.refl _⟩)) (hid (fun V q => (mayLine_any' c V).mono fun e V' h => ⟨h.1, h.2 ▸ Q.refl _⟩)) (hid (fun V q => smay_val 0 0 ⟨#[]⟩ false 0 0 0 ⟨#[]⟩ false 0 none 0 0 none 0 0 zeroE V (hg.on q) (by decide) (by decide) (rd_zero V))) (hid (fun V q => id_any sh V (hg.on q).1 hs)) HE
theorem l_may (lk la lt : Int) (V : World) : Calls Tryz.prog 30 #[.agg #[.int .i64 lk, .int .i64 la, .int .i64 lt]] V fun e V' => e = .returned (.bool (L.mayB lk la lt)) ∧ Q V V' :=
  (L.may_any lk la lt V).mono fun e V' h => ⟨h.1, h.2 ▸ (Q.refl _).alloc _⟩
theorem may_row (sh : ByteArray) (lk la lt : Int) (w : World) (hg : Gd w) (hs : sh.size < 4294967281) : Calls Tryz.prog 22 #[(so 2 sh 0 0 lk la lt).v] w fun e V' => e = .returned (.bool (L.mayB lk la lt && (idB sh.data.toList && true))) ∧ Q w V' := by
  have HE := hid (fun V (q : Q w V) => so_eq 2 sh V)
  unfold Rv.v so at HE ⊢
  exact om2 2 sh (.int .i64 0) (.int .i64 0) (.bool false) (.int .i64 0) (.int .i64 0) (.string ⟨#[]⟩) (.bool false) (.int .i64 0) (.int .i64 0) (.int .i64 0) (.string ⟨#[]⟩) (.bool false) (.int .i64 0) (.slice none 0 0) (.slice none 0 0) (.int .i64 lk) (.int .i64 la) (.int .i64 lt) (.slice none 0 0) (.int .i64 0) (.string ⟨#[]⟩) w (L.mayB lk la lt) (idB sh.data.toList) true (by decide) (by decide) (hid (by kernel_rfl)) (hid (fun V q => l_may lk la lt V)) (hid (fun V q => id_any sh V (hg.on q).1 hs)) HE
theorem may_col (sh : ByteArray) (lk la lt : Int) (w : World) (hg : Gd w) (hs : sh.size < 4294967281) : Calls Tryz.prog 22 #[(so 3 sh 0 0 lk la lt).v] w fun e V' => e = .returned (.bool (L.mayB lk la lt && (idB sh.data.toList && true))) ∧ Q w V' := by
  have HE := hid (fun V (q : Q w V) => so_eq 3 sh V)
  unfold Rv.v so at HE ⊢
  exact om3 3 sh (.int .i64 0) (.int .i64 0) (.bool false) (.int .i64 0) (.int .i64 0) (.string ⟨#[]⟩) (.bool false) (.int .i64 0) (.int .i64 0) (.int .i64 0) (.string ⟨#[]⟩) (.bool false) (.int .i64 0) (.slice none 0 0) (.slice none 0 0) (.int .i64 lk) (.int .i64 la) (.int .i64 lt) (.slice none 0 0) (.int .i64 0) (.string ⟨#[]⟩) w (L.mayB lk la lt) (idB sh.data.toList) true (by decide) (by decide) (by decide) (hid (by kernel_rfl)) (hid (fun V q => l_may lk la lt V)) (hid (fun V q => id_any sh V (hg.on q).1 hs)) HE
theorem may_rem (sh : ByteArray) (w : World) (hg : Gd w) (hs : sh.size < 4294967281) : Calls Tryz.prog 22 #[(so 7 sh 0 0 0 0 0).v] w fun e V' => e = .returned (.bool (idB sh.data.toList && true)) ∧ Q w V' := by
  have HE := hid (fun V (q : Q w V) => so_eq 7 sh V)
  unfold Rv.v so at HE ⊢
  exact om7 7 sh (.int .i64 0) (.int .i64 0) (.bool false) (.int .i64 0) (.int .i64 0) (.string ⟨#[]⟩) (.bool false) (.int .i64 0) (.int .i64 0) (.int .i64 0) (.string ⟨#[]⟩) (.bool false) (.int .i64 0) (.slice none 0 0) (.slice none 0 0) (.int .i64 0) (.int .i64 0) (.int .i64 0) (.slice none 0 0) (.int .i64 0) (.string ⟨#[]⟩) w (idB sh.data.toList) true (by decide) (by decide) (by decide) (by decide) (by decide) (by decide) (by decide) (hid (by kernel_rfl)) (hid (fun V q => id_any sh V (hg.on q).1 hs)) HE
theorem Rv.len (x : Rv) : x.L.length = 23 := rfl
theorem Rv.one (x : Rv) : x.L.toArray.all (·.oneCell') = true := by
  cases x
  unfold Rv.L
  kernel_rfl
theorem Rv.ones (x : Rv) : ∀ u ∈ x.L, u.oneCell' = true := fun u hu => Array.all_eq_true_iff_forall_mem.1 x.one u (by simpa using hu)
def zero23 : Array Value := #[.int .i64 0, .string ⟨#[]⟩, .int .i64 0, .int .i64 0, .bool false, .int .i64 0, .int .i64 0, .string ⟨#[]⟩, .bool false, .int .i64 0, .int .i64 0, .int .i64 0, .string ⟨#[]⟩, .bool false, .int .i64 0, .slice none 0 0, .slice none 0 0, .int .i64 0, .int .i64 0, .int .i64 0, .slice none 0 0, .int .i64 0, .string ⟨#[]⟩]
theorem wpl_lay (w : World) {ops : Array Oper} {rest : List Oper} {o : Oper} {a : Act} {Q : Exit → Act → World → Prop} (x y : Operand) (ho : o.op = .store 40 x y) (hgd : o.guard = none) (z : Rv)
    (hx : a.eval x = .pointer (some ⟨w.heap.size, 0, none⟩)) (hy : a.eval y = .agg z.L.toArray)
    {W : World} (hW : W = w.alloc (.cells zero23 40)) (h : wpList Tryz.prog ops Q rest (a.put o.dst undef) (w.alloc (.cells z.L.toArray 40))) : wpList Tryz.prog ops Q (o :: rest) a W := by
  subst hW
  refine wpList_store_row hgd 40 x y ho w.heap.size z.L.toArray hx hy 40 zero23 (heap_alloc_last w _) info35 rfl z.one ?_
  rw [World.setRow_alloc_new]
  exact h
structure Bk (W : World) (t : TypeId) (q : Nat) (cs : Array Value) : Prop where
  h : W.heap[q]? = some (.cells cs t (0, 0))
theorem Bk.c {W : World} {t : TypeId} {q : Nat} {cs : Array Value} (h : Bk W t q cs) (j : Nat) (u : Value) (hu : cs[j]? = some u) : W.cell? ⟨q, j, none⟩ = some u := by
  rw [cell_of_row W q j _ _ _ h.h]
  exact hu
theorem Bk.f {W : World} {t : TypeId} {q : Nat} {cs : Array Value} (h : Bk W t q cs) (j : Nat) : W.frozen? ⟨q, j, none⟩ = false := frozen_of_row W q j _ _ h.h
theorem Bk.l {W : World} {t : TypeId} {q : Nat} {cs : Array Value} (h : Bk W t q cs) : q < W.heap.size := (Array.getElem?_eq_some_iff.1 h.h).1
theorem Bk.on {W W' : World} {t : TypeId} {q : Nat} {cs : Array Value} (h : Bk W t q cs) (x : Q W W') : Bk W' t q cs := ⟨(Below.block x q h.l).trans h.h⟩
theorem bk_new (W : World) (t : TypeId) (cs : Array Value) : Bk (W.alloc (.cells cs t)) t W.heap.size cs := ⟨heap_alloc_last W _⟩
theorem Bk.put {W : World} {t : TypeId} {q : Nat} {cs : Array Value} (h : Bk W t q cs) (j : Nat) (d : Value) : Bk (W.setCell ⟨q, j, none⟩ d) t q (cs.setIfInBounds j d) := by
  refine ⟨?_⟩
  rw [setCell_eq_setRow W q j _ _ _ d h.h, setRow_heap W q _ _ _ _ h.h]
theorem Bk.oth {W : World} {t : TypeId} {q p : Nat} {cs : Array Value} (h : Bk W t q cs) (hp : q ≠ p) (j : Nat) (d : Value) : Bk (W.setCell ⟨p, j, none⟩ d) t q cs :=
  ⟨(heap_setCell_other W _ q d hp).trans h.h⟩
theorem Bk.row {W : World} {t : TypeId} {q : Nat} {cs : Array Value} (h : Bk W t q cs) (cs' : Array Value) : Bk (W.setRow q cs') t q cs' := ⟨setRow_heap W q _ _ _ _ h.h⟩
theorem Bk.orow {W : World} {t : TypeId} {q p : Nat} {cs : Array Value} (h : Bk W t q cs) (hp : q ≠ p) (cs' : Array Value) : Bk (W.setRow p cs') t q cs := ⟨(setRow_other W p q cs' hp).trans h.h⟩
theorem Q.row {a w : World} (h : Q a w) {g : Nat} (hg : a.heap.size ≤ g) (cs : Array Value) : Q a (w.setRow g cs) :=
  ⟨h.os, h.tape, h.output, by rw [setRow_size]; exact h.size, fun i hi => by rw [setRow_other _ _ _ _ (by omega)]; exact Below.block h i hi⟩
theorem results_cell2 {P : Program} {fn : Func} {p u : Tmp} {ty : TypeId} (h : fn.results = #[.cell p ty, .tmp u]) (tmps : Array Value) (w : World) (g : Nat) (t : TypeId) (cs : Array Value) (fr : Nat × Nat) (d : TypeDesc)
    (hp : tmps.getD p undef = .pointer (some ⟨g, 0, none⟩)) (hg : w.heap[g]? = some (.cells cs t fr))
    (hu : P.underlying ty = some d) (hd : (match d with | .struct _ | .array _ _ => true | _ => false) = true) (hi : (P.info? ty).map (·.size) = some cs.size) :
    (results fn tmps).run P w = .ok (.tuple #[.agg cs, tmps.getD u undef]) w := by
  have hp' : tmps[p]?.getD undef = .pointer (some ⟨g, 0, none⟩) := by simpa using hp
  simp [results, h, hp', asAddr, run_loadVar_row w g t ty cs fr d hg hu hd hi]
theorem results_cell3 {P : Program} {fn : Func} {p u v : Tmp} {ty : TypeId} (h : fn.results = #[.cell p ty, .tmp u, .tmp v]) (tmps : Array Value) (w : World) (g : Nat) (t : TypeId) (cs : Array Value) (fr : Nat × Nat) (d : TypeDesc)
    (hp : tmps.getD p undef = .pointer (some ⟨g, 0, none⟩)) (hg : w.heap[g]? = some (.cells cs t fr))
    (hu : P.underlying ty = some d) (hd : (match d with | .struct _ | .array _ _ => true | _ => false) = true) (hi : (P.info? ty).map (·.size) = some cs.size) :
    (results fn tmps).run P w = .ok (.tuple #[.agg cs, tmps.getD u undef, tmps.getD v undef]) w := by
  have hp' : tmps[p]?.getD undef = .pointer (some ⟨g, 0, none⟩) := by simpa using hp
  simp [results, h, hp', asAddr, run_loadVar_row w g t ty cs fr d hg hu hd hi]
def aL (x : Rv) : List Value := x.L ++ [.bool true]
theorem aL_len (x : Rv) : (aL x).length = 24 := rfl
theorem aL_get {x : Rv} {j : Nat} {u : Value} (h : x.L[j]? = some u) : (aL x).toArray[j]? = some u := by
  have hj := (List.getElem?_eq_some_iff.1 h).1
  rw [List.getElem?_toArray]
  unfold aL
  rw [List.getElem?_append_left hj]
  exact h
theorem aL_one (x : Rv) : (aL x).toArray.all (·.oneCell') = true := by
  cases x
  unfold aL Rv.L
  kernel_rfl
theorem aL_ones (x : Rv) : ∀ u ∈ aL x, u.oneCell' = true := fun u hu => Array.all_eq_true_iff_forall_mem.1 (aL_one x) u (by simpa using hu)
def zero24 : Array Value := #[.int .i64 0, .string ⟨#[]⟩, .int .i64 0, .int .i64 0, .bool false, .int .i64 0, .int .i64 0, .string ⟨#[]⟩, .bool false, .int .i64 0, .int .i64 0, .int .i64 0, .string ⟨#[]⟩, .bool false, .int .i64 0, .slice none 0 0, .slice none 0 0, .int .i64 0, .int .i64 0, .int .i64 0, .slice none 0 0, .int .i64 0, .string ⟨#[]⟩, .bool false]
theorem info40 : (Tryz.prog.info? 40).map (·.size) = some 23 := by kernel_rfl
theorem info57 : (Tryz.prog.info? 57).map (·.size) = some 24 := by kernel_rfl
theorem info57y : (Tryz.prog.info? 57).map (fun i => (i.zero, i.size, i.bytes)) = some (some (.agg zero24), 24, 272) := by kernel_rfl
theorem Rv.v_eq (x : Rv) : x.v = .agg x.L.toArray := rfl
theorem info57z : (Tryz.prog.info? 57).map (·.zero) = some (some (.agg zero24)) := by kernel_rfl
structure T3 (w w3 : World) (t1 t2 t3 : TypeId) (A B C : Array Value) (b3 b4 b6 : Nat) : Prop where
  a : Bk w3 t1 b3 A
  b : Bk w3 t2 b4 B
  r : Bk w3 t3 b6 C
  n1 : b3 ≠ b6
  n2 : b4 ≠ b6
  n3 : b3 ≠ b4
  l : w.heap.size ≤ b3
  lb : w.heap.size ≤ b4
  l6 : w.heap.size ≤ b6
  q : Q w w3
theorem t3_new (w : World) (t1 t2 t3 : TypeId) (A B C : Array Value) : T3 w (((w.alloc (.cells A t1)).alloc (.cells B t2)).alloc (.cells C t3)) t1 t2 t3 A B C w.heap.size (w.heap.size + 1) (w.heap.size + 1 + 1) := by
  have h2 := bk_new (w.alloc (.cells A t1)) t2 B
  have h3 := bk_new ((w.alloc (.cells A t1)).alloc (.cells B t2)) t3 C
  rw [show (w.alloc (.cells A t1)).heap.size = w.heap.size + 1 by simp] at h2
  rw [show ((w.alloc (.cells A t1)).alloc (.cells B t2)).heap.size = w.heap.size + 1 + 1 by simp] at h3
  exact ⟨(bk_new w t1 A).on (((Q.refl _).alloc _).alloc _), h2.on ((Q.refl _).alloc _), h3, by omega, by omega, by omega, Nat.le_refl _, by omega, by omega, (((Q.refl w).alloc _).alloc _).alloc _⟩
theorem T3.on {w w3 w4 : World} {t1 t2 t3 : TypeId} {A B C : Array Value} {b3 b4 b6 : Nat} (h : T3 w w3 t1 t2 t3 A B C b3 b4 b6) (q : Q w3 w4) : T3 w w4 t1 t2 t3 A B C b3 b4 b6 :=
  ⟨h.a.on q, h.b.on q, h.r.on q, h.n1, h.n2, h.n3, h.l, h.lb, h.l6, h.q.trans q⟩
structure T2 (w w3 : World) (t1 t3 : TypeId) (A C : Array Value) (b3 b6 : Nat) : Prop where
  a : Bk w3 t1 b3 A
  r : Bk w3 t3 b6 C
  n1 : b3 ≠ b6
  l : w.heap.size ≤ b3
  l6 : w.heap.size ≤ b6
  q : Q w w3
theorem t2_new (w : World) (t1 t3 : TypeId) (A C : Array Value) : T2 w ((w.alloc (.cells A t1)).alloc (.cells C t3)) t1 t3 A C w.heap.size (w.heap.size + 1) := by
  have h2 := bk_new (w.alloc (.cells A t1)) t3 C
  rw [show (w.alloc (.cells A t1)).heap.size = w.heap.size + 1 by simp] at h2
  exact ⟨(bk_new w t1 A).on ((Q.refl _).alloc _), h2, by omega, Nat.le_refl _, by omega, ((Q.refl w).alloc _).alloc _⟩
theorem T2.on {w w3 w4 : World} {t1 t3 : TypeId} {A C : Array Value} {b3 b6 : Nat} (h : T2 w w3 t1 t3 A C b3 b6) (q : Q w3 w4) : T2 w w4 t1 t3 A C b3 b6 :=
  ⟨h.a.on q, h.r.on q, h.n1, h.l, h.l6, h.q.trans q⟩
def z7a : Array Value := #[.int .i64 0, .int .i64 0, .string ⟨#[]⟩, .bool false, .int .i64 0, .slice none 0 0, .slice none 0 0]
set_option maxHeartbeats 1000000 in
theorem count_z (m : Int) (w : World) : Calls Tryz.prog 103 #[.agg z7a, .int .i64 m] w fun e V' => e = .returned (.int .i64 1) ∧ Q w V' := by
  unfold z7a
  go_enter Tryz.func103, Tryz.ntmps103
  go_wp2
  go_loopw [11, 5] (fun s t W => s = .int .i64 0 ∧ t = .int .i64 1 ∧ Hid (Q w W)) (fun _ _ _ => 0)
  case atStart => exact ⟨rfl, rfl, hid ((Q.refl _).alloc _)⟩
  case round =>
    obtain ⟨rfl, rfl, hq⟩ := hrel
    go_wp2_with fail
    go_ret
    exact ⟨rfl, hq.out⟩
theorem pcount_z (w : World) : Calls Tryz.prog 86 #[.agg z7a] w fun e V' => e = .returned (.int .i64 1) ∧ Q w V' := by
  have HC := hid (fun m V => count_z m V)
  unfold z7a at HC ⊢
  go_enter Tryz.func86, Tryz.ntmps86
  go_wp2_with (go_at_call 103; refine (HC.out _ _).mono ?_; rintro e w1 ⟨rfl, q1⟩; have Q1 := hid q1; clear q1)
  go_ret
  exact ⟨rfl, ((Q.refl _).alloc _).trans Q1.out⟩
set_option maxHeartbeats 1000000 in
theorem shallow_z (w : World) : Calls Tryz.prog 92 #[.agg z7a, .int .i64 50] w fun e V' => e = .returned (.bool true) ∧ Q w V' := by
  unfold z7a
  go_enter Tryz.func92, Tryz.ntmps92
  go_wp2
  go_loopw [12, 4] (fun s t W => s = .int .i64 0 ∧ t = .bool false ∧ Hid (Q w W)) (fun _ _ _ => 0)
  case atStart => exact ⟨rfl, rfl, hid ((Q.refl _).alloc _)⟩
  case round =>
    obtain ⟨rfl, rfl, hq⟩ := hrel
    go_wp2_with fail
    go_ret
    exact ⟨rfl, hq.out⟩
theorem fits_z (w : World) : Calls Tryz.prog 65 #[.agg z7a] w fun e V' => e = .returned (.bool true) ∧ Q w V' := by
  have HC := hid (fun V => pcount_z V)
  have HS := hid (fun V => shallow_z V)
  have HT := hid (bk_new w 35 z7a)
  have HQ : Hid (Q w (w.alloc (.cells z7a 35))) := hid ((Q.refl _).alloc _)
  unfold z7a at HC HS HT HQ ⊢
  go_enter Tryz.func65, Tryz.ntmps65
  go_upto_region 1 with fail
  generalize w.alloc _ = w1 at HT HQ ⊢
  generalize w.heap.size = b1 at HT ⊢
  go_wp2_with (first
    | (with_reducible refine wpList_load_row (by with_unfolding_all rfl) 35 _ (by with_unfolding_all rfl) b1 (by with_unfolding_all rfl) 35 _ (0, 0) _ HT.out.h Tryz.underlying35 (by with_unfolding_all rfl) (by with_unfolding_all kernel_rfl) ?_)
    | (go_at_call 86; refine (HC.out _).mono ?_; rintro e w2 ⟨rfl, q1⟩; have Q1 := hid (HQ.out.trans q1); have HT1 := hid (HT.out.on q1); clear q1; have d0 := HT1.out.c 0 _ rfl; have d1 := HT1.out.c 1 _ rfl; have d2 := HT1.out.c 2 _ rfl; have d3 := HT1.out.c 3 _ rfl; have d4 := HT1.out.c 4 _ rfl; have d5 := HT1.out.c 5 _ rfl; have d6 := HT1.out.c 6 _ rfl)
    | (go_at_call 92; refine (HS.out _).mono ?_; rintro e w3 ⟨rfl, q1⟩; have Q2 := hid (Q1.out.trans q1); clear q1))
  go_ret
  exact ⟨rfl, Q2.out⟩
theorem info35x : (Tryz.prog.info? 40).map (fun i => (i.zero, i.size)) = some (some (.agg zero23), 23) := by kernel_rfl
theorem sl_lit23 (W : World) (xs : List Rv) (hl : xs.length ≤ 1000) : Sl Rv.L 23 (W.alloc (.cells (flat Rv.L xs).toArray 40)) (.slice (some ⟨W.heap.size, 0, none⟩) xs.length xs.length) xs := by
  refine ⟨some ⟨W.heap.size, 0, none⟩, xs.length, rfl, Nat.le_refl _, by unfold maxLen; omega, fun _ => ⟨W.heap.size, 0, rfl, fun i hi j u hu => ?_⟩⟩
  have hj : j < 23 := (List.getElem?_eq_some_iff.1 hu).1
  rw [World.cell?_alloc_at _ _ _ _ rfl]
  rw [← hu, ← flat_at Rv.L Rv.len xs i hi j hj]
  simp
end Go.Proofs.YthebfhdpofhmpaaGreatDoor
namespace Go.Proofs.YthebfhdpofhmpaaGreatDoor
open Go.RowKit
open IV
set_option linter.unusedVariables false
set_option linter.unusedSimpArgs false
theorem up_same9 {v : Nat → Value} {d : Nat} {x : Value} : up v d x d = x := if_pos rfl
theorem up_ne9 {v : Nat → Value} {d t : Nat} {x : Value} (h : t ≠ d) : up v d x t = v t := if_neg h
theorem ul_ne9 {L : Nat → Bool} {i j : Nat} (h : j ≠ i) : ul L i j = L j := if_neg h
structure SI (w : World) (P A B : World → Prop) (s : Nat) (ix : Nat → Nat) (ds : List Nat) (val : Nat → Value) (L : Nat → Bool) (v : Nat → Value) (W : World) : Prop where
  st : ∀ W W', Q W W' → (P W → P W') ∧ (A W → A W') ∧ (B W → B W')
  ns : ∀ t ∈ ds, ix t ≠ s
  q : Q w W
  p : P W
  a : L s = false → A W
  b : L s = true → B W
  mv : ∀ t ∈ ds, L (ix t) = true → v t = val t
theorem SI.m {w : World} {P A B : World → Prop} {s : Nat} {ix : Nat → Nat} {ds : List Nat} {val : Nat → Value} {L : Nat → Bool} {v : Nat → Value} {W W' : World} (J : SI w P A B s ix ds val L v W) (q : Q W W') (i t : Nat) (hi : s ≠ i) (hj : ∀ t' ∈ ds, ix t' = i → t' = t) :
    SI w P A B s ix ds val (ul L i) (up v t (val t)) W' := by
  obtain ⟨h1, h2, h3⟩ := J.st W W' q
  refine ⟨J.st, J.ns, J.q.trans q, h1 J.p, fun h => h2 (J.a ?_), fun h => h3 (J.b ?_), fun t' ht' h => ?_⟩
  · rwa [ul_ne9 hi] at h
  · rwa [ul_ne9 hi] at h
  · by_cases e : t' = t
    · subst e; exact up_same9
    · have : ix t' ≠ i := fun e' => e (hj t' ht' e')
      rw [ul_ne9 this] at h
      rw [up_ne9 e]
      exact J.mv t' ht' h
theorem SI.put {w : World} {P A B : World → Prop} {s : Nat} {ix : Nat → Nat} {ds : List Nat} {val : Nat → Value} {L : Nat → Bool} {v : Nat → Value} {W W' : World} (J : SI w P A B s ix ds val L v W) (q : Q w W') (p : P W') (b : B W') :
    SI w P A B s ix ds val (ul L s) v W' :=
  ⟨J.st, J.ns, q, p, fun h => absurd ((show ul L s s = true from if_pos rfl).symm.trans h) (by decide), fun _ => b, fun t ht h => J.mv t ht (by rwa [ul_ne9 (J.ns t ht)] at h)⟩
theorem SI.same {w : World} {P A B : World → Prop} {s : Nat} {ix : Nat → Nat} {ds : List Nat} {val : Nat → Value} {L : Nat → Bool} {v : Nat → Value} {W W' : World} (J : SI w P A B s ix ds val L v W) (i : Nat) (hi : s ≠ i) (hn : ∀ t ∈ ds, ix t ≠ i) (q : Q w W') (p : P W') (ha : A W → A W') (hb : B W → B W') :
    SI w P A B s ix ds val (ul L i) v W' :=
  ⟨J.st, J.ns, q, p, fun h => ha (J.a (by rwa [ul_ne9 hi] at h)), fun h => hb (J.b (by rwa [ul_ne9 hi] at h)), fun t ht h => J.mv t ht (by rwa [ul_ne9 (hn t ht)] at h)⟩
section
variable {ops : Array Oper} {Q : Exit → Act → World → Prop} {a0 : Act} {ds : List Nat} {J : (Nat → Value) → World → Prop} {v : Nat → Value} {w : World} {i : Nat} {o : Oper} {d : Nat}
theorem opw_lrow (ty : TypeId) (x : Operand) (g : Nat) (t : TypeId) (cs : Array Value) (de : TypeDesc) (ho : ops[i]? = some o) (hg : o.guard = none) (hop : o.op = .load ty x) (hd : o.dst = some d) (hm : d ∈ ds) (hx : (frm a0 ds v).eval x = .pointer (some ⟨g, 0, none⟩))
    (hb : Bk w t g cs) (hdd : (match de with | .struct _ | .array _ _ => true | _ => false) = true) (hu : Tryz.prog.underlying ty = some de) (hi : (Tryz.prog.info? ty).map (·.size) = some cs.size) (hI : J (up v d (.agg cs)) w) :
    WO Tryz.prog ops Q i (Ks a0 ds J) (frm a0 ds v) w :=
  opw_wp ho hg (wp_load_row ty x hop g hx t cs (0, 0) _ hb.h hu (by cases de <;> first | exact hdd | rfl | cases hdd) hi (ks_put hd hm hI))
theorem opw_lmid (ty : TypeId) (x : Operand) (b off : Nat) (cs : List Value) (de : TypeDesc) (ho : ops[i]? = some o) (hg : o.guard = none) (hop : o.op = .load ty x) (hd : o.dst = some d) (hm : d ∈ ds) (hx : (frm a0 ds v).eval x = .pointer (some ⟨b, off, none⟩))
    (hb : w.rangeAt b off cs) (hu : Tryz.prog.underlying ty = some de) (hdd : de.isRow = true) (hi : (Tryz.prog.info? ty).map (·.size) = some cs.length) (hI : J (up v d (.agg cs.toArray)) w) :
    WO Tryz.prog ops Q i (Ks a0 ds J) (frm a0 ds v) w :=
  opw_wp ho hg (wp_load_mid ty x hop b off hx cs _ hb hu hdd hi (ks_put hd hm hI))
theorem opw_srow (ty : TypeId) (x y : Operand) (g : Nat) (t : TypeId) (old cells : Array Value) (ho : ops[i]? = some o) (hg : o.guard = none) (hop : o.op = .store ty x y) (hd : o.dst = none) (hx : (frm a0 ds v).eval x = .pointer (some ⟨g, 0, none⟩)) (hy : (frm a0 ds v).eval y = .agg cells)
    (hb : Bk w t g old) (hi : (Tryz.prog.info? ty).map (·.size) = some cells.size) (hold : old.size = cells.size) (h1 : cells.all (·.oneCell') = true) (hI : J v (w.setRow g cells)) :
    WO Tryz.prog ops Q i (Ks a0 ds J) (frm a0 ds v) w :=
  opw_wp ho hg (wp_store_row ty x y hop g cells hx hy t old hb.h hi hold h1 (ks_non hd hI))
theorem opw_bld (ty : TypeId) (parts : Array (Nat × Operand)) (cs : Array Value) (ho : ops[i]? = some o) (hg : o.guard = none) (hop : o.op = .build ty parts) (hd : o.dst = some d) (hm : d ∈ ds)
    (hf : Tryz.prog.built ty (parts.map fun (i, x) => (i, (frm a0 ds v).eval x)).toList = some cs) (hI : J (up v d (.agg cs)) w) :
    WO Tryz.prog ops Q i (Ks a0 ds J) (frm a0 ds v) w :=
  opw_wp ho hg (wp_build ty parts hop (by rw [hf]; rfl) (by rw [hf]; exact ks_put hd hm hI))
end
theorem frm_out {a0 : Act} {ds : List Nat} {v : Nat → Value} {d : Nat} (hm : d ∉ ds) : (frm a0 ds v).eval (.tmp d) = a0.tmps.getD d undef := by
  show (ds.foldl (fun t d => t.setIfInBounds d (v d)) a0.tmps).getD d undef = _
  rw [Array.getD_eq_getD_getElem?, fold_get, if_neg hm, Array.getD_eq_getD_getElem?]
theorem built_a (x : Rv) : Tryz.prog.built 57 [(0, .agg x.L.toArray), (1, .bool true)] = some (aL x).toArray := by
  cases x
  unfold aL Rv.L
  kernel_rfl
end Go.Proofs.YthebfhdpofhmpaaGreatDoor
namespace Go.Proofs.YthebfhdpofhmpaaGreatDoor
open Go.RowKit
set_option maxHeartbeats 1000000 in
theorem behind_keep (x y : Rv) (p : Bool) (w : World) (h2 : (y.k == 2) = false) (h3 : (y.k == 3) = false) (h7 : (y.k == 7) = false) (hk : (x.k == y.k) = false) :
    Calls Tryz.prog 24 #[x.v, y.v, .bool p] w fun e V' => e = .returned (.tuple #[x.v, .bool true]) ∧ Q w V' := by
  rw [Rv.v_eq, Rv.v_eq]
  have HT := hid (t3_new w 40 40 40 x.L.toArray y.L.toArray zero23)
  unfold zero23 at HT
  cases p
  all_goals
    go_enter Tryz.func24, Tryz.ntmps24
    go_upto_region 1 with fail
    generalize ((w.alloc (.cells x.L.toArray 40)).alloc (.cells y.L.toArray 40)).alloc _ = w3 at HT ⊢
    generalize w.heap.size + 1 + 1 = b6 at HT ⊢
    generalize w.heap.size + 1 = b4 at HT ⊢
    generalize w.heap.size = b3 at HT ⊢
    have k4 := HT.out.b.c 0 (.int .i64 y.k) rfl
    have k3 := HT.out.a.c 0 (.int .i64 x.k) rfl
    have e3 := HT.out.a.c 1 (.string x.sh) rfl
    have e4 := HT.out.b.c 1 (.string y.sh) rfl
    go_wp2_with (first
      | (with_reducible refine wpList_load_row (by with_unfolding_all rfl) 40 _ (by with_unfolding_all rfl) b3 (by with_unfolding_all rfl) 40 x.L.toArray (0, 0) _ HT.out.a.h Tryz.underlying40 (by with_unfolding_all rfl) (by with_unfolding_all exact info40) ?_)
      | (with_reducible refine wpList_store_row (by with_unfolding_all rfl) 40 _ _ (by with_unfolding_all rfl) b6 x.L.toArray (by with_unfolding_all rfl) (by with_unfolding_all rfl) 40 _ HT.out.r.h (by with_unfolding_all exact info40) (by with_unfolding_all rfl) x.one ?_))
    refine bodyPost_ret (v := .tuple #[x.v, .bool true]) (results_cell2 Tryz.results24 _ _ b6 40 x.L.toArray (0, 0) _ (by rfl) (HT.out.r.row _).h Tryz.underlying40 rfl info40) rfl ?_
    exact ⟨rfl, HT.out.q.row HT.out.l6 _⟩
end Go.Proofs.YthebfhdpofhmpaaGreatDoor
namespace Go.Proofs.YthebfhdpofhmpaaGreatDoor
open Go.RowKit
open IV
def vAsk (x : Rv) (t : Nat) : Value := if t = 3 then .agg x.L.toArray else if t = 4 then .agg x.L.toArray else if t = 5 then .bool true else .agg (aL x).toArray
set_option maxHeartbeats 4000000 in
theorem ask_any (x : Rv) (w : World) (hm : ∀ V, Q w V → Calls Tryz.prog 22 #[x.v] V fun e V' => e = .returned (.bool true) ∧ Q V V') :
    Calls Tryz.prog 15 #[x.v] w fun e V' => e = .returned (.agg (aL x).toArray) ∧ Q w V' := by
  rw [Rv.v_eq] at hm ⊢
  have HM := hid hm
  have HT := hid (t2_new w 40 57 x.L.toArray zero24)
  unfold zero24 at HT
  clear hm
  go_enter Tryz.func15, Tryz.ntmps15
  go_upto_region 1 with fail
  generalize (w.alloc (.cells x.L.toArray 40)).alloc _ = w1 at HT ⊢
  generalize w.heap.size + 1 = b2 at HT ⊢
  have hb6 := hid HT.out.l6
  obtain ⟨b1, hb1⟩ : ∃ b1, w.heap.size = b1 := ⟨_, rfl⟩
  have HT9 : Hid (T2 w w1 40 57 x.L.toArray zero24 b1 b2) := hid (by have := HT.out; rw [hb1] at this; exact this)
  clear HT
  rw [hb1]
  refine wp_region_invw (by kernel_rfl) [3, 4, 5, 6] (SI w (fun W => Bk W 40 b1 x.L.toArray) (fun W => Bk W 57 b2 zero24) (fun W => Bk W 57 b2 (aL x).toArray) 4 (fun t => t - 3) [3, 4, 5, 6] (vAsk x)) (by kernel_rfl) (steps_list ⟨?o0, ?o1, ?o2, ?o3, ?o4, trivial⟩)
    ⟨fun W W' q => ⟨fun h => h.on q, fun h => h.on q, fun h => h.on q⟩, by decide, HT9.out.q.drew, HT9.out.a.on (Q.refl _).drew, fun _ => HT9.out.r.on (Q.refl _).drew, fun h => absurd h Bool.false_ne_true, fun _ _ h => absurd h Bool.false_ne_true⟩ ?rest
  case o0 =>
    intro L v W J hL hd
    exact opw_lrow 40 _ b1 40 x.L.toArray _ rfl rfl rfl rfl (by decide) (by rfl) J.p rfl Tryz.underlying40 info40 (J.m (Q.refl _) 0 3 (by decide) (by decide))
  case o1 =>
    intro L v W J hL hd
    exact opw_lrow 40 _ b1 40 x.L.toArray _ rfl rfl rfl rfl (by decide) (by rfl) J.p rfl Tryz.underlying40 info40 (J.m (Q.refl _) 1 4 (by decide) (by decide))
  case o2 =>
    intro L v W J hL hd
    have h4 : v 4 = .agg x.L.toArray := J.mv 4 (by decide) (hd 1 (by decide))
    refine opw_call rfl rfl rfl (by decide) (by simp only [frm, List.foldl_cons, List.foldl_nil, List.setIfInBounds_toArray, List.set_cons_zero, List.set_cons_succ]; (go_simp) <;> (first | exact ⟨⟨rfl, rfl⟩, rfl⟩ | exact ⟨rfl, rfl⟩ | with_reducible rfl)) ?_
    refine (HM.out _ J.q).mono ?_
    rintro e W1 ⟨rfl, q1⟩
    exact ⟨_, rfl, J.m q1 2 5 (by decide) (by decide)⟩
  case o3 =>
    intro L v W J hL hd
    have h3 : v 3 = .agg x.L.toArray := J.mv 3 (by decide) (hd 0 (by decide))
    have h5 : v 5 = .bool true := J.mv 5 (by decide) (hd 2 (by decide))
    refine opw_bld 57 _ (aL x).toArray rfl rfl rfl rfl (by decide) ?_ (J.m (Q.refl _) 3 6 (by decide) (by decide))
    simp only [frm, List.foldl_cons, List.foldl_nil, List.setIfInBounds_toArray, List.set_cons_zero, List.set_cons_succ]
    go_simp
    exact built_a x
  case o4 =>
    intro L v W J hL hd
    have h6 : v 6 = .agg (aL x).toArray := J.mv 6 (by decide) (hd 3 (by decide))
    exact opw_srow 57 _ _ b2 57 zero24 (aL x).toArray rfl rfl rfl rfl (by rfl) ((frm_eval (by decide) (by rfl)).trans h6) (J.a hL) info57 rfl (aL_one x) (J.put (J.q.row HT9.out.l6 _) (J.p.orow HT9.out.n1 _) ((J.a hL).row _))
  intro L v w3 hall J
  have B2 := hid (J.b (hall 4 (by decide)))
  have Q3 := hid J.q
  simp only [frm, List.foldl_cons, List.foldl_nil, List.setIfInBounds_toArray, List.set_cons_zero, List.set_cons_succ]
  clear hall J
  go_wp2_with fail
  refine bodyPost_ret (v := .agg (aL x).toArray) (results_cell_row Tryz.results15 _ _ b2 57 (aL x).toArray (0, 0) _ (by rfl) B2.out.h Tryz.underlying57 rfl info57) rfl ?_
  exact ⟨rfl, Q3.out⟩
end Go.Proofs.YthebfhdpofhmpaaGreatDoor
namespace Go.Proofs.YthebfhdpofhmpaaGreatDoor
open Go.RowKit
theorem info35y : (Tryz.prog.info? 40).map (fun i => (i.zero, i.size, i.bytes)) = some (some (.agg zero23), 23, 264) := by kernel_rfl
theorem wpl_bs1 {w : World} {ops : Array Oper} {rest : List Oper} {o : Oper} {a : Act} {Q : Exit → Act → World → Prop} (t e : TypeId) (k : Nat) (z C : Array Value) (hu : Tryz.prog.underlying t = some (.slice e)) (hi : (Tryz.prog.info? e).map (fun i => (i.zero, i.size)) = some (some (.agg z), k)) (hk : 0 < k ∧ k ≤ 1000)
    (parts : Array (Nat × Operand)) (ho : o.op = .buildSlice t 1 parts) (hw : Region.wanted o (yielded ops a.tmps) = true)
    (hf : Instr.fill (fun i => some (i * k, k)) ((Array.range (1 * k)).map (z[· % z.size]!)) (parts.map fun (i, x) => (i, a.eval x)).toList = some C)
    (h : wpList Tryz.prog ops Q rest (a.put o.dst (.slice (some ⟨w.heap.size, 0, none⟩) 1 1)) (w.alloc (.cells C e))) : wpList Tryz.prog ops Q (o :: rest) a w := by
  simp only [wpList, hw, if_true]
  cases hq : Tryz.prog.info? e with
  | none =>
    rw [hq] at hi
    cases hi
  | some ie =>
    rw [hq] at hi
    simp only [Option.map_some, Option.some.injEq, Prod.mk.injEq] at hi
    obtain ⟨hz, hs⟩ := hi
    refine .inl (wp_buildSlice t e 1 parts ho C ie (.agg z) hu hq hz (by rw [hs]; omega) (by rw [hs]; omega) ?_ h)
    rw [hs]
    exact hf
set_option maxHeartbeats 4000000 in
theorem smay_form (vk vn : Int) (vt : ByteArray) (vb : Bool) (ve : Int) (k m : Int) (t : ByteArray) (bb : Bool) (er : Int) (a1 : Option Addr) (l1 c1 : Nat) (a2 : Option Addr) (l2 c2 : Nat) (X : Ex) (w : World) (hg : Gd w) (hs : Sm X) (hr : Rd w X (.agg #[.int .i64 k, .int .i64 m, .string t, .bool bb, .int .i64 er, .slice a1 l1 c1, .slice a2 l2 c2])) : Calls Tryz.prog 29 #[.agg #[.bool true, .int .i64 vk, .int .i64 vn, .string vt, .bool vb, .int .i64 ve, .int .i64 k, .int .i64 m, .string t, .bool bb, .int .i64 er, .slice a1 l1 c1, .slice a2 l2 c2]] w fun e W' => e = .returned (.bool ((fitB X && mall mayN X) && decide (vk = 0 ∧ vn = 0 ∧ vt.data.toList = [] ∧ vb = false ∧ ve = 0))) ∧ Q w W' := by
  have HM := hid (fun W' (q : Q w W') => pmay_any X _ W' (hg.on q) hs (Rd.on q _ _ hr))
  have HV := hid (fun W' => veq_any vk vn vt vb ve 0 0 ⟨#[]⟩ false 0 W')
  unfold vx at HV
  rw [show (⟨#[]⟩ : ByteArray).data.toList = [] from rfl] at HV
  generalize decide (vk = 0 ∧ vn = 0 ∧ vt.data.toList = [] ∧ vb = false ∧ ve = 0) = r2 at HV ⊢
  clear hr hg hs
  cases h1 : (fitB X && mall mayN X)
  · rw [h1] at HM
    go_enter Tryz.func29, Tryz.ntmps29
    go_wp2_with (go_at_call 42; refine (HM.out _ ((Q.refl _).alloc _)).mono ?_; rintro e9 w1 ⟨rfl, q1⟩; have Q1 : Hid (Q w w1) := hid (((Q.refl _).alloc _).trans q1); clear q1)
    go_ret
    exact ⟨by simp, Q1.out⟩
  · rw [h1] at HM
    go_enter Tryz.func29, Tryz.ntmps29
    go_wp2_with (first | (go_at_call 42; refine (HM.out _ ((Q.refl _).alloc _)).mono ?_; rintro e9 w1 ⟨rfl, q1⟩; have Q1 : Hid (Q w w1) := hid (((Q.refl _).alloc _).trans q1); have Z1 := hid ((cb_new w [.bool true, .int .i64 vk, .int .i64 vn, .string vt, .bool vb, .int .i64 ve, .int .i64 k, .int .i64 m, .string t, .bool bb, .int .i64 er, .slice a1 l1 c1, .slice a2 l2 c2] 37).on q1); clear q1; have d0 := Z1.out.c 0 _ rfl; have d1 := Z1.out.c 1 _ rfl; have d2 := Z1.out.c 2 _ rfl; have d3 := Z1.out.c 3 _ rfl; have d4 := Z1.out.c 4 _ rfl; have d5 := Z1.out.c 5 _ rfl; have d6 := Z1.out.c 6 _ rfl; have d7 := Z1.out.c 7 _ rfl; have d8 := Z1.out.c 8 _ rfl; have d9 := Z1.out.c 9 _ rfl; have d10 := Z1.out.c 10 _ rfl; have d11 := Z1.out.c 11 _ rfl; have d12 := Z1.out.c 12 _ rfl) | (go_at_call 45; refine (HV.out _).mono ?_; rintro e9 w2 ⟨rfl, q2⟩; have Q2 := hid (Q1.out.trans q2); clear q2))
    go_ret
    exact ⟨by simp, Q2.out⟩
def fo (sh : ByteArray) (r c k m : Int) (t : ByteArray) (bb : Bool) (er : Int) (a1 : Option Addr) (l1 c1 : Nat) (a2 : Option Addr) (l2 c2 : Nat) : Rv := ⟨1, sh, r, c, true, 0, 0, ⟨#[]⟩, false, 0, k, m, t, bb, er, a1, l1, c1, a2, l2, c2, 0, 0, 0, none, 0, 0, 0, ⟨#[]⟩⟩
theorem may_form (sh : ByteArray) (r c k m : Int) (t : ByteArray) (bb : Bool) (er : Int) (a1 : Option Addr) (l1 c1 : Nat) (a2 : Option Addr) (l2 c2 : Nat) (X : Ex) (w : World) (hg : Gd w) (hs : sh.size < 4294967281) (hm : Sm X) (hr : Rd w X (.agg #[.int .i64 k, .int .i64 m, .string t, .bool bb, .int .i64 er, .slice a1 l1 c1, .slice a2 l2 c2])) :
    Calls Tryz.prog 22 #[(fo sh r c k m t bb er a1 l1 c1 a2 l2 c2).v] w fun e V' => e = .returned (.bool (lnB r && (lnB c && (fitB X && mall mayN X)) && (idB sh.data.toList && true))) ∧ Q w V' := by
  have HE := hid (fun V (q : Q w V) => so_eq 1 sh V)
  have HF := hid (fun V (q : Q w V) => smay_form 0 0 ⟨#[]⟩ false 0 k m t bb er a1 l1 c1 a2 l2 c2 X V (hg.on q) hm (Rd.on q _ _ hr))
  rw [show decide ((0 : Int) = 0 ∧ (0 : Int) = 0 ∧ (⟨#[]⟩ : ByteArray).data.toList = [] ∧ false = false ∧ (0 : Int) = 0) = true from by decide, Bool.and_true] at HF
  unfold Rv.v so at HE
  unfold Rv.v fo
  exact om1 1 sh (.int .i64 r) (.int .i64 c) (.bool true) (.int .i64 0) (.int .i64 0) (.string ⟨#[]⟩) (.bool false) (.int .i64 0) (.int .i64 k) (.int .i64 m) (.string t) (.bool bb) (.int .i64 er) (.slice a1 l1 c1) (.slice a2 l2 c2) (.int .i64 0) (.int .i64 0) (.int .i64 0) (.slice none 0 0) (.int .i64 0) (.string ⟨#[]⟩) w (lnB r) (lnB c) (fitB X && mall mayN X) (idB sh.data.toList) true (by decide) (hid (by kernel_rfl)) (hid (fun V q => (mayLine_any' r V).mono fun e V' h => ⟨h.1, h.2 ▸ Q.refl _⟩)) (hid (fun V q => (mayLine_any' c V).mono fun e V' h => ⟨h.1, h.2 ▸ Q.refl _⟩)) HF (hid (fun V q => id_any sh V (hg.on q).1 hs)) HE
abbrev Od := Pk × Value × Int
def encO (x : Od) : List Value := [.pointer (some ⟨x.1.1, x.1.2.1, none⟩), .int .i64 (x.1.2.2 : Int), x.2.1, .int .i64 x.2.2]
theorem encO_len (x : Od) : (encO x).length = 4 := rfl
theorem flat_encO (L : List Od) (x : Od) : flat encO L ++ encO x = flat encO (L ++ [x]) := by
  rw [flat_snoc]
theorem info119o : (Tryz.prog.info? 194).map (fun i => (i.zero, i.size, i.bytes)) = some (some (.agg #[.pointer none, .int .i64 0, .slice none 0 0, .int .i64 0]), 4, 48) := by kernel_rfl
theorem Qp.gr {W W' : World} {r : Option Nat} (g : W.grownBy W' r) : Qp (fun i => r = some i) W W' := ⟨g.os, g.tape, g.output, g.size, fun i hi hp => g.block i hi (fun e => hp e.symm)⟩
structure ScA (W : World) (B s mb : Nat) (wv v : Value) (es : List (Pk × S3)) (L : List Od) : Prop where
  c0 : W.cell? ⟨s, 0, none⟩ = some wv
  c1 : W.cell? ⟨s, 1, none⟩ = some (.map (some mb))
  c2 : W.cell? ⟨s, 2, none⟩ = some v
  c3 : W.cell? ⟨s, 3, none⟩ = some (.bool false)
  f : ∀ j, W.frozen? ⟨s, j, none⟩ = false
  mp : MapS W mb es
  ow : Own encO 194 4 B W v L
  hs : B ≤ s
  hm : B ≤ mb
  sm : s ≠ mb
  os : v.ownBlock ≠ some s
  om : v.ownBlock ≠ some mb
  pl : ∀ e ∈ es, Pl W e.1.1 ∧ e.1.1 < B
theorem MapS.lt {W : World} {b : Nat} {es : List (Pk × S3)} (h : MapS W b es) : b < W.heap.size := by
  obtain ⟨ms, c, hb, _⟩ := h
  exact (Array.getElem?_eq_some_iff.1 hb).1
theorem ScA.lt {W : World} {B s mb : Nat} {wv v : Value} {es : List (Pk × S3)} {L : List Od} (h : ScA W B s mb wv v es L) : s < W.heap.size := World.block_lt_of_cell? W ⟨s, 0, none⟩ h.c0
theorem ScA.bs {W : World} {B s mb : Nat} {wv v : Value} {es : List (Pk × S3)} {L : List Od} (h : ScA W B s mb wv v es L) : B ≤ W.heap.size := Nat.le_of_lt (Nat.lt_of_le_of_lt h.hs h.lt)
theorem ScA.qp {W W' : World} {B s mb : Nat} {wv v : Value} {es : List (Pk × S3)} {L : List Od} {P : Nat → Prop} (h : ScA W B s mb wv v es L) (q : Qp P W W') (hs : ¬ P s) (hm : ¬ P mb) (ho : ∀ j, v.ownBlock = some j → ¬ P j) (hb : ∀ i, P i → B ≤ i) : ScA W' B s mb wv v es L := by
  have cs : ∀ j, W'.cell? ⟨s, j, none⟩ = W.cell? ⟨s, j, none⟩ := fun j => q.cell h.lt hs
  exact ⟨(cs 0).trans h.c0, (cs 1).trans h.c1, (cs 2).trans h.c2, (cs 3).trans h.c3, fun j => (World.frozen?_of_block (a := ⟨s, j, none⟩) (q.block s h.lt hs)).trans (h.f j), h.mp.blk (q.block mb h.mp.lt hm), h.ow.qp q ho, h.hs, h.hm, h.sm, h.os, h.om, fun e he => ⟨(h.pl e he).1.blk (q.block _ (h.pl e he).1.lt (fun p => by have := hb _ p; have := (h.pl e he).2; omega)), (h.pl e he).2⟩⟩
theorem ScA.on {W W' : World} {B s mb : Nat} {wv v : Value} {es : List (Pk × S3)} {L : List Od} (h : ScA W B s mb wv v es L) (q : Q W W') : ScA W' B s mb wv v es L := h.qp (P := fun _ => False) (Qp.of q) id id (fun _ _ => id) (fun _ e => e.elim)
theorem ScA.put {W : World} {B s mb : Nat} {wv v : Value} {es : List (Pk × S3)} {L : List Od} (h : ScA W B s mb wv v es L) (k : Pk) (x : S3) (hk : Pl W k.1) (hb : k.1 < B) :
    ∃ W', (Instr.mapUpdate 142 (.map (some mb)) (pkV k) (s3V x)).run Tryz.prog W = .ok () W' ∧ ScA W' B s mb wv v (putS es k x) L ∧ Qp (fun i => i = mb) W W' := by
  obtain ⟨W', hr, hm, hg⟩ := h.mp.update k x hk (fun e he => (h.pl e he).1)
  have q : Qp (fun i => i = mb) W W' := (Qp.gr hg).mono (fun i _ e => (Option.some.inj e).symm)
  have hs : ¬ (s = mb) := h.sm
  have cs : ∀ j, W'.cell? ⟨s, j, none⟩ = W.cell? ⟨s, j, none⟩ := fun j => q.cell h.lt hs
  have pk : ∀ b, Pl W b → b < B → Pl W' b ∧ b < B := fun b p l => ⟨p.blk (q.block _ p.lt (fun e => by have := h.hm; omega)), l⟩
  exact ⟨W', hr, ⟨(cs 0).trans h.c0, (cs 1).trans h.c1, (cs 2).trans h.c2, (cs 3).trans h.c3, fun j => (World.frozen?_of_block (a := ⟨s, j, none⟩) (q.block s h.lt hs)).trans (h.f j), hm, h.ow.qp q (fun j hj e => h.om (by rw [hj, e])), h.hs, h.hm, h.sm, h.os, h.om, put_keys (P := fun k => Pl W' k.1 ∧ k.1 < B) (fun e he => pk _ (h.pl e he).1 (h.pl e he).2) (pk _ hk hb)⟩, q⟩
theorem ScA.push {W : World} {B s mb : Nat} {wv v : Value} {es : List (Pk × S3)} {L : List Od} (h : ScA W B s mb wv v es L) (x : Od) (g : Nat) (hc : ∀ j u, (encO x)[j]? = some u → W.cell? ((⟨g, 0, none⟩ : Addr).add j) = some u) (ho : x.2.1.oneCell' = true) (hl : L.length ≤ 100000) :
    ∃ v' W', (Builtin.append_ #[165, 165] 165 #[v, .slice (some ⟨g, 0, none⟩) 1 1]).run Tryz.prog W = .ok v' W' ∧ Qp (fun i => v.ownBlock = some i) W W' ∧ (∃ g2 k2, v' = .slice (some ⟨g2, 0, none⟩) (L.length + 1) k2) ∧ W'.cell? ⟨s, 2, none⟩ = some v ∧ (∀ j, W'.frozen? ⟨s, j, none⟩ = false) ∧ ScA (W'.setCell ⟨s, 2, none⟩ v') B s mb wv v' es (L ++ [x]) := by
  obtain ⟨i0, hi, hz0, hz1, hz2⟩ := inf_of info119o
  obtain ⟨v', W', hr, h2, h3, _, h5⟩ := run_append_own_at (P := Tryz.prog) W B 165 165 194 i0 _ 4 48 Tryz.underlying165 hi hz0 hz1 hz2 rfl (by decide) v L.length (flat encO L) h.ow ⟨g, 0, none⟩ 1 1 (encO x) rfl hc (by intro u hu; simp [encO] at hu; rcases hu with rfl | rfl | rfl | rfl <;> first | rfl | exact ho) (by unfold maxLen; omega) (by omega) h.bs
  have q := Qp.gr h3
  have hs : ¬ (v.ownBlock = some s) := h.os
  have cs : ∀ j, W'.cell? ⟨s, j, none⟩ = W.cell? ⟨s, j, none⟩ := fun j => q.cell h.lt hs
  have fs : ∀ j, W'.frozen? ⟨s, j, none⟩ = false := fun j => (World.frozen?_of_block (a := ⟨s, j, none⟩) (q.block s h.lt hs)).trans (h.f j)
  have os' : v'.ownBlock ≠ some s := by
    rcases h5 with e | e
    · rw [e]; exact hs
    · rw [e]; intro e'; have := Option.some.inj e'; have := h.lt; omega
  have om' : v'.ownBlock ≠ some mb := by
    rcases h5 with e | e
    · rw [e]; exact h.om
    · rw [e]; intro e'; have := Option.some.inj e'; have := h.mp.lt; omega
  have q2 : Qp (fun i => i = s) W' (W'.setCell ⟨s, 2, none⟩ v') := (Qp.refl _ _).set _ _ (.inl rfl)
  have ow1 : Own encO 194 4 B W' v' (L ++ [x]) := by
    unfold Own
    rw [← flat_encO, List.length_append]
    exact h2
  have ot : ∀ j, j ≠ 2 → (W'.setCell ⟨s, 2, none⟩ v').cell? ⟨s, j, none⟩ = W.cell? ⟨s, j, none⟩ := fun j hj => (World.cell?_setCell_other _ _ _ _ (fun e => hj (Addr.mk.inj e).2.1.symm)).trans (cs j)
  have pk : ∀ b, Pl W b → b < B → Pl W' b := fun b p l => p.blk (q.block _ p.lt (fun e => by have := h.ow.blk b e; omega))
  refine ⟨v', W', hr, q, row_shape h2 (by omega), (cs 2).trans h.c2, fs, ⟨(ot 0 (by omega)).trans h.c0, (ot 1 (by omega)).trans h.c1, World.cell?_setCell_same _ _ _ ((cs 2).trans h.c2), (ot 3 (by omega)).trans h.c3, fun j => by rw [World.frozen?_setCell]; exact fs j, ?_, ?_, h.hs, h.hm, h.sm, os', om', fun e he => ⟨?_, (h.pl e he).2⟩⟩⟩
  · exact (h.mp.blk (q.block mb h.mp.lt h.om)).blk (q2.block mb (Nat.lt_of_lt_of_le h.mp.lt q.size) (fun e => h.sm e.symm))
  · exact ow1.qp q2 (fun j hj e => os' (by rw [hj, e]))
  · have p1 := pk _ (h.pl e he).1 (h.pl e he).2
    exact p1.blk (q2.block _ p1.lt (fun e' => by have := (h.pl e he).2; have := h.hs; omega))
theorem step_append_run {P : Program} {ops : Array Oper} {o : Oper} {a : Act} {w : World} {K : Act → World → Prop} {Q : Exit → Act → World → Prop} {E : Prop} (hg : o.guard = none) (s x : Operand) (t ty : TypeId) (hop : o.op = .call { callee := .builtin .append, args := #[s, x], argTypes := #[t, t] }) (hty : o.type = ty)
    {u1 u2 v' : Value} {w' : World} (hs : a.eval s = u1) (hx : a.eval x = u2) (hr : (Builtin.append_ #[t, t] ty #[u1, u2]).run P w = .ok v' w') (hK : K (a.put o.dst v') w') : if Region.wanted o (yielded ops a.tmps) = true then Oper.wp P o a w K Q else E := by
  have hw : Region.wanted o (yielded ops a.tmps) = true := by simp [Region.wanted, hg]
  rw [if_pos hw]
  subst hty
  unfold Oper.wp
  simp [execOp, hop, resolve, invoke, builtin, hs, hx, hr, Result.andThen]
  exact hK
set_option maxHeartbeats 1000000 in
theorem begin_any (B s mb b o n cap : Nat) (wv v : Value) (es : List (Pk × S3)) (L : List Od) (W : World) (h : ScA W B s mb wv v es L) (hn : 0 < n) (hm : n ≤ 1000) (hb : Pl W b) (hB : b < B) (hl : L.length ≤ 100000) :
    Calls Tryz.prog 104 #[.pointer (some ⟨s, 0, none⟩), .slice (some ⟨b, o, none⟩) n cap] W fun e W' => (∃ u, e = .returned u) ∧ Qp (fun i => B ≤ i) W W' ∧ ∃ v', ScA W' B s mb wv v' (putS es (b, o, n) (0, false, false)) (L ++ [((b, o, n), .slice (some ⟨b, o, none⟩) n cap, 0)]) := by
  have HS := hid h
  have HB := hid hb
  clear h hb
  go_enter Tryz.func104, Tryz.ntmps104
  go_wp2_with (go_at_call 91; refine (place_of _ _ _ _ _ hn hm).mono ?_; rintro e w1 ⟨rfl, q1⟩; unfold pkV)
  have q2 : Q W ((w1.alloc (.cells #[.pointer (some ⟨b, o, none⟩), .int .i64 (n : Int)] 150)).drew) := (q1.alloc _).drew
  have s2 := HS.out.on q2
  obtain ⟨w3, r3, s3, q3⟩ := s2.put (b, o, n) (0, false, false) (HB.out.on q2) hB
  unfold pkV s3V at r3
  have l1 := HS.out.on (q1.alloc (.cells #[.pointer (some ⟨b, o, none⟩), .int .i64 (n : Int)] 150)) |>.c1
  have hne : w1.heap.size ≠ mb := fun e => by have := HS.out.mp.lt; have := q1.size; omega
  have at0 : w3.cell? ⟨w1.heap.size, 0, none⟩ = some (.pointer (some ⟨b, o, none⟩)) := (q3.cell (by simp) hne).trans (by simp [World.cell?_alloc_new])
  have at1 : w3.cell? ⟨w1.heap.size, 1, none⟩ = some (.int .i64 (n : Int)) := (q3.cell (by simp) hne).trans (by simp [World.cell?_alloc_new])
  have o2 : w3.cell? ⟨s, 2, none⟩ = some v := s3.c2
  have qa : Q w3 ((w3.alloc (.cells #[.pointer (some ⟨b, o, none⟩), .int .i64 (n : Int), .slice (some ⟨b, o, none⟩) n cap, .int .i64 0] 194)).drew) := ((Q.refl _).alloc _).drew
  have o2a := (s3.on ((Q.refl _).alloc (.cells #[.pointer (some ⟨b, o, none⟩), .int .i64 (n : Int), .slice (some ⟨b, o, none⟩) n cap, .int .i64 0] 194))).c2
  obtain ⟨v5, w5, r5, q5, ⟨g5, k5, e5⟩, c5, f5, s5⟩ := (s3.on qa).push ((b, o, n), .slice (some ⟨b, o, none⟩) n cap, 0) w3.heap.size (news_at w3 [.pointer (some ⟨b, o, none⟩), .int .i64 (n : Int), .slice (some ⟨b, o, none⟩) n cap, .int .i64 0] 194 _ rfl) rfl hl
  subst e5
  have R5 := hid r5
  have f52 := f5 2
  have ob : ∀ j, v.ownBlock = some j → B ≤ j := HS.out.ow.blk
  have HF : Hid (Qp (fun i => B ≤ i) W (w5.setCell ⟨s, 2, none⟩ (.slice (some ⟨g5, 0, none⟩) (L.length + 1) k5)) ∧ ScA (w5.setCell ⟨s, 2, none⟩ (.slice (some ⟨g5, 0, none⟩) (L.length + 1) k5)) B s mb wv (.slice (some ⟨g5, 0, none⟩) (L.length + 1) k5) (putS es (b, o, n) (0, false, false)) (L ++ [((b, o, n), .slice (some ⟨b, o, none⟩) n cap, 0)])) :=
    hid ⟨((((Qp.of q2).trans (q3.mono (fun i _ e => by have := HS.out.hm; omega))).trans (Qp.of qa)).trans (q5.mono (fun i _ e => ob i e))).set _ _ (.inl HS.out.hs), s5⟩
  clear s2 s3 q2 q3 q1 HS HB qa q5 s5 f5 hne ob r5
  go_region_with fail
  all_goals go_wp2_with fail
  all_goals go_region_law (refine step_append_run (by rfl) _ _ 165 165 (by rfl) (by rfl) (by rfl) (by rfl) R5.out ?_)
  all_goals go_wp2_with fail
  all_goals refine bodyPost_end (v := .tuple #[]) (by simp [results, Tryz.results104, go_sem]) rfl ?_
  all_goals exact ⟨⟨_, rfl⟩, HF.out.1, _, HF.out.2⟩
def wt : Ex → Int
  | .mk _ _ t _ _ rs ks => 96 + (t.length : Int) + 40 * (rs.length : Int) + wtL ks
  where
  wtL : List Ex → Int
  | [] => 0
  | x :: xs => wt x + wtL xs
def own1 : Ex → Int
  | .mk _ _ t _ _ rs _ => 96 + (t.length : Int) + 40 * (rs.length : Int)
theorem wt_own (x : Ex) : wt x = own1 x + wt.wtL (kd x) := by
  cases x
  simp only [wt, own1, kd]
theorem wtL_cons (x : Ex) (xs : List Ex) : wt.wtL (x :: xs) = wt x + wt.wtL xs := by rw [wt.wtL]
theorem wtL_nil : wt.wtL [] = 0 := by rw [wt.wtL]
theorem wtL_app (xs ys : List Ex) : wt.wtL (xs ++ ys) = wt.wtL xs + wt.wtL ys := by
  induction xs with
  | nil => rw [List.nil_append, wtL_nil]; omega
  | cons x xs ih => rw [List.cons_append, wtL_cons, wtL_cons, ih]; omega
theorem own1_pos (x : Ex) : 96 ≤ own1 x := by
  cases x
  simp only [own1]
  omega
theorem wt_pos : ∀ x : Ex, 0 ≤ wt x
  | .mk k n t b e rs ks => by
    rw [wt]
    have := go ks
    omega
  where
  go : ∀ xs : List Ex, 0 ≤ wt.wtL xs
  | [] => by rw [wt.wtL]; omega
  | x :: xs => by
    rw [wt.wtL]
    have := wt_pos x
    have := go xs
    omega
theorem wtL_pos (xs : List Ex) : 0 ≤ wt.wtL xs := wt_pos.go xs
theorem nl_app (xs ys : List Ex) : nodes.nodesL (xs ++ ys) = nodes.nodesL xs + nodes.nodesL ys := by
  induction xs with
  | nil => rw [List.nil_append]; simp [nodes.nodesL]
  | cons x xs ih => rw [List.cons_append, nodes.nodesL, nodes.nodesL, ih]; omega
theorem nl_kd (x : Ex) : nodes x = 1 + nodes.nodesL (kd x) := by
  cases x
  simp only [nodes, kd]
theorem nl_one (x : Ex) : nodes.nodesL [x] = nodes x := by simp [nodes.nodesL]
theorem nl_cons (x : Ex) (xs : List Ex) : nodes.nodesL (x :: xs) = nodes x + nodes.nodesL xs := by rw [nodes.nodesL]
theorem len_nl (xs : List Ex) : xs.length ≤ nodes.nodesL xs := by
  induction xs with
  | nil => simp
  | cons x xs ih => rw [nl_cons, nl_kd, List.length_cons]; omega
structure Opn (W0 : World) (p : Option (List Ex)) (x : Od) (ds ys : List Ex) : Prop where
  at_ : Rd.RdL W0 (ds ++ ys) x.1.1 x.1.2.1
  ln : (ds ++ ys).length = x.1.2.2
  pl : Pl W0 x.1.1
  rs : TL W0 x.2.1 ys
  no : p = none → x.2.2 = wt.wtL ds
  so : ∀ ks, p = some ks → ∃ d z, ds = d ++ [z] ∧ kd z = ks ∧ x.2.2 = wt.wtL d + own1 z
def Stk (W0 : World) : Option (List Ex) → List Od → List (List Ex × List Ex) → Prop
  | _, [], [] => True
  | p, x :: S, (ds, ys) :: T => Opn W0 p x ds ys ∧ Stk W0 (some (ds ++ ys)) S T
  | _, [], _ :: _ => False
  | _, _ :: _, [] => False
theorem kd_less {d r : List Ex} {z : Ex} : nodes.nodesL (kd z) < nodes.nodesL (d ++ z :: r) := by
  rw [nl_app, nl_cons, nl_kd]
  omega
theorem Stk.less {W0 : World} : ∀ {S : List Od} {T : List (List Ex × List Ex)} {ks : List Ex}, Stk W0 (some ks) S T → ∀ y ∈ S, ∃ xs, Rd.RdL W0 xs y.1.1 y.1.2.1 ∧ xs.length = y.1.2.2 ∧ nodes.nodesL ks < nodes.nodesL xs
  | [], _, _, _, y, hy => absurd hy (by simp)
  | x :: S, [], _, h, _, _ => by cases h
  | x :: S, (ds, ys) :: T, ks, h, y, hy => by
    obtain ⟨h1, h2⟩ := h
    obtain ⟨d, z, e1, e2, _⟩ := h1.so ks rfl
    have hl : nodes.nodesL ks < nodes.nodesL (ds ++ ys) := by
      rw [← e2, e1, List.append_assoc]
      exact kd_less
    rcases List.mem_cons.1 hy with rfl | hy
    · exact ⟨_, h1.at_, h1.ln, hl⟩
    · obtain ⟨xs, a, b, c⟩ := Stk.less h2 y hy
      exact ⟨xs, a, b, by omega⟩
theorem Stk.fresh {W0 : World} {S : List Od} {T : List (List Ex × List Ex)} {x : Od} {ds ys : List Ex} {p : Option (List Ex)} (h : Stk W0 p (x :: S) ((ds, ys) :: T)) {k : Pk} {ks : List Ex} (hk : Rd.RdL W0 ks k.1 k.2.1) (hl : ks.length = k.2.2) (hn : nodes.nodesL ks < nodes.nodesL (ds ++ ys)) : ∀ y ∈ x :: S, y.1 ≠ k := by
  intro y hy e
  obtain ⟨h1, h2⟩ := h
  subst e
  rcases List.mem_cons.1 hy with rfl | hy
  · have := rdl_det (hl.trans h1.ln.symm) hk h1.at_
    rw [this] at hn
    omega
  · obtain ⟨xs, a, b, c⟩ := Stk.less h2 y hy
    have := rdl_det (hl.trans b.symm) hk a
    rw [this] at hn
    omega
structure EsI (W0 : World) (es : List (Pk × S3)) (S : List Od) : Prop where
  cl : ∀ k s, getS es k = some s → (∃ xs, Rd.RdL W0 xs k.1 k.2.1 ∧ xs.length = k.2.2 ∧ s = (wt.wtL xs, true, false)) ∨ (s = (0, false, false) ∧ ∃ x ∈ S, x.1 = k)
  op : ∀ x ∈ S, getS es x.1 = some (0, false, false)
def ms : List (List Ex × List Ex) → Nat
  | [] => 0
  | t :: T => 2 * nodes.nodesL t.2 + 1 + ms T
theorem EsI.same {W0 : World} {es : List (Pk × S3)} {x x' : Od} {S : List Od} (h : EsI W0 es (x :: S)) (e : x'.1 = x.1) : EsI W0 es (x' :: S) := by
  refine ⟨fun k s hk => ?_, fun y hy => ?_⟩
  · rcases h.cl k s hk with h1 | ⟨h1, y, hy, h2⟩
    · exact .inl h1
    · refine .inr ⟨h1, ?_⟩
      rcases List.mem_cons.1 hy with rfl | hy
      · exact ⟨x', List.mem_cons_self .., e.trans h2⟩
      · exact ⟨y, List.mem_cons_of_mem _ hy, h2⟩
  · rcases List.mem_cons.1 hy with rfl | hy
    · rw [e]; exact h.op x (List.mem_cons_self ..)
    · exact h.op y (List.mem_cons_of_mem _ hy)
theorem EsI.begun {W0 : World} {es : List (Pk × S3)} {S : List Od} (h : EsI W0 es S) (x : Od) : EsI W0 (putS es x.1 (0, false, false)) (x :: S) := by
  refine ⟨fun k s hk => ?_, fun y hy => ?_⟩
  · rw [get_put] at hk
    split at hk
    · rename_i e
      exact .inr ⟨(Option.some.inj hk).symm, x, List.mem_cons_self .., e.symm⟩
    · rcases h.cl k s hk with h1 | ⟨h1, y, hy, h2⟩
      · exact .inl h1
      · exact .inr ⟨h1, y, List.mem_cons_of_mem _ hy, h2⟩
  · rw [get_put]
    split
    · rfl
    · rename_i e
      rcases List.mem_cons.1 hy with rfl | hy
      · exact absurd rfl e
      · exact h.op y hy
theorem EsI.ended {W0 : World} {es : List (Pk × S3)} {S : List Od} {x : Od} (h : EsI W0 es (x :: S)) {xs : List Ex} (h1 : Rd.RdL W0 xs x.1.1 x.1.2.1) (h2 : xs.length = x.1.2.2) (hf : ∀ y ∈ S, y.1 ≠ x.1) : EsI W0 (putS es x.1 (wt.wtL xs, true, false)) S := by
  refine ⟨fun k s hk => ?_, fun y hy => ?_⟩
  · rw [get_put] at hk
    split at hk
    · rename_i e
      subst e
      exact .inl ⟨xs, h1, h2, (Option.some.inj hk).symm⟩
    · rename_i e
      rcases h.cl k s hk with h3 | ⟨h3, y, hy, h4⟩
      · exact .inl h3
      · rcases List.mem_cons.1 hy with hy | hy
        · exact absurd (by rw [← h4, hy]) e
        · exact .inr ⟨h3, y, hy, h4⟩
  · rw [get_put, if_neg (hf y hy)]
    exact h.op y (List.mem_cons_of_mem _ hy)
theorem ScA.last {W : World} {B s mb : Nat} {wv v : Value} {es : List (Pk × S3)} {L : List Od} {x : Od} (h : ScA W B s mb wv v es (L ++ [x])) : ∃ g cap, v = .slice (some ⟨g, 0, none⟩) (L.length + 1) cap ∧ L.length + 1 ≤ cap ∧ cap ≤ maxLen ∧ g < W.heap.size ∧ (∀ j u, (encO x)[j]? = some u → W.cell? ⟨g, L.length * 4 + j, none⟩ = some u) ∧ ∀ j, W.frozen? ⟨g, j, none⟩ = false := by
  have ow := h.ow
  obtain ⟨g, cap, hv, _, hg2, hc1, hc2⟩ := ow.shape (by simp)
  rw [List.length_append, List.length_singleton] at hv hc1
  subst hv
  have ow2 : Own encO 194 4 B W (.slice (some ⟨g, 0, none⟩) (L ++ [x]).length cap) (L ++ [x]) := by rw [List.length_append, List.length_singleton]; exact ow
  have cl := ow2.cell encO_len (i := L.length) (by rw [List.length_append, List.length_singleton]; omega)
  rw [List.getElem_append_right (Nat.le_refl _)] at cl
  simp only [Nat.sub_self, List.getElem_cons_zero] at cl
  exact ⟨g, cap, rfl, hc1, hc2, hg2, fun j u hu => cl j u hu, fun j => World.ownsRow.frozenAt (w := W) (by unfold Own at ow2; exact ow2) _⟩
theorem ScA.pop {W : World} {B s mb g m cap : Nat} {wv : Value} {es : List (Pk × S3)} {L : List Od} {x : Od} (h : ScA W B s mb wv (.slice (some ⟨g, 0, none⟩) (m + 1) cap) es (L ++ [x])) (hm : L.length = m) : ScA (W.setCell ⟨s, 2, none⟩ (.slice (some ⟨g, 0, none⟩) m cap)) B s mb wv (.slice (some ⟨g, 0, none⟩) m cap) es L := by
  have q2 : Qp (fun i => i = s) W (W.setCell ⟨s, 2, none⟩ (.slice (some ⟨g, 0, none⟩) m cap)) := (Qp.refl _ _).set _ _ (.inl rfl)
  have ot : ∀ j, j ≠ 2 → (W.setCell ⟨s, 2, none⟩ (.slice (some ⟨g, 0, none⟩) m cap)).cell? ⟨s, j, none⟩ = W.cell? ⟨s, j, none⟩ := fun j hj => World.cell?_setCell_other _ _ _ _ (fun e => hj (Addr.mk.inj e).2.1.symm)
  exact ⟨(ot 0 (by omega)).trans h.c0, (ot 1 (by omega)).trans h.c1, World.cell?_setCell_same _ _ _ h.c2, (ot 3 (by omega)).trans h.c3, fun j => by rw [World.frozen?_setCell]; exact h.f j, h.mp.blk (q2.block mb h.mp.lt (fun e => h.sm e.symm)), (own_cutg encO_len h.ow hm).qp q2 (fun j hj e => h.os (by rw [← e]; exact hj)), h.hs, h.hm, h.sm, h.os, h.om, fun e he => ⟨(h.pl e he).1.blk (q2.block _ (h.pl e he).1.lt (fun e' => by have := (h.pl e he).2; have := h.hs; omega)), (h.pl e he).2⟩⟩
theorem ScA.turn {W : World} {B s mb g m cap : Nat} {wv : Value} {es : List (Pk × S3)} {L : List Od} {x : Od} (h : ScA W B s mb wv (.slice (some ⟨g, 0, none⟩) (m + 1) cap) es (L ++ [x])) (hm : L.length = m) (j : Nat) (hj : j < 4) (u : Value) (x' : Od) (hx : encO x' = (encO x).set j u) : ScA (W.setCell ⟨g, m * 4 + j, none⟩ u) B s mb wv (.slice (some ⟨g, 0, none⟩) (m + 1) cap) es (L ++ [x']) := by
  subst hm
  have q2 : Qp (fun i => i = g) W (W.setCell ⟨g, L.length * 4 + j, none⟩ u) := (Qp.refl _ _).set _ _ (.inl rfl)
  have hs : ¬ (s = g) := fun e => h.os (by rw [e]; rfl)
  have hmb : ¬ (mb = g) := fun e => h.om (by rw [e]; rfl)
  have hg : B ≤ g := h.ow.blk g rfl
  have cs : ∀ j', (W.setCell ⟨g, L.length * 4 + j, none⟩ u).cell? ⟨s, j', none⟩ = W.cell? ⟨s, j', none⟩ := fun j' => q2.cell h.lt hs
  refine ⟨(cs 0).trans h.c0, (cs 1).trans h.c1, (cs 2).trans h.c2, (cs 3).trans h.c3, fun j => by rw [World.frozen?_setCell]; exact h.f j, h.mp.blk (q2.block mb h.mp.lt hmb), ?_, h.hs, h.hm, h.sm, h.os, h.om, fun e he => ⟨(h.pl e he).1.blk (q2.block _ (h.pl e he).1.lt (fun e' => by have := (h.pl e he).2; omega)), (h.pl e he).2⟩⟩
  have ow := h.ow
  have ow2 : Own encO 194 4 B W (.slice (some ⟨g, 0, none⟩) (L ++ [x]).length cap) (L ++ [x]) := by rw [List.length_append, List.length_singleton]; exact ow
  have r := ow2.set encO_len (i := L.length) (by rw [List.length_append, List.length_singleton]; omega) j hj u x' (by rw [List.getElem_append_right (Nat.le_refl _)]; simpa using hx)
  rw [List.set_append_right _ _ (Nat.le_refl _), Nat.sub_self, List.length_append, List.length_singleton] at r
  exact r
def DetQ (a1 : Act) (w1 : World) : Exit → Act → World → Prop
  | .panic _, _, _ => False
  | e, a, w => e = .normal ∧ a = a1 ∧ w = w1
theorem wp_region_det {P : Program} {id : Nat} {ops : Array Oper} {b : Bool} {Q : Exit → Act → World → Prop} {a : Act} {w : World} {a1 : Act} {w1 : World} (h : (Code.region id ops b).wp P (DetQ a1 w1) a w) (hq : Q .normal a1 w1) : (Code.region id ops b).wp P Q a w :=
  Code.wp_mono (fun e a w h => by
    cases e with
    | panic x => exact (h : False).elim
    | normal => obtain ⟨_, h2, h3⟩ := h; rw [h2, h3]; exact hq
    | _ => exact absurd h.1 (by intro e; cases e)) h
end Go.Proofs.YthebfhdpofhmpaaGreatDoor
