/- counterpaneref1.Sum, Add, Sub:. -/
import Derived.Test.YtfjpdopmojfchaaGreatDoorKc12
import Derived.Test.YtfjpdopmojfchaaGreatDoorKc00
import Derived.Test.YtfjpdopmojfchaaGreatDoorKc05
import Derived.Deep.CutBlock
set_option linter.unusedVariables false
set_option linter.unusedSimpArgs false
set_option maxRecDepth 100000
set_option maxHeartbeats 8000000
namespace Go.Proofs.YtfjpdopmojfchaaGreatDoor
open Go.RowKit
structure Ju (w : World) (b off : Nat) (z : Int) (k : Nat) (u0 u1 u2 u3 u4 u5 v0 v1 v2 v3 v4 v5 : Int) (W : World) : Prop where
  q : Q w W
  ru : Row W (w.heap.size) u0 u1 u2 u3 u4 u5
  rv : Row W (w.heap.size + 1) v0 v1 v2 v3 v4 v5
theorem Ju.on {w W W' : World} {b off k : Nat} {z u0 u1 u2 u3 u4 u5 v0 v1 v2 v3 v4 v5 : Int} (h : Ju w b off z k u0 u1 u2 u3 u4 u5 v0 v1 v2 v3 v4 v5 W) (g : Q W W') : Ju w b off z k u0 u1 u2 u3 u4 u5 v0 v1 v2 v3 v4 v5 W' :=
  ⟨h.q.trans g, h.ru.on g, h.rv.on g⟩
theorem Ju.drew {w W : World} {b off k : Nat} {z u0 u1 u2 u3 u4 u5 v0 v1 v2 v3 v4 v5 : Int} (h : Ju w b off z k u0 u1 u2 u3 u4 u5 v0 v1 v2 v3 v4 v5 W) : Ju w b off z k u0 u1 u2 u3 u4 u5 v0 v1 v2 v3 v4 v5 W.drew := h.on (Q.refl _).drew
theorem Ju.setU {w W : World} {b off k : Nat} {z u0 u1 u2 u3 u4 u5 v0 v1 v2 v3 v4 v5 s0 s1 s2 s3 s4 s5 : Int} (h : Ju w b off z k u0 u1 u2 u3 u4 u5 v0 v1 v2 v3 v4 v5 W) : Ju w b off z k s0 s1 s2 s3 s4 s5 v0 v1 v2 v3 v4 v5 (set6 W (w.heap.size) s0 s1 s2 s3 s4 s5) :=
  ⟨h.q.set6 (by omega), h.ru.set6, h.rv.far6 (by omega)⟩
theorem Ju.setV {w W : World} {b off k : Nat} {z u0 u1 u2 u3 u4 u5 v0 v1 v2 v3 v4 v5 s0 s1 s2 s3 s4 s5 : Int} (h : Ju w b off z k u0 u1 u2 u3 u4 u5 v0 v1 v2 v3 v4 v5 W) : Ju w b off z k u0 u1 u2 u3 u4 u5 s0 s1 s2 s3 s4 s5 (set6 W (w.heap.size + 1) s0 s1 s2 s3 s4 s5) :=
  ⟨h.q.set6 (by omega), h.ru.far6 (by omega), h.rv.set6⟩
set_option maxHeartbeats 4000000 in
theorem rsum_row (b off len cap : Nat) (zs : List Int) (w : World) (hl : zs.length = len) (hm : len ≤ 140737488355328) (hf : ∀ i, i < len → Fx (zs.getD i 0))
    (hc : ∀ i, i < len → w.cell? ⟨b, off + i, none⟩ = some (.int .i64 (zs.getD i 0))) :
    Calls Tryz.prog 77 #[.slice (some ⟨b, off, none⟩) len cap] w fun e w' => e = .returned (.tuple #[.int .i64 (keep zs.sum), .bool (fitB zs.sum)]) ∧ Q w w' := by
  have HC := hid hc
  have HF := hid hf
  have HL := hid hl
  clear hc hf hl
  go_enter Tryz.func77, Tryz.ntmps77
  go_wp2
  go_loopw [6] (fun i W => ∃ (k : Nat) (u0 u1 u2 u3 u4 u5 U v0 v1 v2 v3 v4 v5 V : Int), k ≤ len ∧ i = .int .i64 k ∧ Ju w b off 0 0 u0 u1 u2 u3 u4 u5 v0 v1 v2 v3 v4 v5 W ∧ Dg u0 u1 u2 u3 u4 u5 U ∧ Dg v0 v1 v2 v3 v4 v5 V ∧ Hid (U - V = (zs.take k).sum ∧ U ≤ k * 9223372036854775808 ∧ V ≤ k * 9223372036854775808)) (fun i _ => len - (intOf i).toNat)
  case atStart =>
    refine ⟨0, 0, 0, 0, 0, 0, 0, 0, 0, 0, 0, 0, 0, 0, 0, Nat.zero_le _, rfl, ⟨?_, ?_, ?_⟩, ?_, ?_, ?_⟩
    · repeat (first | exact Q.refl _ | refine Q.drew ?_ | refine Q.alloc ?_ _)
    · exact (row_new w 111 0 0 0 0 0 0).on (by repeat (first | exact Q.refl _ | refine Q.drew ?_ | refine Q.alloc ?_ _))
    · have h := row_new (w.alloc (.cells #[.int .u64 0, .int .u64 0, .int .u64 0, .int .u64 0, .int .u64 0, .int .u64 0] 111)) 111 0 0 0 0 0 0
      simp only [World.size_alloc] at h
      exact h.on (by repeat (first | exact Q.refl _ | refine Q.drew ?_ | refine Q.alloc ?_ _))
    · exact ⟨by omega, by omega, by omega, by omega, by omega, by omega, by omega, by omega, by omega, by omega, by omega, by omega, by omega⟩
    · exact ⟨by omega, by omega, by omega, by omega, by omega, by omega, by omega, by omega, by omega, by omega, by omega, by omega, by omega⟩
    · show _ ∧ _ ∧ _
      simp
  case round =>
    obtain ⟨k, u0, u1, u2, u3, u4, u5, U, v0, v1, v2, v3, v4, v5, V, hk, rfl, j0, du, dv, HS⟩ := hrel
    have DU := hid du
    have DV := hid dv
    clear du dv
    by_cases hlt : k < len
    · have hw := HC.out k hlt
      have hbw : b < w.heap.size := World.block_lt_of_cell? w ⟨b, off + k, none⟩ hw
      have cz : Hid (∀ W, Q w W → W.cell? ⟨b, off + k, none⟩ = some (.int .i64 (zs.getD k 0))) := fun W q => by rw [q.cell hbw]; exact hw
      have hfz := HF.out k hlt
      have ht : Hid ((zs.take (k + 1)).sum = (zs.take k).sum + zs.getD k 0) := by
        show _ = _
        have hl := HL.out
        rw [List.take_succ_eq_append_getElem (by omega), List.sum_append]
        simp [List.getD_eq_getElem?_getD, List.getElem?_eq_getElem (show k < zs.length by omega)]
      clear hw
      generalize zs.getD k 0 = z at *
      have FZ := hid hfz
      have lz := natAbs_lt hfz
      have cw := cz.out wr j0.q
      have HA := hid (fun W => abs_any z W FZ.out)
      have HO := hid (fun W => one_any (z.natAbs : Int) W (by omega) (by omega))
      clear hfz
      go_upto_block 1 with fail
      go_cut [] from 7 to 33 (fun W => ∃ (p0 p1 p2 p3 p4 p5 P m0 m1 m2 m3 m4 m5 M : Int), Ju w b off 0 0 p0 p1 p2 p3 p4 p5 m0 m1 m2 m3 m4 m5 W ∧ Dg p0 p1 p2 p3 p4 p5 P ∧ Dg m0 m1 m2 m3 m4 m5 M ∧ Hid (P - M = U - V + z ∧ P ≤ U + 9223372036854775808 ∧ M ≤ V + 9223372036854775808))
      case first =>
        by_cases hz : z < 0
        · have hpl : Hid (V + (z.natAbs : Int) < 6277101735386680763835789423207666416102355444464034512896) := by
            show _ < _
            have := HS.out; have := FZ.out.lo; omega
          have hn : Hid ((z.natAbs : Int) = -z ∧ (z.natAbs : Int) ≤ 9223372036854775808) := by show _ ∧ _; have := FZ.out.lo; omega
          clear lz
          have c0 := j0.rv.c0
          have c1 := j0.rv.c1
          have c2 := j0.rv.c2
          have c3 := j0.rv.c3
          have c4 := j0.rv.c4
          have c5 := j0.rv.c5
          go_wp2_with fail
          go_region_with (first
              | (go_at_call 102; refine (HA.out _).mono ?_; rintro e w1 ⟨rfl, rfl⟩)
              | (go_at_call 101; refine (HO.out _).mono ?_; rintro e w2 ⟨⟨x0, x1, x2, x3, x4, x5, rfl, dx⟩, q2⟩; have j2 := j0.drew.on q2; have cw2 := cz.out _ j2.q; have yc0 := j2.rv.c0; have yc1 := j2.rv.c1; have yc2 := j2.rv.c2; have yc3 := j2.rv.c3; have yc4 := j2.rv.c4; have yc5 := j2.rv.c5)
              | (go_at_call 118; refine (plus_any v0 v1 v2 v3 v4 v5 V x0 x1 x2 x3 x4 x5 (z.natAbs : Int) _ DV.out dx hpl.out).mono ?_; rintro e w3 ⟨⟨s0, s1, s2, s3, s4, s5, rfl, ds⟩, q3⟩; have j3 := j2.on q3; have tc0 := j3.rv.c0; have tc1 := j3.rv.c1; have tc2 := j3.rv.c2; have tc3 := j3.rv.c3; have tc4 := j3.rv.c4; have tc5 := j3.rv.c5; have tf0 := j3.rv.f0; have tf1 := j3.rv.f1; have tf2 := j3.rv.f2; have tf3 := j3.rv.f3; have tf4 := j3.rv.f4; have tf5 := j3.rv.f5))
          all_goals
            go_wp2_with fail
            go_meet
            case rel => exact ⟨u0, u1, u2, u3, u4, u5, U, s0, s1, s2, s3, s4, s5, _, j3.setV, DU.out, ds, by show _ ∧ _ ∧ _; have := hn.out; omega⟩
        · have hpl : Hid (U + (z.natAbs : Int) < 6277101735386680763835789423207666416102355444464034512896) := by
            show _ < _
            have := HS.out; have := FZ.out.hi; omega
          have hn : Hid ((z.natAbs : Int) = z ∧ (z.natAbs : Int) ≤ 9223372036854775808) := by show _ ∧ _; have := FZ.out.hi; omega
          clear lz
          have c0 := j0.ru.c0
          have c1 := j0.ru.c1
          have c2 := j0.ru.c2
          have c3 := j0.ru.c3
          have c4 := j0.ru.c4
          have c5 := j0.ru.c5
          go_wp2_with fail
          go_region_with (first
              | (go_at_call 102; refine (HA.out _).mono ?_; rintro e w1 ⟨rfl, rfl⟩)
              | (go_at_call 101; refine (HO.out _).mono ?_; rintro e w2 ⟨⟨x0, x1, x2, x3, x4, x5, rfl, dx⟩, q2⟩; have j2 := j0.drew.on q2; have cw2 := cz.out _ j2.q; have yc0 := j2.ru.c0; have yc1 := j2.ru.c1; have yc2 := j2.ru.c2; have yc3 := j2.ru.c3; have yc4 := j2.ru.c4; have yc5 := j2.ru.c5)
              | (go_at_call 118; refine (plus_any u0 u1 u2 u3 u4 u5 U x0 x1 x2 x3 x4 x5 (z.natAbs : Int) _ DU.out dx hpl.out).mono ?_; rintro e w3 ⟨⟨s0, s1, s2, s3, s4, s5, rfl, ds⟩, q3⟩; have j3 := j2.on q3; have tc0 := j3.ru.c0; have tc1 := j3.ru.c1; have tc2 := j3.ru.c2; have tc3 := j3.ru.c3; have tc4 := j3.ru.c4; have tc5 := j3.ru.c5; have tf0 := j3.ru.f0; have tf1 := j3.ru.f1; have tf2 := j3.ru.f2; have tf3 := j3.ru.f3; have tf4 := j3.ru.f4; have tf5 := j3.ru.f5))
          all_goals
            go_wp2_with fail
            go_meet
            case rel => exact ⟨s0, s1, s2, s3, s4, s5, _, v0, v1, v2, v3, v4, v5, V, j3.setU, ds, DV.out, by show _ ∧ _ ∧ _; have := hn.out; omega⟩
      case rest =>
        obtain ⟨p0, p1, p2, p3, p4, p5, P, m0, m1, m2, m3, m4, m5, M, jc, dp, dm, hs⟩ := hcut
        have hfin : Hid (P - M = (zs.take (k + 1)).sum ∧ P ≤ ((k + 1 : Nat) : Int) * 9223372036854775808 ∧ M ≤ ((k + 1 : Nat) : Int) * 9223372036854775808) := by
          have h1 := hs.out; have h2 := HS.out; have h3 := ht.out
          show _ ∧ _ ∧ _
          rw [h3]
          omega
        go_wp2
        go_roundw
        case rel => exact ⟨k + 1, p0, p1, p2, p3, p4, p5, P, m0, m1, m2, m3, m4, m5, M, by omega, by go_num, jc, dp, dm, hfin⟩
        case measure => simp [intOf]; omega
    · have hS : Hid (U - V = zs.sum) := by
        show _ = _
        have a := HS.out.1
        rw [List.take_of_length_le (by have := HL.out; omega)] at a
        exact a
      have hUV : Hid (U < 6277101735386680763835789423207666416102355444464034512896 ∧ 0 ≤ U ∧ 0 ≤ V) := by
        obtain ⟨x0, y0, x1, y1, x2, y2, x3, y3, x4, y4, x5, y5, ea⟩ := DU.out
        obtain ⟨a0, b0, a1, b1, a2, b2, a3, b3, a4, b4, a5, b5, eb⟩ := DV.out
        show _ ∧ _ ∧ _
        omega
      have L := hid (fun W => less_any u0 u1 u2 u3 u4 u5 U v0 v1 v2 v3 v4 v5 V W DU.out DV.out)
      have c0 := j0.ru.c0
      have c1 := j0.ru.c1
      have c2 := j0.ru.c2
      have c3 := j0.ru.c3
      have c4 := j0.ru.c4
      have c5 := j0.ru.c5
      have dc0 := j0.rv.c0
      have dc1 := j0.rv.c1
      have dc2 := j0.rv.c2
      have dc3 := j0.rv.c3
      have dc4 := j0.rv.c4
      have dc5 := j0.rv.c5
      by_cases hc : U < V
      · simp only [decide_eq_true hc] at L
        have M1 := hid (fun W => minus_any v0 v1 v2 v3 v4 v5 V u0 u1 u2 u3 u4 u5 U W DV.out DU.out (by omega))
        have hV : Hid (sgn (V - U) true = zs.sum) := by show -(V - U) = _; have := hS.out; omega
        clear hc
        go_wp2_with (first
          | (go_at_call 119; refine (L.out _).mono ?_; rintro e w5 ⟨rfl, q5⟩; have j5 := j0.on q5; have xc0 := j5.ru.c0; have xc1 := j5.ru.c1; have xc2 := j5.ru.c2; have xc3 := j5.ru.c3; have xc4 := j5.ru.c4; have xc5 := j5.ru.c5; have yc0 := j5.rv.c0; have yc1 := j5.rv.c1; have yc2 := j5.rv.c2; have yc3 := j5.rv.c3; have yc4 := j5.rv.c4; have yc5 := j5.rv.c5)
          | (go_at_call 120; refine (M1.out _).mono ?_; rintro e w6 ⟨⟨t0, t1, t2, t3, t4, t5, rfl, dt⟩, q6⟩)
          | (go_at_call 98; refine (fix_any t0 t1 t2 t3 t4 t5 _ true _ dt).mono ?_; rintro e w7 ⟨rfl, q7⟩))
        go_ret2
        exact ⟨ret_two (congrArg keep hV.out) (congrArg fitB hV.out), ((j0.q.trans q5).trans q6).trans q7⟩
      · simp only [decide_eq_false hc] at L
        have M1 := hid (fun W => minus_any u0 u1 u2 u3 u4 u5 U v0 v1 v2 v3 v4 v5 V W DU.out DV.out (by omega))
        have hV : Hid (sgn (U - V) false = zs.sum) := by show U - V = _; have := hS.out; omega
        clear hc
        go_wp2_with (first
          | (go_at_call 119; refine (L.out _).mono ?_; rintro e w5 ⟨rfl, q5⟩; have j5 := j0.on q5; have xc0 := j5.ru.c0; have xc1 := j5.ru.c1; have xc2 := j5.ru.c2; have xc3 := j5.ru.c3; have xc4 := j5.ru.c4; have xc5 := j5.ru.c5; have yc0 := j5.rv.c0; have yc1 := j5.rv.c1; have yc2 := j5.rv.c2; have yc3 := j5.rv.c3; have yc4 := j5.rv.c4; have yc5 := j5.rv.c5)
          | (go_at_call 120; refine (M1.out _).mono ?_; rintro e w6 ⟨⟨t0, t1, t2, t3, t4, t5, rfl, dt⟩, q6⟩)
          | (go_at_call 98; refine (fix_any t0 t1 t2 t3 t4 t5 _ false _ dt).mono ?_; rintro e w7 ⟨rfl, q7⟩))
        go_ret2
        exact ⟨ret_two (congrArg keep hV.out) (congrArg fitB hV.out), ((j0.q.trans q5).trans q6).trans q7⟩
end Go.Proofs.YtfjpdopmojfchaaGreatDoor
