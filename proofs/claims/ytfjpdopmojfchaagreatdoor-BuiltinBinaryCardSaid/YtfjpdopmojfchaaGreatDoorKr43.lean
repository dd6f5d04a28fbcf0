/- The reference's Binary, of values that may be; The reference's Binary, of values that may be; The reference's Binary, of values that may be. -/
import Derived.Test.YtfjpdopmojfchaaGreatDoorKr35
import Derived.Deep.CutBlock
import Derived.Deep.RegionHeld3
set_option linter.unusedVariables false
set_option linter.unusedSimpArgs false
namespace Go.Proofs.YtfjpdopmojfchaaGreatDoor
open Go.RowKit
set_option maxRecDepth 100000 in
set_option maxHeartbeats 8000000 in
theorem rbin_eq (a b : Cv) (w : World) (ha : a.sm) (hb : b.sm) (ma : a.may = true) (mb : b.may = true) (ka : a.k ≠ 4) (kb : b.k ≠ 4) (he : worst [a, b] = 0) (c : Int) (hc : cvC (lk a b) (lk b a) = c) :
    Calls Tryz.prog 19 #[.string ⟨#[61]⟩, a.v, b.v] w fun r w' => r = .returned (bo ((c == 0))).v ∧ Q w w' := by
  have J := bb3_new w a b
  have HM := hid (fun W => rmayv_any a W ha)
  have HM' := hid (fun W => rmayv_any b W hb)
  rw [ma] at HM
  rw [mb] at HM'
  have HWo := hid (rworst2_any a b ha hb)
  rw [he] at HWo
  have HL := hid (fun W => rlike_any a b W ma mb kb)
  have HL' := hid (fun W => rlike_any b a W mb ma ka)
  have HC := hid (fun W => rcmpC_any (lk a b) (lk b a) W (lk_sm ha) (lk_sm hb))
  rw [hc] at HC
  have HT := hid (fun W => boo_any ((c == 0)) W)
  simp only [bo] at HT ⊢
  generalize lk a b = p at *
  generalize lk b a = q at *
  clear ha hb ma mb ka kb he hc
  obtain ⟨ak, an, at', ab, ae⟩ := a
  obtain ⟨bk, bn, bt, bb, be⟩ := b
  obtain ⟨pk, pn, pt, pb, pe⟩ := p
  obtain ⟨qk, qn, qt, qb, qe⟩ := q
  simp only [Cv.v, vv] at *
  go_enter Tryz.func19, Tryz.ntmps19
  go_upto_region 21 with (first
    | (go_at_call_of 23 at'; refine (HM.out _).mono ?_; rintro r w1 ⟨rfl, q2⟩; replace J := J.on q2; clear q2; have px0 := J.x.c0; have px1 := J.x.c1; have px2 := J.x.c2; have px3 := J.x.c3; have px4 := J.x.c4; have py0 := J.y.c0; have py1 := J.y.c1; have py2 := J.y.c2; have py3 := J.y.c3; have py4 := J.y.c4)
    | (go_at_call_of 23 bt; refine (HM'.out _).mono ?_; rintro r w2 ⟨rfl, q2⟩; replace J := J.on q2; clear q2; have sx0 := J.x.c0; have sx1 := J.x.c1; have sx2 := J.x.c2; have sx3 := J.x.c3; have sx4 := J.x.c4; have sy0 := J.y.c0; have sy1 := J.y.c1; have sy2 := J.y.c2; have sy3 := J.y.c3; have sy4 := J.y.c4)
    | (go_at_call 22; refine (HWo.out _).mono ?_; rintro r w4 ⟨rfl, q2⟩; replace J := J.on q2; clear q2))
  go_cut [12] from 66 to 72 (fun v W => v = .int .i64 c ∧ Bb3 w ⟨ak, an, at', ab, ae⟩ ⟨bk, bn, bt, bb, be⟩ W)
  case first =>
    have T0 : Hid True := trivial
    have s0 := hid (J.drew)
    have kx0 : ∀ V, Bb3 w ⟨ak, an, at', ab, ae⟩ ⟨bk, bn, bt, bb, be⟩ V → V.cell? ⟨w.heap.size, 0, none⟩ = some (.int .i64 ak) := fun V h => h.x.c0
    have kx1 : ∀ V, Bb3 w ⟨ak, an, at', ab, ae⟩ ⟨bk, bn, bt, bb, be⟩ V → V.cell? ⟨w.heap.size, 1, none⟩ = some (.int .i64 an) := fun V h => h.x.c1
    have kx2 : ∀ V, Bb3 w ⟨ak, an, at', ab, ae⟩ ⟨bk, bn, bt, bb, be⟩ V → V.cell? ⟨w.heap.size, 2, none⟩ = some (.string at') := fun V h => h.x.c2
    have kx3 : ∀ V, Bb3 w ⟨ak, an, at', ab, ae⟩ ⟨bk, bn, bt, bb, be⟩ V → V.cell? ⟨w.heap.size, 3, none⟩ = some (.bool ab) := fun V h => h.x.c3
    have kx4 : ∀ V, Bb3 w ⟨ak, an, at', ab, ae⟩ ⟨bk, bn, bt, bb, be⟩ V → V.cell? ⟨w.heap.size, 4, none⟩ = some (.int .i64 ae) := fun V h => h.x.c4
    have kz0 : ∀ V, Bb3 w ⟨ak, an, at', ab, ae⟩ ⟨bk, bn, bt, bb, be⟩ V → V.cell? ⟨w.heap.size + 1, 0, none⟩ = some (.int .i64 bk) := fun V h => h.y.c0
    have kz1 : ∀ V, Bb3 w ⟨ak, an, at', ab, ae⟩ ⟨bk, bn, bt, bb, be⟩ V → V.cell? ⟨w.heap.size + 1, 1, none⟩ = some (.int .i64 bn) := fun V h => h.y.c1
    have kz2 : ∀ V, Bb3 w ⟨ak, an, at', ab, ae⟩ ⟨bk, bn, bt, bb, be⟩ V → V.cell? ⟨w.heap.size + 1, 2, none⟩ = some (.string bt) := fun V h => h.y.c2
    have kz3 : ∀ V, Bb3 w ⟨ak, an, at', ab, ae⟩ ⟨bk, bn, bt, bb, be⟩ V → V.cell? ⟨w.heap.size + 1, 3, none⟩ = some (.bool bb) := fun V h => h.y.c3
    have kz4 : ∀ V, Bb3 w ⟨ak, an, at', ab, ae⟩ ⟨bk, bn, bt, bb, be⟩ V → V.cell? ⟨w.heap.size + 1, 4, none⟩ = some (.int .i64 be) := fun V h => h.y.c4
    go_region_held3 (Bb3 w ⟨ak, an, at', ab, ae⟩ ⟨bk, bn, bt, bb, be⟩) (with_reducible (first | exact s0.out | exact s1.out | exact s2.out | exact s3.out)) (first
      | (go_at_call 48; clear T0; refine (HL.out _).mono ?_; rintro r w5 ⟨rfl, q2⟩; have s1 := hid (s0.out.on q2); clear q2)
      | (go_at_call 48; refine (HL'.out _).mono ?_; rintro r w6 ⟨rfl, q2⟩; have s2 := hid (s1.out.on q2); clear q2)
      | (go_at_call 47; refine (HC.out _).mono ?_; rintro r w7 ⟨rfl, q2⟩; have s3 := hid (s2.out.on q2); clear q2))
    all_goals
      go_wp2_with fail
      go_meet
      case rel => exact ⟨rfl, s3.out⟩
  case rest =>
    obtain ⟨rfl, J⟩ := hcut
    go_wp2_with (go_at_call 25; refine (HT.out _).mono ?_; rintro r w8 ⟨rfl, q2⟩; replace J := J.on q2; clear q2; have rz0 := J.z.c0; have rz1 := J.z.c1; have rz2 := J.z.c2; have rz3 := J.z.c3; have rz4 := J.z.c4; have rfz0 := J.z.f0; have rfz1 := J.z.f1; have rfz2 := J.z.f2; have rfz3 := J.z.f3; have rfz4 := J.z.f4)
    exact bodyPost_ret (v := .agg #[.int .i64 3, .int .i64 0, .string ⟨#[]⟩, .bool ((c == 0)), .int .i64 0]) (by simp [results, Tryz.results19, go_sem, rz0, rz1, rz2, rz3, rz4]) rfl ⟨rfl, Q5 J.q (by omega)⟩
set_option maxRecDepth 100000 in
set_option maxHeartbeats 8000000 in
theorem rbin_ne (a b : Cv) (w : World) (ha : a.sm) (hb : b.sm) (ma : a.may = true) (mb : b.may = true) (ka : a.k ≠ 4) (kb : b.k ≠ 4) (he : worst [a, b] = 0) (c : Int) (hc : cvC (lk a b) (lk b a) = c) :
    Calls Tryz.prog 19 #[.string ⟨#[60, 62]⟩, a.v, b.v] w fun r w' => r = .returned (bo ((c != 0))).v ∧ Q w w' := by
  have J := bb3_new w a b
  have HM := hid (fun W => rmayv_any a W ha)
  have HM' := hid (fun W => rmayv_any b W hb)
  rw [ma] at HM
  rw [mb] at HM'
  have HWo := hid (rworst2_any a b ha hb)
  rw [he] at HWo
  have HL := hid (fun W => rlike_any a b W ma mb kb)
  have HL' := hid (fun W => rlike_any b a W mb ma ka)
  have HC := hid (fun W => rcmpC_any (lk a b) (lk b a) W (lk_sm ha) (lk_sm hb))
  rw [hc] at HC
  have HT := hid (fun W => boo_any ((c != 0)) W)
  simp only [bo] at HT ⊢
  generalize lk a b = p at *
  generalize lk b a = q at *
  clear ha hb ma mb ka kb he hc
  obtain ⟨ak, an, at', ab, ae⟩ := a
  obtain ⟨bk, bn, bt, bb, be⟩ := b
  obtain ⟨pk, pn, pt, pb, pe⟩ := p
  obtain ⟨qk, qn, qt, qb, qe⟩ := q
  simp only [Cv.v, vv] at *
  go_enter Tryz.func19, Tryz.ntmps19
  go_upto_region 21 with (first
    | (go_at_call_of 23 at'; refine (HM.out _).mono ?_; rintro r w1 ⟨rfl, q2⟩; replace J := J.on q2; clear q2; have px0 := J.x.c0; have px1 := J.x.c1; have px2 := J.x.c2; have px3 := J.x.c3; have px4 := J.x.c4; have py0 := J.y.c0; have py1 := J.y.c1; have py2 := J.y.c2; have py3 := J.y.c3; have py4 := J.y.c4)
    | (go_at_call_of 23 bt; refine (HM'.out _).mono ?_; rintro r w2 ⟨rfl, q2⟩; replace J := J.on q2; clear q2; have sx0 := J.x.c0; have sx1 := J.x.c1; have sx2 := J.x.c2; have sx3 := J.x.c3; have sx4 := J.x.c4; have sy0 := J.y.c0; have sy1 := J.y.c1; have sy2 := J.y.c2; have sy3 := J.y.c3; have sy4 := J.y.c4)
    | (go_at_call 22; refine (HWo.out _).mono ?_; rintro r w4 ⟨rfl, q2⟩; replace J := J.on q2; clear q2))
  go_cut [12] from 66 to 72 (fun v W => v = .int .i64 c ∧ Bb3 w ⟨ak, an, at', ab, ae⟩ ⟨bk, bn, bt, bb, be⟩ W)
  case first =>
    have T0 : Hid True := trivial
    have s0 := hid (J.drew)
    have kx0 : ∀ V, Bb3 w ⟨ak, an, at', ab, ae⟩ ⟨bk, bn, bt, bb, be⟩ V → V.cell? ⟨w.heap.size, 0, none⟩ = some (.int .i64 ak) := fun V h => h.x.c0
    have kx1 : ∀ V, Bb3 w ⟨ak, an, at', ab, ae⟩ ⟨bk, bn, bt, bb, be⟩ V → V.cell? ⟨w.heap.size, 1, none⟩ = some (.int .i64 an) := fun V h => h.x.c1
    have kx2 : ∀ V, Bb3 w ⟨ak, an, at', ab, ae⟩ ⟨bk, bn, bt, bb, be⟩ V → V.cell? ⟨w.heap.size, 2, none⟩ = some (.string at') := fun V h => h.x.c2
    have kx3 : ∀ V, Bb3 w ⟨ak, an, at', ab, ae⟩ ⟨bk, bn, bt, bb, be⟩ V → V.cell? ⟨w.heap.size, 3, none⟩ = some (.bool ab) := fun V h => h.x.c3
    have kx4 : ∀ V, Bb3 w ⟨ak, an, at', ab, ae⟩ ⟨bk, bn, bt, bb, be⟩ V → V.cell? ⟨w.heap.size, 4, none⟩ = some (.int .i64 ae) := fun V h => h.x.c4
    have kz0 : ∀ V, Bb3 w ⟨ak, an, at', ab, ae⟩ ⟨bk, bn, bt, bb, be⟩ V → V.cell? ⟨w.heap.size + 1, 0, none⟩ = some (.int .i64 bk) := fun V h => h.y.c0
    have kz1 : ∀ V, Bb3 w ⟨ak, an, at', ab, ae⟩ ⟨bk, bn, bt, bb, be⟩ V → V.cell? ⟨w.heap.size + 1, 1, none⟩ = some (.int .i64 bn) := fun V h => h.y.c1
    have kz2 : ∀ V, Bb3 w ⟨ak, an, at', ab, ae⟩ ⟨bk, bn, bt, bb, be⟩ V → V.cell? ⟨w.heap.size + 1, 2, none⟩ = some (.string bt) := fun V h => h.y.c2
    have kz3 : ∀ V, Bb3 w ⟨ak, an, at', ab, ae⟩ ⟨bk, bn, bt, bb, be⟩ V → V.cell? ⟨w.heap.size + 1, 3, none⟩ = some (.bool bb) := fun V h => h.y.c3
    have kz4 : ∀ V, Bb3 w ⟨ak, an, at', ab, ae⟩ ⟨bk, bn, bt, bb, be⟩ V → V.cell? ⟨w.heap.size + 1, 4, none⟩ = some (.int .i64 be) := fun V h => h.y.c4
    go_region_held3 (Bb3 w ⟨ak, an, at', ab, ae⟩ ⟨bk, bn, bt, bb, be⟩) (with_reducible (first | exact s0.out | exact s1.out | exact s2.out | exact s3.out)) (first
      | (go_at_call 48; clear T0; refine (HL.out _).mono ?_; rintro r w5 ⟨rfl, q2⟩; have s1 := hid (s0.out.on q2); clear q2)
      | (go_at_call 48; refine (HL'.out _).mono ?_; rintro r w6 ⟨rfl, q2⟩; have s2 := hid (s1.out.on q2); clear q2)
      | (go_at_call 47; refine (HC.out _).mono ?_; rintro r w7 ⟨rfl, q2⟩; have s3 := hid (s2.out.on q2); clear q2))
    all_goals
      go_wp2_with fail
      go_meet
      case rel => exact ⟨rfl, s3.out⟩
  case rest =>
    obtain ⟨rfl, J⟩ := hcut
    go_wp2_with (go_at_call 25; refine (HT.out _).mono ?_; rintro r w8 ⟨rfl, q2⟩; replace J := J.on q2; clear q2; have rz0 := J.z.c0; have rz1 := J.z.c1; have rz2 := J.z.c2; have rz3 := J.z.c3; have rz4 := J.z.c4; have rfz0 := J.z.f0; have rfz1 := J.z.f1; have rfz2 := J.z.f2; have rfz3 := J.z.f3; have rfz4 := J.z.f4)
    exact bodyPost_ret (v := .agg #[.int .i64 3, .int .i64 0, .string ⟨#[]⟩, .bool ((c != 0)), .int .i64 0]) (by simp [results, Tryz.results19, go_sem, rz0, rz1, rz2, rz3, rz4]) rfl ⟨rfl, Q5 J.q (by omega)⟩
set_option maxRecDepth 100000 in
set_option maxHeartbeats 8000000 in
theorem rbin_lt (a b : Cv) (w : World) (ha : a.sm) (hb : b.sm) (ma : a.may = true) (mb : b.may = true) (ka : a.k ≠ 4) (kb : b.k ≠ 4) (he : worst [a, b] = 0) (c : Int) (hc : cvC (lk a b) (lk b a) = c) :
    Calls Tryz.prog 19 #[.string ⟨#[60]⟩, a.v, b.v] w fun r w' => r = .returned (bo (decide (c < 0))).v ∧ Q w w' := by
  have J := bb3_new w a b
  have HM := hid (fun W => rmayv_any a W ha)
  have HM' := hid (fun W => rmayv_any b W hb)
  rw [ma] at HM
  rw [mb] at HM'
  have HWo := hid (rworst2_any a b ha hb)
  rw [he] at HWo
  have HL := hid (fun W => rlike_any a b W ma mb kb)
  have HL' := hid (fun W => rlike_any b a W mb ma ka)
  have HC := hid (fun W => rcmpC_any (lk a b) (lk b a) W (lk_sm ha) (lk_sm hb))
  rw [hc] at HC
  have HT := hid (fun W => boo_any (decide (c < 0)) W)
  simp only [bo] at HT ⊢
  generalize lk a b = p at *
  generalize lk b a = q at *
  clear ha hb ma mb ka kb he hc
  obtain ⟨ak, an, at', ab, ae⟩ := a
  obtain ⟨bk, bn, bt, bb, be⟩ := b
  obtain ⟨pk, pn, pt, pb, pe⟩ := p
  obtain ⟨qk, qn, qt, qb, qe⟩ := q
  simp only [Cv.v, vv] at *
  go_enter Tryz.func19, Tryz.ntmps19
  go_upto_region 21 with (first
    | (go_at_call_of 23 at'; refine (HM.out _).mono ?_; rintro r w1 ⟨rfl, q2⟩; replace J := J.on q2; clear q2; have px0 := J.x.c0; have px1 := J.x.c1; have px2 := J.x.c2; have px3 := J.x.c3; have px4 := J.x.c4; have py0 := J.y.c0; have py1 := J.y.c1; have py2 := J.y.c2; have py3 := J.y.c3; have py4 := J.y.c4)
    | (go_at_call_of 23 bt; refine (HM'.out _).mono ?_; rintro r w2 ⟨rfl, q2⟩; replace J := J.on q2; clear q2; have sx0 := J.x.c0; have sx1 := J.x.c1; have sx2 := J.x.c2; have sx3 := J.x.c3; have sx4 := J.x.c4; have sy0 := J.y.c0; have sy1 := J.y.c1; have sy2 := J.y.c2; have sy3 := J.y.c3; have sy4 := J.y.c4)
    | (go_at_call 22; refine (HWo.out _).mono ?_; rintro r w4 ⟨rfl, q2⟩; replace J := J.on q2; clear q2))
  go_cut [12] from 66 to 72 (fun v W => v = .int .i64 c ∧ Bb3 w ⟨ak, an, at', ab, ae⟩ ⟨bk, bn, bt, bb, be⟩ W)
  case first =>
    have T0 : Hid True := trivial
    have s0 := hid (J.drew)
    have kx0 : ∀ V, Bb3 w ⟨ak, an, at', ab, ae⟩ ⟨bk, bn, bt, bb, be⟩ V → V.cell? ⟨w.heap.size, 0, none⟩ = some (.int .i64 ak) := fun V h => h.x.c0
    have kx1 : ∀ V, Bb3 w ⟨ak, an, at', ab, ae⟩ ⟨bk, bn, bt, bb, be⟩ V → V.cell? ⟨w.heap.size, 1, none⟩ = some (.int .i64 an) := fun V h => h.x.c1
    have kx2 : ∀ V, Bb3 w ⟨ak, an, at', ab, ae⟩ ⟨bk, bn, bt, bb, be⟩ V → V.cell? ⟨w.heap.size, 2, none⟩ = some (.string at') := fun V h => h.x.c2
    have kx3 : ∀ V, Bb3 w ⟨ak, an, at', ab, ae⟩ ⟨bk, bn, bt, bb, be⟩ V → V.cell? ⟨w.heap.size, 3, none⟩ = some (.bool ab) := fun V h => h.x.c3
    have kx4 : ∀ V, Bb3 w ⟨ak, an, at', ab, ae⟩ ⟨bk, bn, bt, bb, be⟩ V → V.cell? ⟨w.heap.size, 4, none⟩ = some (.int .i64 ae) := fun V h => h.x.c4
    have kz0 : ∀ V, Bb3 w ⟨ak, an, at', ab, ae⟩ ⟨bk, bn, bt, bb, be⟩ V → V.cell? ⟨w.heap.size + 1, 0, none⟩ = some (.int .i64 bk) := fun V h => h.y.c0
    have kz1 : ∀ V, Bb3 w ⟨ak, an, at', ab, ae⟩ ⟨bk, bn, bt, bb, be⟩ V → V.cell? ⟨w.heap.size + 1, 1, none⟩ = some (.int .i64 bn) := fun V h => h.y.c1
    have kz2 : ∀ V, Bb3 w ⟨ak, an, at', ab, ae⟩ ⟨bk, bn, bt, bb, be⟩ V → V.cell? ⟨w.heap.size + 1, 2, none⟩ = some (.string bt) := fun V h => h.y.c2
    have kz3 : ∀ V, Bb3 w ⟨ak, an, at', ab, ae⟩ ⟨bk, bn, bt, bb, be⟩ V → V.cell? ⟨w.heap.size + 1, 3, none⟩ = some (.bool bb) := fun V h => h.y.c3
    have kz4 : ∀ V, Bb3 w ⟨ak, an, at', ab, ae⟩ ⟨bk, bn, bt, bb, be⟩ V → V.cell? ⟨w.heap.size + 1, 4, none⟩ = some (.int .i64 be) := fun V h => h.y.c4
    go_region_held3 (Bb3 w ⟨ak, an, at', ab, ae⟩ ⟨bk, bn, bt, bb, be⟩) (with_reducible (first | exact s0.out | exact s1.out | exact s2.out | exact s3.out)) (first
      | (go_at_call 48; clear T0; refine (HL.out _).mono ?_; rintro r w5 ⟨rfl, q2⟩; have s1 := hid (s0.out.on q2); clear q2)
      | (go_at_call 48; refine (HL'.out _).mono ?_; rintro r w6 ⟨rfl, q2⟩; have s2 := hid (s1.out.on q2); clear q2)
      | (go_at_call 47; refine (HC.out _).mono ?_; rintro r w7 ⟨rfl, q2⟩; have s3 := hid (s2.out.on q2); clear q2))
    all_goals
      go_wp2_with fail
      go_meet
      case rel => exact ⟨rfl, s3.out⟩
  case rest =>
    obtain ⟨rfl, J⟩ := hcut
    go_wp2_with (go_at_call 25; refine (HT.out _).mono ?_; rintro r w8 ⟨rfl, q2⟩; replace J := J.on q2; clear q2; have rz0 := J.z.c0; have rz1 := J.z.c1; have rz2 := J.z.c2; have rz3 := J.z.c3; have rz4 := J.z.c4; have rfz0 := J.z.f0; have rfz1 := J.z.f1; have rfz2 := J.z.f2; have rfz3 := J.z.f3; have rfz4 := J.z.f4)
    exact bodyPost_ret (v := .agg #[.int .i64 3, .int .i64 0, .string ⟨#[]⟩, .bool (decide (c < 0)), .int .i64 0]) (by simp [results, Tryz.results19, go_sem, rz0, rz1, rz2, rz3, rz4]) rfl ⟨rfl, Q5 J.q (by omega)⟩
end Go.Proofs.YtfjpdopmojfchaaGreatDoor
