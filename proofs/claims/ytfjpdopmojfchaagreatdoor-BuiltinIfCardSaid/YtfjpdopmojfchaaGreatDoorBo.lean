/- BuiltinIf: the walk. -/
import Derived.Test.YtfjpdopmojfchaaGreatDoorBn
import Derived.Deep.CutBlock
namespace Go.Proofs.YtfjpdopmojfchaaGreatDoor
open Go.RowKit
set_option linter.unusedVariables false
set_option linter.unusedSimpArgs false
/-- two values in their boxes -/
structure Bp (w : World) (a b : Cv) (W : World) : Prop where
  q : Q w W
  x : Bx W w.heap.size (.int .i64 a.k) (.int .i64 a.n) (.string a.t) (.bool a.b) (.int .i64 a.e)
  y : Bx W (w.heap.size + 1) (.int .i64 b.k) (.int .i64 b.n) (.string b.t) (.bool b.b) (.int .i64 b.e)
theorem Bp.on {w W W' : World} {a b : Cv} (h : Bp w a b W) (g : Q W W') : Bp w a b W' := ⟨h.q.trans g, h.x.on g, h.y.on g⟩
theorem Bp.drew {w W : World} {a b : Cv} (h : Bp w a b W) : Bp w a b W.drew := h.on (Q.refl _).drew
theorem bp_new (w : World) (a b : Cv) : Bp w a b ((w.alloc (.cells #[.int .i64 a.k, .int .i64 a.n, .string a.t, .bool a.b, .int .i64 a.e] 37)).alloc (.cells #[.int .i64 b.k, .int .i64 b.n, .string b.t, .bool b.b, .int .i64 b.e] 37)) := by
  refine ⟨((Q.refl _).alloc _).alloc _, (bx_new w _ _ _ _ _).on ((Q.refl _).alloc _), ?_⟩
  have h := bx_new (w.alloc (.cells #[.int .i64 a.k, .int .i64 a.n, .string a.t, .bool a.b, .int .i64 a.e] 37)) (.int .i64 b.k) (.int .i64 b.n) (.string b.t) (.bool b.b) (.int .i64 b.e)
  rw [World.size_alloc] at h
  exact h
theorem Bp.setTwo {w W : World} {a b : Cv} (J : Bp w a b W) (x z : Cv) : Bp w x z (set5 (set5 W w.heap.size (.int .i64 x.k) (.int .i64 x.n) (.string x.t) (.bool x.b) (.int .i64 x.e)) (w.heap.size + 1) (.int .i64 z.k) (.int .i64 z.n) (.string z.t) (.bool z.b) (.int .i64 z.e)) :=
  ⟨(J.q.set5 (Nat.le_refl _)).set5 (by omega), J.x.set5.far5 (by omega), (J.y.far5 (by omega)).set5⟩
theorem cutv_any (x : Cv) (w : World) : Calls Tryz.prog 17 #[x.v] w fun r w' => r = .returned x.cut.v ∧ Q w w' := cut_any2 x.k x.n x.t x.b x.e w
theorem cut_sm (x : Cv) : (x.cut.t.size : Int) ≤ 250 := by have := cutT_size x.t; show ((cutT x.t).size : Int) ≤ 250; omega
theorem cut_sm' (x : Cv) : x.cut.sm := by have := cut_sm x; unfold Cv.sm; omega
theorem rmayv_any (x : Cv) (w : World) (hs : x.sm) : Calls Tryz.prog 23 #[x.v] w fun r w' => r = .returned (.bool x.may) ∧ Q w w' := rmay_any x.k x.n x.t x.b x.e w hs
theorem eqv_same (x : Cv) (w : World) : Calls Tryz.prog 12 #[x.v, x.v] w fun r w' => r = .returned (.bool true) ∧ Q w w' := by
  have h := req_any x.k x.n x.t x.b x.e x.k x.n x.t x.b x.e w
  have e : eqB x.k x.n x.t.toList x.b x.e x.k x.n x.t.toList x.b x.e = true := by unfold eqB; simp
  rw [e] at h
  exact h
theorem args2 {V : World} {s1 s2 : Value} {x1 x2 : Cv} (h1 : Sl Cv.cells 5 V s1 [x1]) (h2 : Sl Cv.cells 5 V s2 [x2]) : Args (V.alloc (.cells #[.bool false, s1, .bool false, s2] 32)) (.slice (some ⟨V.heap.size, 0, none⟩) 2 2) (sg [(s1, x1), (s2, x2)]) := by
  refine ⟨sl_lit Ag.len V (sg [(s1, x1), (s2, x2)]) 2 rfl (by omega) 32, fun a ha => ?_⟩
  simp only [sg, List.map_cons, List.map_nil, List.mem_cons, List.not_mem_nil, or_false] at ha
  rcases ha with rfl | rfl
  · exact h1.on ((Q.refl _).alloc _)
  · exact h2.on ((Q.refl _).alloc _)
theorem args3 {V : World} {s1 s2 s3 : Value} {x1 x2 x3 : Cv} (h1 : Sl Cv.cells 5 V s1 [x1]) (h2 : Sl Cv.cells 5 V s2 [x2]) (h3 : Sl Cv.cells 5 V s3 [x3]) : Args (V.alloc (.cells #[.bool false, s1, .bool false, s2, .bool false, s3] 32)) (.slice (some ⟨V.heap.size, 0, none⟩) 3 3) (sg [(s1, x1), (s2, x2), (s3, x3)]) := by
  refine ⟨sl_lit Ag.len V (sg [(s1, x1), (s2, x2), (s3, x3)]) 3 rfl (by omega) 32, fun a ha => ?_⟩
  simp only [sg, List.map_cons, List.map_nil, List.mem_cons, List.not_mem_nil, or_false] at ha
  rcases ha with rfl | rfl | rfl
  · exact h1.on ((Q.refl _).alloc _)
  · exact h2.on ((Q.refl _).alloc _)
  · exact h3.on ((Q.refl _).alloc _)
theorem bsin {W : World} {p F : Nat} {f : Value} (hf : f = .func (.func 110) #[] #[.pointer (some ⟨p, 0, none⟩)]) (h : SinV W f F) : W.cell? ⟨p, 0, none⟩ = some (.func (.func F) #[] #[]) := by
  obtain ⟨p', e, c⟩ := h
  rw [hf] at e
  simp at e
  subst e
  exact c
/-- IF of three, of two -/
theorem if3 (c : Bool) (a b : Cv) (V : World) (hw : Std2 V) (ha : a.may = true) (hb : b.may = true) (sa : a.sm) (sb : b.sm) (s1 s2 s3 : Value) (h1 : Sl Cv.cells 5 V s1 [bo c]) (h2 : Sl Cv.cells 5 V s2 [a]) (h3 : Sl Cv.cells 5 V s3 [b]) :
    Calls Tryz.prog 13 #[.string ⟨#[73, 70]⟩, .slice (some ⟨V.heap.size, 0, none⟩) 3 3] (V.alloc (.cells #[.bool false, s1, .bool false, s2, .bool false, s3] 32)) fun r V' => r = .returned (if c = true then a else b).v ∧ Q V V' := by
  refine (call_if (some ⟨V.heap.size, 0, none⟩) 3 3 (if c = true then a else b) _ (by omega) (by omega) (fun W f p hf q hv => ?_)).mono fun r W' h => ⟨h.1, ((Q.refl _).alloc _).trans h.2⟩
  refine sing75 [(s1, bo c), (s2, a), (s3, b)] _ _ p W (hw.on (((Q.refl _).alloc _).trans q)) ((args3 h1 h2 h3).on q) (by simp) (fun p hp => ?_) (bsin hf hv) (fun W' s q' hs => ?_)
  · simp only [List.mem_cons, List.not_mem_nil, or_false] at hp
    rcases hp with rfl | rfl | rfl
    · exact nil_sm
    · exact sa
    · exact sb
  · simp only [List.map_cons, List.map_nil, ctd_may ha, ctd_may hb, ctd_may (bo_may c)] at hs
    have hW := hw.on ((((Q.refl _).alloc _).trans q).trans q')
    cases c
    · exact choose3_f a b s W' hW hs
    · exact choose3_t a b s W' hW hs
theorem if2 (c : Bool) (a : Cv) (V : World) (hw : Std2 V) (ha : a.may = true) (sa : a.sm) (s1 s2 : Value) (h1 : Sl Cv.cells 5 V s1 [bo c]) (h2 : Sl Cv.cells 5 V s2 [a]) :
    Calls Tryz.prog 13 #[.string ⟨#[73, 70]⟩, .slice (some ⟨V.heap.size, 0, none⟩) 2 2] (V.alloc (.cells #[.bool false, s1, .bool false, s2] 32)) fun r V' => r = .returned (if c = true then a else bo false).v ∧ Q V V' := by
  refine (call_if (some ⟨V.heap.size, 0, none⟩) 2 2 (if c = true then a else bo false) _ (by omega) (by omega) (fun W f p hf q hv => ?_)).mono fun r W' h => ⟨h.1, ((Q.refl _).alloc _).trans h.2⟩
  refine sing75 [(s1, bo c), (s2, a)] _ _ p W (hw.on (((Q.refl _).alloc _).trans q)) ((args2 h1 h2).on q) (by simp) (fun p hp => ?_) (bsin hf hv) (fun W' s q' hs => ?_)
  · simp only [List.mem_cons, List.not_mem_nil, or_false] at hp
    rcases hp with rfl | rfl
    · exact nil_sm
    · exact sa
  · simp only [List.map_cons, List.map_nil, ctd_may ha, ctd_may (bo_may c)] at hs
    have hW := hw.on ((((Q.refl _).alloc _).trans q).trans q')
    cases c
    · exact choose2_f a a s W' hW hs
    · exact choose2_t a a s W' hW hs
end Go.Proofs.YtfjpdopmojfchaaGreatDoor
