/- New, Sync, Units, Read; a copy; shortening. -/
import Derived.Test.YtbknbffmpnomlaaDi
import Derived.Laws.MakeOwn
import Derived.Lib.SliceRun
namespace Go.Proofs.Ytbknbffmpnomlaa
open Go.RowKit
set_option linter.unusedVariables false
set_option linter.unusedSimpArgs false
variable {S S' : Nat → Prop} {w w' : World} {p : Nat} {mv : Option Nat} {n : Nat} {f : Fv} {pv : Value} {ms : List Mk} {u s : Nat}
/-- a copy -/
theorem clone_any (v : Value) (L : List UInt8) (w : World) (hv : Sb w v L) (hl : L.length ≤ 140737488355328) :
    Calls Try.prog 23 #[v] w fun e W' => ∃ v', e = .returned v' ∧ Own eb 5 1 w.heap.size W' v' L ∧ Q w W' := by
  have HV := hid hv
  obtain ⟨ao, cap, rfl, h1, h2⟩ := hv.s.len
  have hn := hv.n L.length cap
  have q30 : ∀ (w : World) (a : Option Addr) (n c n' c' : Nat), (binOp .eql 30 (.slice a n c) (.slice none n' c')).run Try.prog w = .ok (.bool a.isNone) w := fun w a n c n' c' => Lib.run_eql_slice_nil w _ _ a n c n' c' Try.underlying30
  clear hv
  cases ao with
  | none =>
    obtain rfl := hn rfl
    obtain rfl : L = [] := List.eq_nil_of_length_eq_zero (by omega)
    go_enter Try.func23, Try.ntmps23
    go_wp2_with fail
    go_ret
    exact ⟨_, rfl, own_nil _, Q.refl _⟩
  | some ad =>
    clear hn
    have HO : Hid (Own eb 5 1 w.heap.size (w.alloc (.cells #[] 5)) (.slice (some ⟨w.heap.size, 0, none⟩) 0 0) []) := hid (World.ownsRow_made w #[] 0 (Nat.le_refl _) (Nat.zero_le _) rfl)
    have HQ : Hid (Q w (w.alloc (.cells #[] 5))) := hid ((Q.refl w).alloc _)
    go_enter Try.func23, Try.ntmps23
    go_wp2_with (at_builtin; refine wpl_appb rfl _ _ rfl w.heap.size _ [] rfl HO.out _ rfl L (HV.out.on HQ.out) (by simpa using hl) HQ.out.size ?_)
    intro v' w5 hown hg
    have HF : Hid (Own eb 5 1 w.heap.size w5 v' L) := hid hown
    have HG : Hid (Q w w5) := hid (Below.trans HQ.out (below_grown HO.out hg HQ.out.size))
    clear hown hg
    go_wp2_with fail
    go_ret
    exact ⟨_, rfl, HF.out, HG.out⟩
set_option maxRecDepth 100000 in
set_option maxHeartbeats 2000000 in
theorem short_any (v : Value) (L : List UInt8) (n : Nat) (w : World) (hv : Sb w v L) (hn : n ≤ 1000) : Calls Try.prog 8 #[v, .int .i64 n] w fun e W' => (∃ v', e = .returned v' ∧ Sb w v' (L.take n)) ∧ W' = w := by
  have HV := hid hv
  obtain ⟨ao, cap, rfl, h1, h2⟩ := hv.s.len
  by_cases hl : n < L.length
  · obtain ⟨a, c, hr, hs⟩ := sb_to hv n (by omega)
    have r := hr.out
    have HS := hid hs
    have hl' : (n : Int) < (L.length : Int) := by omega
    clear hv hr hs
    go_enter Try.func8, Try.ntmps8
    go_wp2_with fail
    go_ret
    exact ⟨⟨_, rfl, HS.out⟩, rfl⟩
  · have hl' : ¬ (n : Int) < (L.length : Int) := by omega
    have HS : Hid (Sb w (.slice ao L.length cap) (L.take n)) := hid (by rw [List.take_of_length_le (by omega)]; exact HV.out)
    clear hv
    go_enter Try.func8, Try.ntmps8
    go_wp2_with fail
    go_ret
    exact ⟨⟨_, rfl, HS.out⟩, rfl⟩

theorem own_sv {B e k : Nat} {α : Type} {enc : α → List Value} {W : World} {v : Value} {L : List α} (h : Own enc e k B W v L) : ∃ x, v = sv x := by
  obtain ⟨_, h⟩ := h
  rcases h with ⟨h, _⟩ | ⟨g, cap, cur, h, _⟩
  · exact ⟨⟨none, 0, 0⟩, h⟩
  · exact ⟨⟨_, _, _⟩, h⟩
theorem dk_new {p : Nat} (h : Bk w 50 p #[.map none, .slice none 0 0, .int .i64 0, .int .i64 0]) : Ds (fun i => i = p) w p 0 Pd.new :=
  ⟨none, fun _ => none, .slice none 0 0, [], ⟨h, fun _ => rfl, own_nil w, fun x v L e => (by cases e), fun m hm => (by cases hm), fun x y v L v' L' g _ e => (by cases e), fun m hm => (by cases hm), rfl, fun b e => (by cases e), fun g e => (by cases e), fun x v L g e => (by cases e), fun m hm => (by cases hm), fun _ m hm => (by cases hm)⟩, rfl, rfl⟩
theorem new_any (w : World) : Calls Try.prog 7 #[] w fun e W' => e = .returned (.pointer (some ⟨w.heap.size, 0, none⟩)) ∧ Ds (fun i => i = w.heap.size) W' w.heap.size 0 Pd.new ∧ Q w W' ∧ w.heap.size < W'.heap.size := by
  go_enter Try.func7, Try.ntmps7
  go_wp2_with fail
  go_ret
  refine ⟨rfl, dk_new (bk_new _ _ _), (Q.refl w).alloc _, by simp⟩
theorem units_any {P : Pd} (h : Ds S w p n P) : Calls Try.prog 19 #[.pointer (some ⟨p, 0, none⟩)] w fun e W' => e = .returned (.int .i64 P.u) ∧ W' = w := by
  obtain ⟨mv, f, pv, ms, H0, H2, H3⟩ := h
  have c2 : w.cell? ⟨p, 2, none⟩ = some (.int .i64 P.u) := H0.blk.c 2 _ rfl
  clear H0 H2 H3
  go_enter Try.func19, Try.ntmps19
  go_wp2_with fail
  go_ret
  exact ⟨rfl, rfl⟩
theorem sync_any {P : Pd} (h : Ds S w p n P) : Calls Try.prog 13 #[.pointer (some ⟨p, 0, none⟩)] w fun e W' => (∃ v, e = .returned v) ∧ Ds S W' p n P.sync ∧ Qp S w W' := by
  obtain ⟨mv, f, pv, ms, H0, H2, H3⟩ := h
  have c1 : w.cell? ⟨p, 1, none⟩ = some pv := H0.blk.c 1 _ rfl
  have c2 : w.cell? ⟨p, 2, none⟩ = some (.int .i64 P.u) := H0.blk.c 2 _ rfl
  have c3 : w.cell? ⟨p, 3, none⟩ = some (.int .i64 P.s) := H0.blk.c 3 _ rfl
  have f1 := H0.blk.f 1
  have f3 := H0.blk.f 3
  have b1 := H0.blk.put 1 (.slice none 0 0)
  have c2' : (w.setCell ⟨p, 1, none⟩ (.slice none 0 0)).cell? ⟨p, 2, none⟩ = some (.int .i64 P.u) := b1.c 2 _ rfl
  have c3' : (w.setCell ⟨p, 1, none⟩ (.slice none 0 0)).cell? ⟨p, 3, none⟩ = some (.int .i64 P.s) := b1.c 3 _ rfl
  have H := hid H0
  clear H0
  go_enter Try.func13, Try.ntmps13
  go_wp2_with fail
  go_end0
  have H := H.out
  have hne : ∀ i, i ≠ p → ((w.setCell ⟨p, 1, none⟩ (.slice none 0 0)).setCell ⟨p, 3, none⟩ (.int .i64 P.u)).heap[i]? = w.heap[i]? := fun i h1 => by
    rw [heap_set _ _ _ _ _ h1, heap_set _ _ _ _ _ h1]
  have hnb : ∀ {e : TypeId} {k : Nat} {α : Type} {enc : α → List Value} {v : Value} {L : List α}, e ≠ 50 → Own enc e k 0 w v L → ∀ g, v.ownBlock = some g → g ≠ p := fun he ho g hg e => ho.nbk H.blk he (by rw [hg, e])
  refine ⟨⟨_, rfl⟩, ⟨mv, f, .slice none 0 0, [], ⟨b1.put 3 _, ?_, own_nil _, ?_, fun m hm => (by cases hm), H.sep, fun m hm => (by cases hm), H.sp, H.smv, fun g e => (by cases e), H.sfl, fun m hm => (by cases hm), fun _ m hm => (by cases hm)⟩, H2, rfl⟩, ((Qp.refl S w).set 1 _ (.inl H.sp)).set 3 _ (.inl H.sp)⟩
  · refine H.map.same (fun b e => hne b ?_)
    subst e
    exact Ne.symm (H.blk.nmp H.map)
  · intro x v L hx
    exact (H.fil x v L hx).same (fun g hg => hne g (hnb (by decide) (H.fil x v L hx) g hg))
set_option maxRecDepth 100000 in
theorem read_any {P : Pd} (h : Ds S w p n P) (x : ByteArray) (hx : x.size ≤ maxLen) (hL : (gd P.f x).length ≤ 1000000000) :
    Calls Try.prog 18 #[.pointer (some ⟨p, 0, none⟩), .string x] w fun e W' => ∃ v', e = .returned (.tuple #[sv v', .bool (P.f x).isSome]) ∧ Sb W' (sv v') (gd P.f x) ∧ (∀ g, (sv v').ownBlock = some g → w.heap.size ≤ g) ∧ Q w W' := by
  obtain ⟨mv, f, pv, ms, H0, H2, H3⟩ := h
  have c0 : w.cell? ⟨p, 0, none⟩ = some (.map mv) := H0.blk.c 0 _ rfl
  have H := hid H0
  have ho := H0.fl_own x
  rw [is_gd H2 x]
  generalize hv : fl f x = y at ho
  obtain ⟨⟨a, m, c⟩, L⟩ := y
  rw [fl_gd H2 x hv] at hL ⊢
  have HV := hid hv
  generalize ht : (f x).isSome = t
  have HT := hid ht
  have HC := hid (clone_any (.slice a m c) L w (own_sb (e := 5) ho) (by omega))
  clear H0 H2 H3 ho hv ht
  go_enter Try.func18, Try.ntmps18
  go_wp2_with (first
    | (at_lookup; refine wpl_look2 _ rfl _ _ rfl mv n f rfl H.out.map x rfl hx a m c L t HV.out HT.out ?_)
    | (go_at_call 23; refine HC.out.mono ?_; rintro e9 w2 ⟨v9, rfl, ho9, hq9⟩; have H9 := hid ho9; have Q9 := hid hq9; clear ho9 hq9 HC))
  go_ret2
  obtain ⟨v8, rfl⟩ := own_sv H9.out
  exact ⟨v8, rfl, own_sb (e := 5) H9.out, fun g hg => H9.out.blk g hg, Q9.out⟩
end Go.Proofs.Ytbknbffmpnomlaa
