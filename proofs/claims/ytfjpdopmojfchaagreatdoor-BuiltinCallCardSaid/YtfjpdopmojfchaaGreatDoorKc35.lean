/- Both calls of any name, and wh. -/
import Derived.Test.YtfjpdopmojfchaaGreatDoorKc34
import Derived.Test.YtfjpdopmojfchaaGreatDoorKc33
set_option linter.unusedVariables false
set_option linter.unusedSimpArgs false
set_option maxRecDepth 100000
set_option maxHeartbeats 8000000
namespace Go.Proofs.YtfjpdopmojfchaaGreatDoor
open Go.RowKit
def nmsL : List (List UInt8) := [[83, 85, 77], [77, 73, 78], [77, 65, 88], [67, 79, 85, 78, 84], [65, 86, 69, 82, 65, 71, 69], [73, 70], [65, 78, 68], [79, 82], [78, 79, 84], [65, 66, 83], [76, 69, 78], [67, 79, 78, 67, 65, 84], [73, 83, 69, 82, 82, 79, 82], [78, 65]]
def plcL (s : List UInt8) : Nat → List (List UInt8) → Int
  | _, [] => -1
  | i, n :: r => if n = s then i else plcL s (i + 1) r
theorem plc_map (s : List UInt8) : ∀ (i : Nat) (l : List ByteArray), plc s i l = plcL s i (l.map (·.data.toList))
  | _, [] => rfl
  | i, n :: r => by
    unfold plc
    simp only [List.map_cons]
    unfold plcL
    rw [Lib.toList_data, plc_map s (i + 1) r]
theorem plc_nms (s : List UInt8) : plc s 0 nms = plcL s 0 nmsL := plc_map s 0 nms
theorem pl_of {s : ByteArray} {k : Int} (h : plcL s.toList 0 nmsL = k) : Pl s k := fun W => (place_any s W).mono fun e w' ⟨he, hq⟩ => ⟨by rw [he, plc_nms, h], hq⟩
def Kn (s : ByteArray) : Prop := ∃ b : Bool, (∀ W, Calls Tryz.prog 15 #[.string s] W fun e w' => e = .returned (.bool b) ∧ Q W w') ∧ (∀ W, Calls Tryz.prog 16 #[.string s] W fun e w' => e = .returned (.bool b) ∧ Q W w')
theorem kn_of {s : ByteArray} {lo hi k : Int} {F : Nat} (hF : Fd s lo hi F) (hP : Pl s k) (hk : 0 ≤ k) : Kn s := ⟨true, fun W => known_fd s lo hi F hF W, fun W => by
  have h := rknown_pl s k hP W
  rw [decide_eq_true hk] at h
  exact h⟩
theorem two_sm {w : World} {ao1 ao2 : Option Addr} {n cap1 cap2 : Nat} {A : List Ag} (T : Two w ao1 ao2 n cap1 cap2 A) : ∀ a ∈ A, a.l.length ≤ 1000 ∧ ∀ x ∈ a.l, x.sm := fun a ha => ⟨(T.hs a ha).1, fun x hx => ((T.hs a ha).2 x hx).sm⟩
theorem two_fx {w : World} {ao1 ao2 : Option Addr} {n cap1 cap2 : Nat} {A : List Ag} (T : Two w ao1 ao2 n cap1 cap2 A) : ∀ x ∈ A.flatMap (·.l), Fx x.n := fun x hx => by
  obtain ⟨a, ha, hxa⟩ := List.mem_flatMap.1 hx
  exact ((T.hs a ha).2 x hxa).n
theorem flat_le : ∀ A : List Ag, (∀ a ∈ A, a.l.length ≤ 1000) → (A.flatMap (·.l)).length ≤ 1000 * A.length
  | [], _ => by simp
  | a :: A, h => by
    have h1 := flat_le A (fun b hb => h b (List.mem_cons_of_mem _ hb))
    have h2 := h a (by simp)
    rw [List.flatMap_cons, List.length_append, List.length_cons]
    omega
theorem bth_agg (K : Nat) (hK : K < 5) (hP : Pl (agT K) K) (w : World) (ao1 ao2 : Option Addr) (n cap1 cap2 : Nat) (A : List Ag) (T : Two w ao1 ao2 n cap1 cap2 A) : Bth (agT K) (.slice ao1 n cap1) (.slice ao2 n cap2) w := by
  have hm := T.hm
  have hn := T.hn
  have hl : (A.flatMap (·.l)).length ≤ 1000000 := by have := flat_le A (fun a ha => (T.hs a ha).1); omega
  refine ⟨aggY K (A.flatMap (·.l)), ?_, ?_⟩
  · intro W q
    exact aggcall K hK A ao1 n cap1 W (T.hw.on q) (T.h1.on q) hm (by omega) (two_sm T) hl (two_fx T)
  · intro W q
    exact rcall_agg (agT K) K hK _ _ W hP (fun W' q' => raggregate_any K hK A _ W' (T.h2.on (q.trans q')) (by omega) (two_sm T) (two_fx T))
theorem fd_sum : Fd (agT 0) 0 9223372036854775807 103 := fd_agg fun W => find_sum W
theorem fd_min : Fd (agT 1) 0 9223372036854775807 103 := fd_agg fun W => find_min W
theorem fd_max : Fd (agT 2) 0 9223372036854775807 103 := fd_agg fun W => find_max W
theorem fd_count : Fd (agT 3) 0 9223372036854775807 103 := fd_agg fun W => find_count W
theorem fd_average : Fd (agT 4) 0 9223372036854775807 103 := fd_agg fun W => find_average W
theorem tk_5 : Tk 5 2 3 := fun W => (takes_any 5 W).mono fun e w' h => ⟨h.1.trans rfl, h.2⟩
theorem tk_6 : Tk 6 1 1048576 := fun W => (takes_any 6 W).mono fun e w' h => ⟨h.1.trans rfl, h.2⟩
theorem tk_7 : Tk 7 1 1048576 := fun W => (takes_any 7 W).mono fun e w' h => ⟨h.1.trans rfl, h.2⟩
theorem tk_8 : Tk 8 1 1 := fun W => (takes_any 8 W).mono fun e w' h => ⟨h.1.trans rfl, h.2⟩
theorem tk_9 : Tk 9 1 1 := fun W => (takes_any 9 W).mono fun e w' h => ⟨h.1.trans rfl, h.2⟩
theorem tk_10 : Tk 10 1 1 := fun W => (takes_any 10 W).mono fun e w' h => ⟨h.1.trans rfl, h.2⟩
theorem tk_11 : Tk 11 0 1048576 := fun W => (takes_any 11 W).mono fun e w' h => ⟨h.1.trans rfl, h.2⟩
theorem tk_12 : Tk 12 1 1 := fun W => (takes_any 12 W).mono fun e w' h => ⟨h.1.trans rfl, h.2⟩
theorem tk_13 : Tk 13 0 0 := fun W => (takes_any 13 W).mono fun e w' h => ⟨h.1.trans rfl, h.2⟩
theorem pl_0 : Pl ⟨#[83, 85, 77]⟩ 0 := pl_of (by rw [Lib.toList_data]; decide)
theorem pl_1 : Pl ⟨#[77, 73, 78]⟩ 1 := pl_of (by rw [Lib.toList_data]; decide)
theorem pl_2 : Pl ⟨#[77, 65, 88]⟩ 2 := pl_of (by rw [Lib.toList_data]; decide)
theorem pl_3 : Pl ⟨#[67, 79, 85, 78, 84]⟩ 3 := pl_of (by rw [Lib.toList_data]; decide)
theorem pl_4 : Pl ⟨#[65, 86, 69, 82, 65, 71, 69]⟩ 4 := pl_of (by rw [Lib.toList_data]; decide)
theorem pl_5 : Pl ⟨#[73, 70]⟩ 5 := pl_of (by rw [Lib.toList_data]; decide)
theorem pl_6 : Pl ⟨#[65, 78, 68]⟩ 6 := pl_of (by rw [Lib.toList_data]; decide)
theorem pl_7 : Pl ⟨#[79, 82]⟩ 7 := pl_of (by rw [Lib.toList_data]; decide)
theorem pl_8 : Pl ⟨#[78, 79, 84]⟩ 8 := pl_of (by rw [Lib.toList_data]; decide)
theorem pl_9 : Pl ⟨#[65, 66, 83]⟩ 9 := pl_of (by rw [Lib.toList_data]; decide)
theorem pl_10 : Pl ⟨#[76, 69, 78]⟩ 10 := pl_of (by rw [Lib.toList_data]; decide)
theorem pl_11 : Pl ⟨#[67, 79, 78, 67, 65, 84]⟩ 11 := pl_of (by rw [Lib.toList_data]; decide)
theorem pl_12 : Pl ⟨#[73, 83, 69, 82, 82, 79, 82]⟩ 12 := pl_of (by rw [Lib.toList_data]; decide)
theorem pl_13 : Pl ⟨#[78, 65]⟩ 13 := pl_of (by rw [Lib.toList_data]; decide)
theorem plcL_none (s : List UInt8) : ∀ (i : Nat) (l : List (List UInt8)), (∀ n ∈ l, n ≠ s) → plcL s i l = -1
  | _, [], _ => rfl
  | i, n :: r, h => by
    unfold plcL
    rw [if_neg (h n (by simp))]
    exact plcL_none s (i + 1) r (fun m hm => h m (List.mem_cons_of_mem _ hm))
theorem bth_any (s : ByteArray) (w : World) (ao1 ao2 : Option Addr) (n cap1 cap2 : Nat) (A : List Ag) (T : Two w ao1 ao2 n cap1 cap2 A) : Bth s (.slice ao1 n cap1) (.slice ao2 n cap2) w ∧ Kn s := by
  by_cases h0 : s.toList = [83, 85, 77]
  · have e : s = ⟨#[83, 85, 77]⟩ := ba_of h0
    subst e
    exact ⟨bth_agg 0 (by omega) pl_0 w ao1 ao2 n cap1 cap2 A T, kn_of fd_sum pl_0 (by omega)⟩
  by_cases h1 : s.toList = [77, 73, 78]
  · have e : s = ⟨#[77, 73, 78]⟩ := ba_of h1
    subst e
    exact ⟨bth_agg 1 (by omega) pl_1 w ao1 ao2 n cap1 cap2 A T, kn_of fd_min pl_1 (by omega)⟩
  by_cases h2 : s.toList = [77, 65, 88]
  · have e : s = ⟨#[77, 65, 88]⟩ := ba_of h2
    subst e
    exact ⟨bth_agg 2 (by omega) pl_2 w ao1 ao2 n cap1 cap2 A T, kn_of fd_max pl_2 (by omega)⟩
  by_cases h3 : s.toList = [67, 79, 85, 78, 84]
  · have e : s = ⟨#[67, 79, 85, 78, 84]⟩ := ba_of h3
    subst e
    exact ⟨bth_agg 3 (by omega) pl_3 w ao1 ao2 n cap1 cap2 A T, kn_of fd_count pl_3 (by omega)⟩
  by_cases h4 : s.toList = [65, 86, 69, 82, 65, 71, 69]
  · have e : s = ⟨#[65, 86, 69, 82, 65, 71, 69]⟩ := ba_of h4
    subst e
    exact ⟨bth_agg 4 (by omega) pl_4 w ao1 ao2 n cap1 cap2 A T, kn_of fd_average pl_4 (by omega)⟩
  by_cases h5 : s.toList = [73, 70]
  · have e : s = ⟨#[73, 70]⟩ := ba_of h5
    subst e
    exact ⟨bth_if pl_5 tk_5 w ao1 ao2 n cap1 cap2 A T, kn_of fd_if pl_5 (by omega)⟩
  by_cases h6 : s.toList = [65, 78, 68]
  · have e : s = ⟨#[65, 78, 68]⟩ := ba_of h6
    subst e
    exact ⟨bth_and pl_6 tk_6 w ao1 ao2 n cap1 cap2 A T, kn_of fd_and pl_6 (by omega)⟩
  by_cases h7 : s.toList = [79, 82]
  · have e : s = ⟨#[79, 82]⟩ := ba_of h7
    subst e
    exact ⟨bth_or pl_7 tk_7 w ao1 ao2 n cap1 cap2 A T, kn_of fd_or pl_7 (by omega)⟩
  by_cases h8 : s.toList = [78, 79, 84]
  · have e : s = ⟨#[78, 79, 84]⟩ := ba_of h8
    subst e
    exact ⟨bth_not pl_8 tk_8 w ao1 ao2 n cap1 cap2 A T, kn_of fd_not pl_8 (by omega)⟩
  by_cases h9 : s.toList = [65, 66, 83]
  · have e : s = ⟨#[65, 66, 83]⟩ := ba_of h9
    subst e
    exact ⟨bth_abs pl_9 tk_9 w ao1 ao2 n cap1 cap2 A T, kn_of fd_abs pl_9 (by omega)⟩
  by_cases h10 : s.toList = [76, 69, 78]
  · have e : s = ⟨#[76, 69, 78]⟩ := ba_of h10
    subst e
    exact ⟨bth_len pl_10 tk_10 w ao1 ao2 n cap1 cap2 A T, kn_of fd_len pl_10 (by omega)⟩
  by_cases h11 : s.toList = [67, 79, 78, 67, 65, 84]
  · have e : s = ⟨#[67, 79, 78, 67, 65, 84]⟩ := ba_of h11
    subst e
    exact ⟨bth_concat pl_11 tk_11 w ao1 ao2 n cap1 cap2 A T, kn_of fd_concat pl_11 (by omega)⟩
  by_cases h12 : s.toList = [73, 83, 69, 82, 82, 79, 82]
  · have e : s = ⟨#[73, 83, 69, 82, 82, 79, 82]⟩ := ba_of h12
    subst e
    exact ⟨bth_iserror pl_12 tk_12 w ao1 ao2 n cap1 cap2 A T, kn_of fd_iserror pl_12 (by omega)⟩
  by_cases h13 : s.toList = [78, 65]
  · have e : s = ⟨#[78, 65]⟩ := ba_of h13
    subst e
    exact ⟨bth_na pl_13 tk_13 w ao1 ao2 n cap1 cap2 A T, kn_of fd_na pl_13 (by omega)⟩
  have hN : NoFn s := ⟨beq_eq_false_iff_ne.2 h0, beq_eq_false_iff_ne.2 h1, beq_eq_false_iff_ne.2 h2, beq_eq_false_iff_ne.2 h3, beq_eq_false_iff_ne.2 h4, beq_eq_false_iff_ne.2 h5, beq_eq_false_iff_ne.2 h6, beq_eq_false_iff_ne.2 h7, beq_eq_false_iff_ne.2 h8, beq_eq_false_iff_ne.2 h9, beq_eq_false_iff_ne.2 h10, beq_eq_false_iff_ne.2 h11, beq_eq_false_iff_ne.2 h12, beq_eq_false_iff_ne.2 h13⟩
  have hP : Pl s (-1) := pl_of (plcL_none _ _ _ (fun m hm => by
    simp only [nmsL, List.mem_cons, List.not_mem_nil, or_false] at hm
    rcases hm with rfl | rfl | rfl | rfl | rfl | rfl | rfl | rfl | rfl | rfl | rfl | rfl | rfl | rfl
    · exact fun h => h0 h.symm
    · exact fun h => h1 h.symm
    · exact fun h => h2 h.symm
    · exact fun h => h3 h.symm
    · exact fun h => h4 h.symm
    · exact fun h => h5 h.symm
    · exact fun h => h6 h.symm
    · exact fun h => h7 h.symm
    · exact fun h => h8 h.symm
    · exact fun h => h9 h.symm
    · exact fun h => h10 h.symm
    · exact fun h => h11 h.symm
    · exact fun h => h12 h.symm
    · exact fun h => h13 h.symm))
  refine ⟨⟨er 6, ?_, ?_⟩, ⟨false, ?_, ?_⟩⟩
  · intro W q
    exact call_none s _ W hN
  · intro W q
    exact rcall_none s _ W hP
  · intro W
    exact known_none s hN W
  · intro W
    exact rknown_pl s (-1) hP W
def IsS (e : Ending) : Prop := ∃ t, e = .returned (.string t)
theorem short25 (s : ByteArray) (w : World) :
    Calls Tryz.prog 10 #[.string s, .int .i64 25] w fun e w' => IsS e ∧ w' = w := by
  by_cases h : (25 : Int) < (s.size : Int)
  · go_enter Tryz.func10, Tryz.ntmps10
    go_wp2
    go_ret
    exact ⟨⟨_, rfl⟩, rfl⟩
  · go_enter Tryz.func10, Tryz.ntmps10
    go_wp2
    go_ret
    exact ⟨⟨_, rfl⟩, rfl⟩
theorem infoA : (Tryz.prog.info? 32).map (fun i => (i.zero, i.size, i.bytes)) = some (some (.agg #[.bool false, .slice none 0 0]), 2, 32) := by kernel_rfl
theorem infoB : (Tryz.prog.info? 33).map (fun i => (i.zero, i.size, i.bytes)) = some (some (.agg #[.bool false, .slice none 0 0]), 2, 32) := by kernel_rfl
structure Bo2 (B : Nat) (W : World) (va vb : Value) (A : List Ag) : Prop where
  oa : Own Ag.cells 32 2 B W va A
  ob : Own Ag.cells 33 2 B W vb A
  os : ∀ a ∈ A, Own Cv.cells 37 5 B W a.s a.l
theorem Bo2.on {B : Nat} {W W' : World} {va vb : Value} {A : List Ag} (h : Bo2 B W va vb A) (q : Q W W') : Bo2 B W' va vb A := ⟨h.oa.on q, h.ob.on q, fun a ha => (h.os a ha).on q⟩
theorem Bo2.h1 {B : Nat} {W : World} {va vb : Value} {A : List Ag} (h : Bo2 B W va vb A) : Args W va A := ⟨h.oa.sl Ag.len (by omega), fun a ha => (h.os a ha).sl Cv.len (by omega)⟩
theorem Bo2.h2 {B : Nat} {W : World} {va vb : Value} {A : List Ag} (h : Bo2 B W va vb A) : Args W vb A := ⟨h.ob.sl Ag.len (by omega), fun a ha => (h.os a ha).sl Cv.len (by omega)⟩
structure Bo3 (B : Nat) (W : World) (va vb : Value) (A : List Ag) (a : Ag) : Prop where
  oa : Own Ag.cells 32 2 B W va (A ++ [a])
  ob : Own Ag.cells 33 2 B W vb A
  os : ∀ c ∈ A ++ [a], Own Cv.cells 37 5 B W c.s c.l
theorem Bo3.on {B : Nat} {W W' : World} {va vb : Value} {A : List Ag} {a : Ag} (h : Bo3 B W va vb A a) (q : Q W W') : Bo3 B W' va vb A a := ⟨h.oa.on q, h.ob.on q, fun c hc => (h.os c hc).on q⟩
theorem Bo2.step {B : Nat} {W W' : World} {va vb va' : Value} {A : List Ag} {a : Ag} (h : Bo2 B W va vb A) (ha : Own Cv.cells 37 5 B W a.s a.l) (ho : W'.ownsRow B 32 2 va' (A.length + 1) (flat Ag.cells A ++ [.bool a.r, a.s])) (g : W.grownBy W' va.ownBlock) : Bo3 B W' va' vb A a := by
  refine ⟨own_snoc (x := a) ho, h.ob.grown g (own_ne h.ob h.oa (by decide)), fun c hc => ?_⟩
  rcases List.mem_append.1 hc with hc | hc
  · exact (h.os c hc).grown g (own_ne (h.os c hc) h.oa (by decide))
  · simp at hc
    subst hc
    exact ha.grown g (own_ne ha h.oa (by decide))
theorem Bo3.step {B : Nat} {W W' : World} {va vb vb' : Value} {A : List Ag} {a : Ag} (h : Bo3 B W va vb A a) (ho : W'.ownsRow B 33 2 vb' (A.length + 1) (flat Ag.cells A ++ [.bool a.r, a.s])) (g : W.grownBy W' vb.ownBlock) : Bo2 B W' va vb' (A ++ [a]) :=
  ⟨h.oa.grown g (own_ne h.oa h.ob (by decide)), own_snoc (x := a) ho, fun c hc => (h.os c hc).grown g (own_ne (h.os c hc) h.ob (by decide))⟩
theorem Bo2.alloc {B : Nat} {W : World} {va vb : Value} {A : List Ag} (h : Bo2 B W va vb A) (o : Obj) : Bo2 B (W.alloc o) va vb A := h.on ((Q.refl _).alloc _)
theorem cut_n (l : List Cv) : ∃ n, (l.length ≤ 8 ∧ n = l.length) ∨ (8 < l.length ∧ n = 8) := by
  rcases Nat.lt_or_ge 8 l.length with h | h
  · exact ⟨8, .inr ⟨h, rfl⟩⟩
  · exact ⟨l.length, .inl ⟨h, rfl⟩⟩
theorem Own.one {e : TypeId} {k B : Nat} {W : World} {v : Value} {L : List Cv} (h : Own Cv.cells e k B W v L) : v.oneCell' = true := by
  obtain ⟨_, h⟩ := h
  rcases h with ⟨rfl, _⟩ | ⟨g, cap, cur, rfl, _⟩ <;> rfl
def sml (A : List Ag) : Prop := ∀ a ∈ A, a.l.length ≤ 1000 ∧ ∀ x ∈ a.l, x.sl
set_option maxHeartbeats 8000000 in
theorem call_walk (s0 : ByteArray) (A0 : List Ag) (v : Value) (w : World) (hw : Std2 w) (h : Args w v A0) (hF : ∀ a ∈ A0, ∀ x ∈ a.l, Fx x.n) :
    Calls Tryz.prog 3 #[.string s0, v] w fun r w' => r = .returned (.bool true) ∧ Q w w' := by
  have HBg := hid (fun W (q : Q w W) => bbegun_any W (hw.on q))
  have HSh := hid (fun W => short25 s0 W)
  have HW := hid hw
  obtain ⟨⟨ao, cap, rfl, h1, h2, h3⟩, hvs⟩ := h
  obtain ⟨len0, hl0⟩ : ∃ n, A0.length = n := ⟨_, rfl⟩
  have HL0 := hid hl0
  have HC : Hid (0 < len0 → ∃ b off, ao = some ⟨b, off, none⟩ ∧ ∀ i (hp : i < A0.length), At2 w b (off + i * 2) A0[i] ∧ Sl Cv.cells 5 w A0[i].s A0[i].l ∧ ∀ x ∈ A0[i].l, Fx x.n) := by
    intro h0
    obtain ⟨b, off, ha, hc⟩ := h3 (by omega)
    exact ⟨b, off, ha, fun i hp => ⟨at2_of (hc i hp), hvs _ (List.getElem_mem hp), hF _ (List.getElem_mem hp)⟩⟩
  obtain ⟨ia, hia, hza0, hza1, hza2⟩ := inf_of infoA
  obtain ⟨ib, hib, hzb0, hzb1, hzb2⟩ := inf_of infoB
  rw [hl0] at h1 ⊢
  clear hw h3 hvs hF hl0
  go_enter Tryz.func3, Tryz.ntmps3
  go_wp2_with (first
    | (go_at_call 9; refine (HBg.out _ (Q.refl w)).mono ?_; rintro e w1 ⟨rfl, q1⟩; have Q1 := hid q1; clear q1)
    | (go_at_call 10; refine (HSh.out _).mono ?_; rintro e w1' ⟨⟨nm, rfl⟩, hww⟩; replace hww := hww.symm; subst hww))
  go_loopw [6, 7, 8] (fun va vb i W => ∃ (k : Nat) (A : List Ag), k ≤ len0 ∧ k ≤ 6 ∧ i = .int .i64 k ∧ A.length = k ∧ Bo2 w1.heap.size W va vb A ∧ sml A ∧ Q w1 W) (fun _ _ i _ => 6 - (intOf i).toNat)
  case atStart => exact ⟨0, [], Nat.zero_le _, by omega, rfl, rfl, ⟨own_nil _, own_nil _, by simp⟩, (fun a ha => by cases ha), Q.refl _⟩
  case round =>
    obtain ⟨k, A, hk, hk6, rfl, hAl, hbo, hsm, hq⟩ := hrel
    by_cases hlt : k < len0 ∧ k < 6
    · obtain ⟨hlt0, hlt6⟩ := hlt
      obtain ⟨b, off, rfl, hc⟩ := HC.out (by omega)
      have hkp : k < A0.length := by have := HL0.out; omega
      obtain ⟨⟨c0, c1⟩, hsl, hfx⟩ := hc k hkp
      have hq0 := Q1.out.trans hq
      have hbw0 : b < w.heap.size := World.block_lt_of_cell? w _ c0
      have HC0 := hid (fun W (q : Q w W) => (q.cell hbw0).trans c0)
      have HBW := hid (fun W (q : Q w W) => q.lt hbw0)
      obtain ⟨nn, hnn⟩ := cut_n A0[k].l
      have HCA := hid (fun W (q : Q w W) => cutAll_any 8 nn A0[k].l A0[k].s W (hsl.on q) (by omega) hnn)
      have HXs : Hid ((((A0[k].l).take nn).map Cv.cut).length ≤ 1000 ∧ ∀ x ∈ ((A0[k].l).take nn).map Cv.cut, x.sl) := by
        refine ⟨by simp; omega, fun x hx => ?_⟩
        obtain ⟨y, hy, rfl⟩ := List.mem_map.1 hx
        exact cut_sl y (hfx y (List.mem_of_mem_take hy))
      have c0' := HC0.out _ hq0
      have c1' := (hq0.cell hbw0).trans c1
      have hbw1 := HBW.out _ hq0
      clear hc hsl hfx c0 c1 hnn
      generalize ((A0[k].l).take nn).map Cv.cut = X at HCA HXs
      generalize A0[k].s = sv at c1' HCA
      generalize A0[k].r = rr at c0' HC0
      have hkl : (k : Int) < (len0 : Int) := by omega
      have hk6l : (k : Int) < 6 := by omega
      have HBO := hid hbo
      have HSM := hid hsm
      have HQ := hid hq
      have HAl := hid hAl
      have HQ0 := hid hq0
      clear hbo hsm hq hAl hq0 hbw0
      go_wp2_with (first
        | (go_at_call 11; refine (HCA.out _ HQ0.out).mono ?_; rintro e w2 ⟨sx, rfl, own0, q2⟩; obtain ⟨aox, cpx, hsx, _, _⟩ := (own0.sl Cv.len (by omega)).len; subst hsx; have Q2 := hid (HQ.out.trans q2); have OX := hid (own0.mono (B' := w1.heap.size) HQ.out.size); have BO2 := hid (HBO.out.on q2); have QW2 := hid (HQ0.out.trans q2); have e0 := HC0.out _ QW2.out; have hbw2 := HBW.out _ QW2.out; clear own0 q2)
        | (at_builtin; refine wpList_append_own _ rfl _ _ 25 rfl w1.heap.size 32 ia (.agg #[.bool false, .slice none 0 0]) 2 32 Tryz.underlying25 hia hza0 hza1 hza2 rfl (by decide) _ _ _ rfl (World.ownsRow.alloc BO2.out.oa _) ⟨w2.heap.size, 0, none⟩ 1 1 [.bool rr, .slice aox X.length cpx] rfl rfl ?c1 ?c2 ?c3 ?c4 ?c5 ?_))
      case c1 => exact news_new w2 [.bool rr, .slice aox X.length cpx] 32
      case c2 =>
        intro u hu
        simp at hu
        rcases hu with rfl | rfl
        · rfl
        · exact Own.one OX.out
      case c3 => have := HAl.out; unfold maxLen; omega
      case c4 => have := HAl.out; omega
      case c5 => have := Q2.out.size; simp; omega
      · intro va' w3 hown3 hgrow3 _
        have BO3 := hid ((BO2.out.alloc _).step (a := ⟨rr, .slice aox X.length cpx, X⟩) (OX.out.alloc _) hown3 hgrow3)
        have Q3 : Hid (Q w1 w3) := Below.grown (Q2.out.alloc _) hgrow3 (by have := Q2.out.size; simp; omega) (Own.blk BO2.out.oa)
        have e1 := HC0.out _ (Q1.out.trans Q3.out)
        have hbw3 := HBW.out _ (Q1.out.trans Q3.out)
        clear hown3 hgrow3
        go_wp2_with (at_builtin; refine wpList_append_own _ rfl _ _ 26 rfl w1.heap.size 33 ib (.agg #[.bool false, .slice none 0 0]) 2 32 Tryz.underlying26 hib hzb0 hzb1 hzb2 rfl (by decide) _ _ _ rfl (World.ownsRow.alloc BO3.out.ob _) ⟨w3.heap.size, 0, none⟩ 1 1 [.bool rr, .slice aox X.length cpx] rfl rfl ?c1 ?c2 ?c3 ?c4 ?c5 ?_)
        try (case c1 => exact news_new w3 [.bool rr, .slice aox X.length cpx] 33)
        try (case c2 => first | exact Own.one OX.out | exact ⟨rfl, Own.one OX.out⟩ | (intro u hu; simp at hu; rcases hu with rfl | rfl; rfl; exact Own.one OX.out))
        case c3 => have := HAl.out; unfold maxLen; omega
        case c4 => have := HAl.out; omega
        case c5 => have := Q3.out.size; first | omega | (simp; omega)
        · intro vb' w4 hown4 hgrow4 _
          have BO4 := hid ((BO3.out.on ((Q.refl _).alloc _)).step hown4 hgrow4)
          have Q4 : Hid (Q w1 w4) := Below.grown (Q3.out.alloc _) hgrow4 (by have := Q3.out.size; simp; omega) (Own.blk BO3.out.ob)
          have SM4 : Hid (sml (A ++ [⟨rr, .slice aox X.length cpx, X⟩])) := by
            intro a ha
            rcases List.mem_append.1 ha with ha | ha
            · exact HSM.out a ha
            · simp at ha
              subst ha
              exact HXs.out
          have AL4 : Hid ((A ++ [(⟨rr, .slice aox X.length cpx, X⟩ : Ag)]).length = k + 1) := by show _ = _; rw [List.length_append, HAl.out]; rfl
          clear hown4 hgrow4
          go_wp2
          go_roundw
          case rel => exact ⟨k + 1, A ++ [⟨rr, .slice aox X.length cpx, X⟩], by omega, by omega, by go_num, AL4.out, BO4.out, SM4.out, Q4.out⟩
          case measure => simp [intOf]; omega
    · have hn1000 : A.length ≤ 1000 := by omega
      obtain ⟨ao1, cap1, hva, _, _⟩ := hbo.h1.sl.len
      obtain ⟨ao2, cap2, hvb, _, _⟩ := hbo.h2.sl.len
      rw [hAl] at hva hvb
      subst hva
      subst hvb
      have T : Two wr ao1 ao2 k cap1 cap2 A := ⟨HW.out.on (Q1.out.trans hq), hbo.h1, hbo.h2, hAl, by omega, hsm⟩
      obtain ⟨⟨y, HY1, HY2⟩, ⟨kb, HK1, HK2⟩⟩ := bth_any nm wr ao1 ao2 k cap1 cap2 A T
      have H1 := hid HY1
      have H2 := hid HY2
      have H3 := hid HK1
      have H4 := hid HK2
      have HE := hid (fun W => eqv_same y W)
      have HQ := hid (Q1.out.trans hq)
      clear HY1 HY2 HK1 HK2 T hbo hsm hn1000 hq HC hAl
      obtain ⟨yk, yn, yt, yb, ye⟩ := y
      simp only [Cv.v, vv] at H1 H2 HE
      by_cases hlen : k < len0
      · have hkl : (k : Int) < (len0 : Int) := by omega
        have hk6n : ¬ (k : Int) < 6 := by omega
        go_wp2_with (first
          | (go_at_call 13; refine (H1.out _ (Q.refl _)).mono ?_; rintro e w3 ⟨rfl, q1⟩; have Q3 := hid q1; clear q1)
          | (go_at_call 14; refine (H2.out _ Q3.out).mono ?_; rintro e w4 ⟨rfl, q1⟩; have Q4 := hid (Q3.out.trans q1); clear q1)
          | (go_at_call 12; refine (HE.out _).mono ?_; rintro e w5 ⟨rfl, q1⟩; have Q5 := hid (Q4.out.trans q1); clear q1)
          | (go_at_call 15; refine (H3.out _).mono ?_; rintro e w6 ⟨rfl, q1⟩; have Q6 := hid (Q5.out.trans q1); clear q1)
          | (go_at_call 16; refine (H4.out _).mono ?_; rintro e w7 ⟨rfl, q1⟩; have Q7 := hid (Q6.out.trans q1); clear q1))
        go_ret
        exact ⟨rfl, HQ.out.trans Q7.out⟩
      · have hkl : ¬ (k : Int) < (len0 : Int) := by omega
        go_wp2_with (first
          | (go_at_call 13; refine (H1.out _ (Q.refl _)).mono ?_; rintro e w3 ⟨rfl, q1⟩; have Q3 := hid q1; clear q1)
          | (go_at_call 14; refine (H2.out _ Q3.out).mono ?_; rintro e w4 ⟨rfl, q1⟩; have Q4 := hid (Q3.out.trans q1); clear q1)
          | (go_at_call 12; refine (HE.out _).mono ?_; rintro e w5 ⟨rfl, q1⟩; have Q5 := hid (Q4.out.trans q1); clear q1)
          | (go_at_call 15; refine (H3.out _).mono ?_; rintro e w6 ⟨rfl, q1⟩; have Q6 := hid (Q5.out.trans q1); clear q1)
          | (go_at_call 16; refine (H4.out _).mono ?_; rintro e w7 ⟨rfl, q1⟩; have Q7 := hid (Q6.out.trans q1); clear q1))
        go_ret
        exact ⟨rfl, HQ.out.trans Q7.out⟩
end Go.Proofs.YtfjpdopmojfchaaGreatDoor
