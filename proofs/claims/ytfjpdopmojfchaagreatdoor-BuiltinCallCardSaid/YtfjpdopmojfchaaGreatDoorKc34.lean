/- Both calls, of any arguments: . -/
import Derived.Test.YtfjpdopmojfchaaGreatDoorKc32
import Derived.Test.YtfjpdopmojfchaaGreatDoorKc30
import Derived.Test.YtfjpdopmojfchaaGreatDoorKc28
set_option linter.unusedVariables false
set_option linter.unusedSimpArgs false
set_option maxRecDepth 100000
set_option maxHeartbeats 8000000
namespace Go.Proofs.YtfjpdopmojfchaaGreatDoor
open Go.RowKit
set_option maxHeartbeats 1000000 in
theorem sing75n (P : List (Value × Cv)) (v : Value) (y : Cv) (p : Nat)  (w : World) (hw : Std2 w) (h : Args w v (sg P)) (hm : P.length ≤ 1000) (hs : ∀ p ∈ P, p.2.sm) (hp : w.cell? ⟨p, 0, none⟩ = some (.func (.func 75) #[] #[]))
    (HG : ∀ W s, Q w W → Sl Cv.cells 5 W s (P.map fun p => ctd p.2) → Calls Tryz.prog 75 #[s] W fun r W' => r = .returned y.v ∧ Q W W') :
    Calls Tryz.prog 110 #[v, .pointer (some ⟨p, 0, none⟩)] w fun r w' => r = .returned y.v ∧ Q w w' := by
  have HB := hid (bxz w)
  have HS := hid (fun W (g : Q w W) => singles_yes P v W (hw.on g) (h.on g) hm hs)
  have HG' := hid HG
  have hpl := World.block_lt_of_cell? w _ hp
  have HP := hid (fun W (g : Q w W) => fcell hp g)
  obtain ⟨yk, yn, yt, yb, ye⟩ := y
  clear hw h hm hs hp HG
  simp only [Cv.v, vv] at *
  go_enter Tryz.func110, Tryz.ntmps110
  go_wp2_with (first
    | (go_at_call 111; refine (HS.out _ ((Q.refl _).alloc _)).mono ?_; rintro x w1 ⟨s, rfl, S1, q1⟩; have B1 := HB.out.on q1; have Q1 : Hid (Q w w1) := hid (((Q.refl _).alloc _).trans q1); clear q1; have cp := HP.out _ Q1.out; have S2 := hid S1; clear S1)
    | (go_at_call 75; refine (HG'.out _ _ Q1.out S2.out).mono ?_; rintro x w2 ⟨rfl, q1⟩; have B2 := B1.on q1; have Q2 : Hid (Q w w2) := hid (Q1.out.trans q1); clear q1; obtain ⟨d0, d1, d2, d3, d4, y0, y1, y2, y3, y4, _⟩ := B2))
  exact bodyPost_ret (v := .agg #[.int .i64 yk, .int .i64 yn, .string yt, .bool yb, .int .i64 ye]) (by simp [results, Tryz.results110, go_sem, d0, d1, d2, d3, d4]) rfl ⟨rfl, Q5 Q2.out (Nat.le_refl _)⟩
set_option maxHeartbeats 1000000 in
theorem call_na (ao : Option Addr) (n cap : Nat) (y : Cv) (w : World) (h0 : 0 ≤ (n : Int)) (h1 : (n : Int) ≤ 0)
    (HG : ∀ W f p, f = .func (.func 110) #[] #[.pointer (some ⟨p, 0, none⟩)] → Q w W → SinV W f 75 → Calls Tryz.prog 110 #[.slice ao n cap, .pointer (some ⟨p, 0, none⟩)] W fun r W' => r = .returned y.v ∧ Q W W') :
    Calls Tryz.prog 13 #[.string ⟨#[78, 65]⟩, .slice ao n cap] w fun r w' => r = .returned y.v ∧ Q w w' := by
  have HF := hid (fun W => find_na W)
  have HG' := hid HG
  have hn0 : ¬ (n : Int) < 0 := by omega
  have hn1 : ¬ (0 : Int) < (n : Int) := by omega
  obtain ⟨yk, yn, yt, yb, ye⟩ := y
  clear HG
  simp only [Cv.v, vv] at *
  go_enter Tryz.func13, Tryz.ntmps13
  go_wp2_with (first
    | (go_at_call 29; refine (HF.out _).mono ?_; rintro x w1 ⟨f, rfl, hv, q1⟩; obtain ⟨p, hfp⟩ := hv.sh; subst hfp; have HV := hid hv; have Q1 := hid q1; clear hv q1)
    | (go_at_call 110; refine (HG'.out _ _ _ rfl ((bz_q Q1.out).alloc _) (HV.out.on ((Q.refl _).alloc _))).mono ?_; rintro x w2 ⟨rfl, q2⟩; have Q2 := hid ((Q1.out.alloc _).trans q2); clear q2; obtain ⟨d0, d1, d2, d3, d4, y0, y1, y2, y3, y4, _⟩ := bz_on Q2.out))
  exact bodyPost_ret (v := .agg #[.int .i64 yk, .int .i64 yn, .string yt, .bool yb, .int .i64 ye]) (by simp [results, Tryz.results13, go_sem, d0, d1, d2, d3, d4]) rfl ⟨rfl, Q5 (bz_q Q2.out) (Nat.le_refl _)⟩
theorem sg_split : ∀ A : List Ag, (∃ P, A = sg P) ∨ (∃ P a R, A = sg P ++ a :: R ∧ (a.r = true ∨ a.l.length ≠ 1))
  | [] => .inl ⟨[], rfl⟩
  | a :: A => by
    by_cases ha : a.r = true ∨ a.l.length ≠ 1
    · exact .inr ⟨[], a, A, rfl, ha⟩
    · have h1 : a.r = false := by cases h : a.r; rfl; exact absurd (.inl h) ha
      have h2 : a.l.length = 1 := by rcases Nat.decEq a.l.length 1 with h | h; exact absurd (.inr h) ha; exact h
      obtain ⟨ar, asv, al⟩ := a
      simp only at h1 h2
      subst h1
      obtain ⟨x, rfl⟩ := List.length_eq_one_iff.1 h2
      rcases sg_split A with ⟨P, rfl⟩ | ⟨P, b, R, rfl, hb⟩
      · exact .inl ⟨(asv, x) :: P, rfl⟩
      · exact .inr ⟨(asv, x) :: P, b, R, rfl, hb⟩
theorem sg_vals {P : List (Value × Cv)} (h : ∀ a ∈ sg P, ∀ x ∈ a.l, x.sl) : ∀ p ∈ P, p.2.sl := fun p hp => h ⟨false, p.1, [p.2]⟩ (by simp only [sg, List.mem_map]; exact ⟨p, hp, rfl⟩) p.2 (by simp)
def Bth (s : ByteArray) (v1 v2 : Value) (w : World) : Prop := ∃ y : Cv, (∀ W, Q w W → Calls Tryz.prog 13 #[.string s, v1] W fun r W' => r = .returned y.v ∧ Q W W') ∧ (∀ W, Q w W → Calls Tryz.prog 14 #[.string s, v2] W fun r W' => r = .returned y.v ∧ Q W W')
structure Two (w : World) (ao1 ao2 : Option Addr) (n cap1 cap2 : Nat) (A : List Ag) : Prop where
  hw : Std2 w
  h1 : Args w (.slice ao1 n cap1) A
  h2 : Args w (.slice ao2 n cap2) A
  hn : A.length = n
  hm : n ≤ 1000
  hs : ∀ a ∈ A, a.l.length ≤ 1000 ∧ ∀ x ∈ a.l, x.sl
theorem bth_fn (s : ByteArray) (k lo hi hi2 : Int) (hk : 5 ≤ k) (hk13 : k ≤ 13) (hF : Fd s lo hi 110) (hP : Pl s k) (hT : Tk k lo hi2) (w : World) (ao1 ao2 : Option Addr) (n cap1 cap2 : Nat) (A : List Ag) (T : Two w ao1 ao2 n cap1 cap2 A) (hh : (n : Int) ≤ hi ↔ (n : Int) ≤ hi2)
    (HS : ∀ P, A = sg P → lo ≤ (n : Int) → (n : Int) ≤ hi → (∀ p ∈ P, p.2.sl) → ∃ Y, (∀ W, Q w W → Calls Tryz.prog 13 #[.string s, .slice ao1 n cap1] W fun r W' => r = .returned Y.v ∧ Q W W') ∧ Ans k (P.map (·.2)) Y) :
    Bth s (.slice ao1 n cap1) (.slice ao2 n cap2) w := by
  by_cases hlo : (n : Int) < lo
  · exact ⟨er 5, fun W q => call_lo s lo hi 110 ao1 n cap1 W hF hlo, fun W q => rcall_lo s k lo hi2 hk ao2 n cap2 W hP hT hlo⟩
  by_cases hhi : hi < (n : Int)
  · exact ⟨er 5, fun W q => call_hi s lo hi 110 ao1 n cap1 W hF ⟨hlo, hhi⟩, fun W q => rcall_hi s k lo hi2 hk ao2 n cap2 W hP hT ⟨hlo, by omega⟩⟩
  rcases sg_split A with ⟨P, rfl⟩ | ⟨P, a, R, rfl, ha⟩
  · obtain ⟨Y, hY1, hY2⟩ := HS P rfl (by omega) (by omega) (sg_vals fun a ha => (T.hs a ha).2)
    exact ⟨Y, hY1, fun W q => rcall_sing s k lo hi2 hk hk13 P Y ao2 n cap2 W hP hT (T.h2.on q) T.hm (by omega) (by omega) hY2⟩
  · have hPs : ∀ p ∈ P, p.2.sm := fun p hp => ((T.hs ⟨false, p.1, [p.2]⟩ (by rw [List.mem_append]; left; simp only [sg, List.mem_map]; exact ⟨p, hp, rfl⟩)).2 p.2 (by simp)).sm
    refine ⟨er 5, fun W q => call_fd s lo hi ao1 n cap1 (er 5) W hF (by omega) (by omega) (fun W' p q' => ?_), fun W q => rcall_bad s k lo hi2 hk P a R ao2 n cap2 W hP hT (T.h2.on q) T.hm (by omega) (by omega) ha⟩
    exact sing_no P a R _ p W' (T.hw.on (q.trans q')) (T.h1.on (q.trans q')) (by rw [T.hn]; exact T.hm) hPs ha
theorem fd_sin {s : ByteArray} {lo hi : Int} {F : Nat} (h : ∀ W, Calls Tryz.prog 29 #[.string s] W fun e w' => ∃ f, e = .returned (.tuple #[.agg #[.int .i64 lo, .int .i64 hi, f], .bool true]) ∧ SinV w' f F ∧ Q W w') : Fd s lo hi 110 := fun W => (h W).mono fun e w' ⟨f, he, hv, hq⟩ => by
  obtain ⟨p, rfl⟩ := hv.sh
  exact ⟨p, he, hq⟩
theorem fd_tak {s : ByteArray} {lo hi : Int} {K G F : Nat} (h : ∀ W, Calls Tryz.prog 29 #[.string s] W fun e w' => ∃ f, e = .returned (.tuple #[.agg #[.int .i64 lo, .int .i64 hi, f], .bool true]) ∧ TakV w' f K G F ∧ Q W w') : Fd s lo hi 110 := fun W => (h W).mono fun e w' ⟨f, he, hv, hq⟩ => by
  obtain ⟨p, rfl⟩ := hv.sh
  exact ⟨p, he, hq⟩
theorem fd_agg {s : ByteArray} {lo hi : Int} {F : Nat} (h : ∀ W, Calls Tryz.prog 29 #[.string s] W fun e w' => ∃ f, e = .returned (.tuple #[.agg #[.int .i64 lo, .int .i64 hi, f], .bool true]) ∧ AggV w' f F ∧ Q W w') : Fd s lo hi 103 := fun W => (h W).mono fun e w' ⟨f, he, hv, hq⟩ => by
  obtain ⟨p, rfl⟩ := hv.sh
  exact ⟨p, he, hq⟩
theorem map_ctd (P : List (Value × Cv)) : (P.map fun p => ctd p.2) = (P.map (·.2)).map ctd := by simp
theorem ctds_sl {L : List Cv} (h : ∀ x ∈ L, x.sl) : ∀ x ∈ L.map ctd, x.sl := fun x hx => by
  obtain ⟨y, hy, rfl⟩ := List.mem_map.1 hx
  exact ctd_sl (h y hy)
theorem ctds_may {L : List Cv} : ∀ x ∈ L.map ctd, x.may = true := fun x hx => by
  obtain ⟨y, hy, rfl⟩ := List.mem_map.1 hx
  exact ctd_may' y
theorem vals_sl {P : List (Value × Cv)} (h : ∀ p ∈ P, p.2.sl) : ∀ x ∈ P.map (·.2), x.sl := fun x hx => by
  obtain ⟨p, hp, rfl⟩ := List.mem_map.1 hx
  exact h p hp
theorem all_con (L : List Cv) : (!((L.map ctd).map Cv.tB).contains false) = allB L := by
  unfold allB
  induction L with
  | nil => rfl
  | cons x L ih =>
    simp only [List.map_cons, List.contains_cons, List.all_cons, Bool.not_or] at *
    rw [ih]
    cases (ctd x).tB <;> rfl
theorem any_con (L : List Cv) : ((L.map ctd).map Cv.tB).contains true = anyB L := by
  unfold anyB
  induction L with
  | nil => rfl
  | cons x L ih =>
    simp only [List.map_cons, List.contains_cons, List.any_cons] at *
    rw [ih]
    cases (ctd x).tB <;> rfl
theorem txs_ctd (L : List Cv) : (L.map ctd).map Cv.tT = txs L := by simp [txs]
def tkV (te : Cv → Int) (L : List Cv) (y : Cv) : Cv := if tw te (L.map ctd) = 0 then y else er (tw te (L.map ctd))
theorem ans_tk (k : Int) (te : Cv → Int) (hte : trE k = te) (L : List Cv) (y : Cv) (hk : 6 ≤ k ∧ k ≤ 11) (hs : ∀ x ∈ L, x.sl) (HG : ∀ W u, Sl Cv.cells 5 W u L → Calls Tryz.prog 36 #[.int .i64 k, u] W fun r W' => r = .returned y.v ∧ Q W W') : Ans k L (tkV te L y) := by
  refine ⟨fun h => by omega, fun h => by omega, fun h => by omega, fun _ _ => ⟨hs, ?_⟩⟩
  rw [hte]
  unfold tkV
  by_cases h0 : tw te (L.map ctd) = 0
  · right
    rw [if_pos h0]
    exact ⟨h0, HG⟩
  · left
    rw [if_neg h0]
    exact ⟨h0, rfl⟩
theorem pcall_and (P : List (Value × Cv)) (y : Cv) (ao : Option Addr) (n cap : Nat) (w : World) (hw : Std2 w) (h : Args w (.slice ao n cap) (sg P)) (hn : P.length = n) (hm : n ≤ 1000) (h0 : 1 ≤ (n : Int)) (h1 : (n : Int) ≤ 9223372036854775807) (hs : ∀ p ∈ P, p.2.sl)
    (HY : ∀ W s, Q w W → Sl encB 1 W s (((P.map (·.2)).map ctd).map Cv.tB) → Calls Tryz.prog 67 #[s] W fun r W' => r = .returned y.v ∧ Q W W') :
    Calls Tryz.prog 13 #[.string ⟨#[65, 78, 68]⟩, .slice ao n cap] w fun r w' => r = .returned (tkV Cv.bE (P.map (·.2)) y).v ∧ Q w w' := by
  refine call_and ao n cap _ w h0 h1 fun W f p hf q hv => ?_
  obtain ⟨q', r', c1, c2, c3⟩ := btak hf hv
  refine singk112 P _ _ p q' r' W (hw.on q) (h.on q) (by omega) (fun p hp => (hs p hp).sm) c1 (fun W' s g hs' => ?_)
  rw [map_ctd] at hs'
  have hl := ctds_sl (vals_sl hs)
  have hlo : ∀ x ∈ (P.map (·.2)).map ctd, 0 ≤ x.bE ∧ x.bE ≤ 7 := fun x hx => bE_lo (ctds_may x hx)
  exact taken_and ((P.map (·.2)).map ctd) Cv.bE Cv.tB s y q' r' W' (hw.on (q.trans g)) hs' (by simp; omega) (fcell c2 g) (fcell c3 g) hlo
    (fun x hx => tru_c x W' (hw.on (q.trans g)) (hl x hx) (ctds_may x hx))
    (fun hz V u gg hu => HY V u ((q.trans g).trans gg) (by rw [oks_all _ _ _ (tw_zero hlo hz)] at hu; exact hu))
theorem pcall_or (P : List (Value × Cv)) (y : Cv) (ao : Option Addr) (n cap : Nat) (w : World) (hw : Std2 w) (h : Args w (.slice ao n cap) (sg P)) (hn : P.length = n) (hm : n ≤ 1000) (h0 : 1 ≤ (n : Int)) (h1 : (n : Int) ≤ 9223372036854775807) (hs : ∀ p ∈ P, p.2.sl)
    (HY : ∀ W s, Q w W → Sl encB 1 W s (((P.map (·.2)).map ctd).map Cv.tB) → Calls Tryz.prog 68 #[s] W fun r W' => r = .returned y.v ∧ Q W W') :
    Calls Tryz.prog 13 #[.string ⟨#[79, 82]⟩, .slice ao n cap] w fun r w' => r = .returned (tkV Cv.bE (P.map (·.2)) y).v ∧ Q w w' := by
  refine call_or ao n cap _ w h0 h1 fun W f p hf q hv => ?_
  obtain ⟨q', r', c1, c2, c3⟩ := btak hf hv
  refine singk112 P _ _ p q' r' W (hw.on q) (h.on q) (by omega) (fun p hp => (hs p hp).sm) c1 (fun W' s g hs' => ?_)
  rw [map_ctd] at hs'
  have hl := ctds_sl (vals_sl hs)
  have hlo : ∀ x ∈ (P.map (·.2)).map ctd, 0 ≤ x.bE ∧ x.bE ≤ 7 := fun x hx => bE_lo (ctds_may x hx)
  exact taken_or ((P.map (·.2)).map ctd) Cv.bE Cv.tB s y q' r' W' (hw.on (q.trans g)) hs' (by simp; omega) (fcell c2 g) (fcell c3 g) hlo
    (fun x hx => tru_c x W' (hw.on (q.trans g)) (hl x hx) (ctds_may x hx))
    (fun hz V u gg hu => HY V u ((q.trans g).trans gg) (by rw [oks_all _ _ _ (tw_zero hlo hz)] at hu; exact hu))
theorem pcall_not (P : List (Value × Cv)) (y : Cv) (ao : Option Addr) (n cap : Nat) (w : World) (hw : Std2 w) (h : Args w (.slice ao n cap) (sg P)) (hn : P.length = n) (hm : n ≤ 1000) (h0 : 1 ≤ (n : Int)) (h1 : (n : Int) ≤ 1) (hs : ∀ p ∈ P, p.2.sl)
    (HY : ∀ W s, Q w W → Sl encB 1 W s (((P.map (·.2)).map ctd).map Cv.tB) → Calls Tryz.prog 69 #[s] W fun r W' => r = .returned y.v ∧ Q W W') :
    Calls Tryz.prog 13 #[.string ⟨#[78, 79, 84]⟩, .slice ao n cap] w fun r w' => r = .returned (tkV Cv.bE (P.map (·.2)) y).v ∧ Q w w' := by
  refine call_not ao n cap _ w h0 h1 fun W f p hf q hv => ?_
  obtain ⟨q', r', c1, c2, c3⟩ := btak hf hv
  refine singk112 P _ _ p q' r' W (hw.on q) (h.on q) (by omega) (fun p hp => (hs p hp).sm) c1 (fun W' s g hs' => ?_)
  rw [map_ctd] at hs'
  have hl := ctds_sl (vals_sl hs)
  have hlo : ∀ x ∈ (P.map (·.2)).map ctd, 0 ≤ x.bE ∧ x.bE ≤ 7 := fun x hx => bE_lo (ctds_may x hx)
  exact taken_not ((P.map (·.2)).map ctd) Cv.bE Cv.tB s y q' r' W' (hw.on (q.trans g)) hs' (by simp; omega) (fcell c2 g) (fcell c3 g) hlo
    (fun x hx => tru_c x W' (hw.on (q.trans g)) (hl x hx) (ctds_may x hx))
    (fun hz V u gg hu => HY V u ((q.trans g).trans gg) (by rw [oks_all _ _ _ (tw_zero hlo hz)] at hu; exact hu))
theorem pcall_abs (P : List (Value × Cv)) (y : Cv) (ao : Option Addr) (n cap : Nat) (w : World) (hw : Std2 w) (h : Args w (.slice ao n cap) (sg P)) (hn : P.length = n) (hm : n ≤ 1000) (h0 : 1 ≤ (n : Int)) (h1 : (n : Int) ≤ 1) (hs : ∀ p ∈ P, p.2.sl)
    (HY : ∀ W s, Q w W → Sl encN 1 W s (((P.map (·.2)).map ctd).map Cv.nN) → Calls Tryz.prog 72 #[s] W fun r W' => r = .returned y.v ∧ Q W W') :
    Calls Tryz.prog 13 #[.string ⟨#[65, 66, 83]⟩, .slice ao n cap] w fun r w' => r = .returned (tkV Cv.nE (P.map (·.2)) y).v ∧ Q w w' := by
  refine call_abs ao n cap _ w h0 h1 fun W f p hf q hv => ?_
  obtain ⟨q', r', c1, c2, c3⟩ := btak hf hv
  refine singk115 P _ _ p q' r' W (hw.on q) (h.on q) (by omega) (fun p hp => (hs p hp).sm) c1 (fun W' s g hs' => ?_)
  rw [map_ctd] at hs'
  have hl := ctds_sl (vals_sl hs)
  have hlo : ∀ x ∈ (P.map (·.2)).map ctd, 0 ≤ x.nE ∧ x.nE ≤ 7 := fun x hx => nE_lo (ctds_may x hx)
  exact taken_abs ((P.map (·.2)).map ctd) Cv.nE Cv.nN s y q' r' W' (hw.on (q.trans g)) hs' (by simp; omega) (fcell c2 g) (fcell c3 g) hlo
    (fun x hx => num_c x W' (hw.on (q.trans g)) (hl x hx) (ctds_may x hx))
    (fun hz V u gg hu => HY V u ((q.trans g).trans gg) (by rw [oks_all _ _ _ (tw_zero hlo hz)] at hu; exact hu))
theorem pcall_len (P : List (Value × Cv)) (y : Cv) (ao : Option Addr) (n cap : Nat) (w : World) (hw : Std2 w) (h : Args w (.slice ao n cap) (sg P)) (hn : P.length = n) (hm : n ≤ 1000) (h0 : 1 ≤ (n : Int)) (h1 : (n : Int) ≤ 1) (hs : ∀ p ∈ P, p.2.sl)
    (HY : ∀ W s, Q w W → Sl encS 1 W s (((P.map (·.2)).map ctd).map Cv.tT) → Calls Tryz.prog 73 #[s] W fun r W' => r = .returned y.v ∧ Q W W') :
    Calls Tryz.prog 13 #[.string ⟨#[76, 69, 78]⟩, .slice ao n cap] w fun r w' => r = .returned (tkV Cv.tE (P.map (·.2)) y).v ∧ Q w w' := by
  refine call_len ao n cap _ w h0 h1 fun W f p hf q hv => ?_
  obtain ⟨q', r', c1, c2, c3⟩ := btak hf hv
  refine singk86 P _ _ p q' r' W (hw.on q) (h.on q) (by omega) (fun p hp => (hs p hp).sm) c1 (fun W' s g hs' => ?_)
  rw [map_ctd] at hs'
  have hl := ctds_sl (vals_sl hs)
  have hlo : ∀ x ∈ (P.map (·.2)).map ctd, 0 ≤ x.tE ∧ x.tE ≤ 7 := fun x hx => tE_lo (ctds_may x hx)
  exact taken_len ((P.map (·.2)).map ctd) Cv.tE Cv.tT s y q' r' W' (hw.on (q.trans g)) hs' (by simp; omega) (fcell c2 g) (fcell c3 g) hlo
    (fun x hx => txt_c x W' (hw.on (q.trans g)) (hl x hx) (ctds_may x hx))
    (fun hz V u gg hu => HY V u ((q.trans g).trans gg) (by rw [oks_all _ _ _ (tw_zero hlo hz)] at hu; exact hu))
theorem pcall_concat (P : List (Value × Cv)) (y : Cv) (ao : Option Addr) (n cap : Nat) (w : World) (hw : Std2 w) (h : Args w (.slice ao n cap) (sg P)) (hn : P.length = n) (hm : n ≤ 1000) (h0 : 0 ≤ (n : Int)) (h1 : (n : Int) ≤ 9223372036854775807) (hs : ∀ p ∈ P, p.2.sl)
    (HY : ∀ W s, Q w W → Sl encS 1 W s (((P.map (·.2)).map ctd).map Cv.tT) → Calls Tryz.prog 42 #[s] W fun r W' => r = .returned y.v ∧ Q W W') :
    Calls Tryz.prog 13 #[.string ⟨#[67, 79, 78, 67, 65, 84]⟩, .slice ao n cap] w fun r w' => r = .returned (tkV Cv.tE (P.map (·.2)) y).v ∧ Q w w' := by
  refine call_concat ao n cap _ w h0 h1 fun W f p hf q hv => ?_
  obtain ⟨q', r', c1, c2, c3⟩ := btak hf hv
  refine singk86 P _ _ p q' r' W (hw.on q) (h.on q) (by omega) (fun p hp => (hs p hp).sm) c1 (fun W' s g hs' => ?_)
  rw [map_ctd] at hs'
  have hl := ctds_sl (vals_sl hs)
  have hlo : ∀ x ∈ (P.map (·.2)).map ctd, 0 ≤ x.tE ∧ x.tE ≤ 7 := fun x hx => tE_lo (ctds_may x hx)
  exact taken_join ((P.map (·.2)).map ctd) Cv.tE Cv.tT s y q' r' W' (hw.on (q.trans g)) hs' (by simp; omega) (fcell c2 g) (fcell c3 g) hlo
    (fun x hx => txt_c x W' (hw.on (q.trans g)) (hl x hx) (ctds_may x hx))
    (fun hz V u gg hu => HY V u ((q.trans g).trans gg) (by rw [oks_all _ _ _ (tw_zero hlo hz)] at hu; exact hu))
theorem one_of {P : List (Value × Cv)} {n : Nat} (hn : P.length = n) (h0 : 1 ≤ (n : Int)) (h1 : (n : Int) ≤ 1) : ∃ p, P = [p] := List.length_eq_one_iff.1 (by omega)
theorem sg_n {P : List (Value × Cv)} {n : Nat} (h : (sg P).length = n) : P.length = n := by rw [← h]; simp [sg]
theorem len_le {n : Nat} (hm : n ≤ 1000) : (n : Int) ≤ 9223372036854775807 ↔ (n : Int) ≤ 1048576 := by omega
theorem fd_and : Fd ⟨#[65, 78, 68]⟩ 1 9223372036854775807 110 := fd_tak fun W => find_and W
theorem fd_or : Fd ⟨#[79, 82]⟩ 1 9223372036854775807 110 := fd_tak fun W => find_or W
theorem fd_not : Fd ⟨#[78, 79, 84]⟩ 1 1 110 := fd_tak fun W => find_not W
theorem fd_abs : Fd ⟨#[65, 66, 83]⟩ 1 1 110 := fd_tak fun W => find_abs W
theorem fd_len : Fd ⟨#[76, 69, 78]⟩ 1 1 110 := fd_tak fun W => find_len W
theorem fd_concat : Fd ⟨#[67, 79, 78, 67, 65, 84]⟩ 0 9223372036854775807 110 := fd_tak fun W => find_concat W
theorem fd_if : Fd ⟨#[73, 70]⟩ 2 3 110 := fd_sin fun W => find_if W
theorem fd_iserror : Fd ⟨#[73, 83, 69, 82, 82, 79, 82]⟩ 1 1 110 := fd_sin fun W => find_iserror W
theorem fd_na : Fd ⟨#[78, 65]⟩ 0 0 110 := fd_sin fun W => find_na W
set_option maxHeartbeats 2000000 in
theorem bth_and (hP : Pl ⟨#[65, 78, 68]⟩ 6) (hT : Tk 6 1 1048576) (w : World) (ao1 ao2 : Option Addr) (n cap1 cap2 : Nat) (A : List Ag) (T : Two w ao1 ao2 n cap1 cap2 A) : Bth ⟨#[65, 78, 68]⟩ (.slice ao1 n cap1) (.slice ao2 n cap2) w := by
  refine bth_fn _ 6 1 9223372036854775807 1048576 (by omega) (by omega) (fd_and) hP hT w ao1 ao2 n cap1 cap2 A T (len_le T.hm) fun P hA h0 h1 hs => ?_
  subst hA
  have hn := sg_n T.hn
  refine ⟨tkV Cv.bE (P.map (·.2)) (bo (allB (P.map (·.2)))), fun W q => pcall_and P _ ao1 n cap1 W (T.hw.on q) (T.h1.on q) hn T.hm h0 h1 hs ?_, ans_tk 6 Cv.bE rfl _ _ (by omega) (vals_sl hs) (fun W u hu => single_6 _ u W hu (by have := T.hm; simp; omega) (vals_sl hs))⟩
  intro W' s q' hs'
  have h := alltrue_any _ s W' hs' (by have := T.hm; simp; omega)
  rw [all_con] at h
  exact h
set_option maxHeartbeats 2000000 in
theorem bth_or (hP : Pl ⟨#[79, 82]⟩ 7) (hT : Tk 7 1 1048576) (w : World) (ao1 ao2 : Option Addr) (n cap1 cap2 : Nat) (A : List Ag) (T : Two w ao1 ao2 n cap1 cap2 A) : Bth ⟨#[79, 82]⟩ (.slice ao1 n cap1) (.slice ao2 n cap2) w := by
  refine bth_fn _ 7 1 9223372036854775807 1048576 (by omega) (by omega) (fd_or) hP hT w ao1 ao2 n cap1 cap2 A T (len_le T.hm) fun P hA h0 h1 hs => ?_
  subst hA
  have hn := sg_n T.hn
  refine ⟨tkV Cv.bE (P.map (·.2)) (bo (anyB (P.map (·.2)))), fun W q => pcall_or P _ ao1 n cap1 W (T.hw.on q) (T.h1.on q) hn T.hm h0 h1 hs ?_, ans_tk 7 Cv.bE rfl _ _ (by omega) (vals_sl hs) (fun W u hu => single_7 _ u W hu (by have := T.hm; simp; omega) (vals_sl hs))⟩
  intro W' s q' hs'
  have h := sometrue_any _ s W' hs' (by have := T.hm; simp; omega)
  rw [any_con] at h
  exact h
theorem vals_one {P : List (Value × Cv)} {n : Nat} (hs : ∀ p ∈ P, p.2.sl) (hn : P.length = n) (h0 : 1 ≤ (n : Int)) (h1 : (n : Int) ≤ 1) : ∃ x, P.map (·.2) = [x] ∧ x.sl := by
  obtain ⟨p, rfl⟩ := one_of hn h0 h1
  exact ⟨p.2, rfl, hs p (by simp)⟩
theorem vals_two {P : List (Value × Cv)} (hs : ∀ p ∈ P, p.2.sl) (h : P.length = 2) : ∃ x a, P.map (·.2) = [x, a] ∧ x.sl ∧ a.sl := by
  match P, h with
  | [p, q], _ => exact ⟨p.2, q.2, rfl, hs p (by simp), hs q (by simp)⟩
theorem vals_three {P : List (Value × Cv)} (hs : ∀ p ∈ P, p.2.sl) (h : P.length = 3) : ∃ x a b, P.map (·.2) = [x, a, b] ∧ x.sl ∧ a.sl ∧ b.sl := by
  match P, h with
  | [p, q, r], _ => exact ⟨p.2, q.2, r.2, rfl, hs p (by simp), hs q (by simp), hs r (by simp)⟩
set_option maxHeartbeats 2000000 in
theorem bth_not (hP : Pl ⟨#[78, 79, 84]⟩ 8) (hT : Tk 8 1 1) (w : World) (ao1 ao2 : Option Addr) (n cap1 cap2 : Nat) (A : List Ag) (T : Two w ao1 ao2 n cap1 cap2 A) : Bth ⟨#[78, 79, 84]⟩ (.slice ao1 n cap1) (.slice ao2 n cap2) w := by
  refine bth_fn _ 8 1 1 1 (by omega) (by omega) (fd_not) hP hT w ao1 ao2 n cap1 cap2 A T (Iff.rfl) fun P hA h0 h1 hs => ?_
  subst hA
  have hn := sg_n T.hn
  obtain ⟨x, hx, hxs⟩ := vals_one hs hn h0 h1
  refine ⟨tkV Cv.bE (P.map (·.2)) (bo (!(allB (P.map (·.2))))), fun W q => pcall_not P _ ao1 n cap1 W (T.hw.on q) (T.h1.on q) hn T.hm h0 h1 hs ?_, ans_tk 8 Cv.bE rfl _ _ (by omega) (vals_sl hs) (fun W u hu => single_8 _ u W hu (by have := T.hm; simp; omega) (vals_sl hs))⟩
  intro W' s q' hs'
  rw [hx] at hs'
  simp only [List.map_cons, List.map_nil] at hs'
  have h := not_any (ctd x).tB s W' hs'
  have e : allB (P.map (·.2)) = (ctd x).tB := by rw [hx]; simp [allB]
  rw [e]
  exact h
theorem sub_pos (x : Int) (hx : Fx x) (w : World) (hw : Std2 w) : ∀ W, Q w W → Calls Tryz.prog 18 #[.string ⟨#[45]⟩, (nu 0).v, (nu x).v] W fun r W' => r = .returned (resV (0 - x)).v ∧ Q W W' := fun W q =>
  bin_sub (nu 0) (nu x) (nu 0) (nu x) _ W (hw.on q) nil_sm nil_sm (ctd_may (nu_may _)) (ctd_may (nu_may _)) (by rw [worst2]; rfl) (fun V g =>
    calc_sub (nu 0) (nu x) 0 x V (fun U f => number_nu 0 U (hw.on ((q.trans g).trans f))) (fun U f => number_nu x U (hw.on ((q.trans g).trans f))) ⟨by omega, by omega⟩ hx)
set_option maxHeartbeats 2000000 in
theorem bth_abs (hP : Pl ⟨#[65, 66, 83]⟩ 9) (hT : Tk 9 1 1) (w : World) (ao1 ao2 : Option Addr) (n cap1 cap2 : Nat) (A : List Ag) (T : Two w ao1 ao2 n cap1 cap2 A) : Bth ⟨#[65, 66, 83]⟩ (.slice ao1 n cap1) (.slice ao2 n cap2) w := by
  refine bth_fn _ 9 1 1 1 (by omega) (by omega) (fd_abs) hP hT w ao1 ao2 n cap1 cap2 A T (Iff.rfl) fun P hA h0 h1 hs => ?_
  subst hA
  have hn := sg_n T.hn
  obtain ⟨x, hx, hxs⟩ := vals_one hs hn h0 h1
  by_cases hp : 0 ≤ (ctd x).nN
  · refine ⟨tkV Cv.nE (P.map (·.2)) (nu (ctd x).nN), fun W q => pcall_abs P _ ao1 n cap1 W (T.hw.on q) (T.h1.on q) hn T.hm h0 h1 hs ?_, ans_tk 9 Cv.nE rfl _ _ (by omega) (vals_sl hs) ?_⟩
    · intro W' s q' hs'
      rw [hx] at hs'
      simp only [List.map_cons, List.map_nil] at hs'
      exact abs_pos (ctd x).nN s W' hs' (by omega)
    · intro W u hu
      rw [hx] at hu
      exact single_9p x u W hu hxs hp
  · refine ⟨tkV Cv.nE (P.map (·.2)) (resV (0 - (ctd x).nN)), fun W q => pcall_abs P _ ao1 n cap1 W (T.hw.on q) (T.h1.on q) hn T.hm h0 h1 hs ?_, ans_tk 9 Cv.nE rfl _ _ (by omega) (vals_sl hs) ?_⟩
    · intro W' s q' hs'
      rw [hx] at hs'
      simp only [List.map_cons, List.map_nil] at hs'
      exact abs_neg (ctd x).nN _ s W' hs' (by omega) (sub_pos _ (nN_fx (ctd_sl hxs)) W' (T.hw.on (q.trans q')))
    · intro W u hu
      rw [hx] at hu
      exact single_9n x u W hu hxs hp
set_option maxHeartbeats 2000000 in
theorem bth_len (hP : Pl ⟨#[76, 69, 78]⟩ 10) (hT : Tk 10 1 1) (w : World) (ao1 ao2 : Option Addr) (n cap1 cap2 : Nat) (A : List Ag) (T : Two w ao1 ao2 n cap1 cap2 A) : Bth ⟨#[76, 69, 78]⟩ (.slice ao1 n cap1) (.slice ao2 n cap2) w := by
  refine bth_fn _ 10 1 1 1 (by omega) (by omega) (fd_len) hP hT w ao1 ao2 n cap1 cap2 A T (Iff.rfl) fun P hA h0 h1 hs => ?_
  subst hA
  have hn := sg_n T.hn
  obtain ⟨x, hx, hxs⟩ := vals_one hs hn h0 h1
  refine ⟨tkV Cv.tE (P.map (·.2)) (nu ((((joinL (txs (P.map (·.2)))).length : Nat) : Int) * 10000)), fun W q => pcall_len P _ ao1 n cap1 W (T.hw.on q) (T.h1.on q) hn T.hm h0 h1 hs ?_, ans_tk 10 Cv.tE rfl _ _ (by omega) (vals_sl hs) (fun W u hu => single_10 _ u W hu (by have := T.hm; simp; omega) (vals_sl hs))⟩
  intro W' s q' hs'
  rw [hx] at hs'
  simp only [List.map_cons, List.map_nil] at hs'
  have hz := tT_size (ctd_sl hxs)
  have h := length_any (ctd x).tT s W' hs' (by omega)
  have e : (joinL (txs (P.map (·.2)))).length = (ctd x).tT.size := by rw [hx]; simp only [txs, joinL, List.map_cons, List.map_nil, List.flatMap_cons, List.flatMap_nil, List.append_nil]; exact bytes_len _
  rw [e]
  exact h
set_option maxHeartbeats 2000000 in
theorem bth_concat (hP : Pl ⟨#[67, 79, 78, 67, 65, 84]⟩ 11) (hT : Tk 11 0 1048576) (w : World) (ao1 ao2 : Option Addr) (n cap1 cap2 : Nat) (A : List Ag) (T : Two w ao1 ao2 n cap1 cap2 A) : Bth ⟨#[67, 79, 78, 67, 65, 84]⟩ (.slice ao1 n cap1) (.slice ao2 n cap2) w := by
  refine bth_fn _ 11 0 9223372036854775807 1048576 (by omega) (by omega) (fd_concat) hP hT w ao1 ao2 n cap1 cap2 A T (len_le T.hm) fun P hA h0 h1 hs => ?_
  subst hA
  have hn := sg_n T.hn
  have hz : ∀ t ∈ txs (P.map (·.2)), t.size ≤ 100000 := fun t ht => by
    obtain ⟨x, hx, rfl⟩ := List.mem_map.1 ht
    have := tT_size (ctd_sl (vals_sl hs x hx))
    omega
  have hlen : (txs (P.map (·.2))).length ≤ 1000 := by rw [txs_len]; have := T.hm; simp; omega
  refine ⟨tkV Cv.tE (P.map (·.2)) (joinV (txs (P.map (·.2)))), fun W q => pcall_concat P _ ao1 n cap1 W (T.hw.on q) (T.h1.on q) hn T.hm h0 h1 hs ?_, ans_tk 11 Cv.tE rfl _ _ (by omega) (vals_sl hs) ?_⟩
  · intro W' s q' hs'
    rw [txs_ctd] at hs'
    exact join_any _ s W' hs' hlen hz
  · intro W u hu
    unfold joinV
    by_cases hj : (joinL (txs (P.map (·.2)))).length ≤ 200
    · rw [if_pos hj]
      exact single_11y _ u W hu (by have := T.hm; simp; omega) (vals_sl hs) hj
    · rw [if_neg hj]
      exact single_11n _ u W hu (by have := T.hm; simp; omega) (vals_sl hs) hj
set_option maxHeartbeats 2000000 in
theorem bth_if (hP : Pl ⟨#[73, 70]⟩ 5) (hT : Tk 5 2 3) (w : World) (ao1 ao2 : Option Addr) (n cap1 cap2 : Nat) (A : List Ag) (T : Two w ao1 ao2 n cap1 cap2 A) : Bth ⟨#[73, 70]⟩ (.slice ao1 n cap1) (.slice ao2 n cap2) w := by
  refine bth_fn _ 5 2 3 3 (by omega) (by omega) (fd_if) hP hT w ao1 ao2 n cap1 cap2 A T (Iff.rfl) fun P hA h0 h1 hs => ?_
  subst hA
  have hn := sg_n T.hn
  have h23 : P.length = 2 ∨ P.length = 3 := by omega
  rcases h23 with h | h
  · obtain ⟨x, a, hx, hxs, has⟩ := vals_two hs h
    refine ⟨chV (ctd x) (ctd a) (bo false), fun W g => call_if ao1 n cap1 _ W h0 h1 fun W' f r hf g' hv => sing75 P _ _ r W' (T.hw.on (g.trans g')) (T.h1.on (g.trans g')) (by omega) (fun p hp => (hs p hp).sm) (bsin hf hv) ?_, ⟨?_, fun h => by omega, fun h => by omega, fun h => by omega⟩⟩
    · intro W'' s g'' hs'
      rw [map_ctd, hx] at hs'
      exact choose2_any (ctd x) (ctd a) s W'' hs' (tru_c _ W'' (T.hw.on ((g.trans g').trans g'')) (ctd_sl hxs) (ctd_may' _))
    · intro _ W u hu
      rw [hx] at hu
      exact choice2_any x a u W hu hxs has
  · obtain ⟨x, a, b, hx, hxs, has, hbs⟩ := vals_three hs h
    refine ⟨chV (ctd x) (ctd a) (ctd b), fun W g => call_if ao1 n cap1 _ W h0 h1 fun W' f z hf g' hv => sing75 P _ _ z W' (T.hw.on (g.trans g')) (T.h1.on (g.trans g')) (by omega) (fun p hp => (hs p hp).sm) (bsin hf hv) ?_, ⟨?_, fun h => by omega, fun h => by omega, fun h => by omega⟩⟩
    · intro W'' s g'' hs'
      rw [map_ctd, hx] at hs'
      exact choose3_any (ctd x) (ctd a) (ctd b) s W'' hs' (tru_c _ W'' (T.hw.on ((g.trans g').trans g'')) (ctd_sl hxs) (ctd_may' _))
    · intro _ W u hu
      rw [hx] at hu
      exact choice3_any x a b u W hu hxs has hbs
theorem iserr_ctd (x : Cv) : ((ctd x).k == 4) = ((x.k == 4) || !x.may) := by
  unfold ctd
  cases hm : x.may
  · simp [er]
  · simp
set_option maxHeartbeats 2000000 in
theorem bth_iserror (hP : Pl ⟨#[73, 83, 69, 82, 82, 79, 82]⟩ 12) (hT : Tk 12 1 1) (w : World) (ao1 ao2 : Option Addr) (n cap1 cap2 : Nat) (A : List Ag) (T : Two w ao1 ao2 n cap1 cap2 A) : Bth ⟨#[73, 83, 69, 82, 82, 79, 82]⟩ (.slice ao1 n cap1) (.slice ao2 n cap2) w := by
  refine bth_fn _ 12 1 1 1 (by omega) (by omega) (fd_iserror) hP hT w ao1 ao2 n cap1 cap2 A T (Iff.rfl) fun P hA h0 h1 hs => ?_
  subst hA
  have hn := sg_n T.hn
  obtain ⟨x, hx, hxs⟩ := vals_one hs hn h0 h1
  refine ⟨bo ((x.k == 4) || !x.may), fun W g => call_iserror ao1 n cap1 _ W h0 h1 fun W' f r hf g' hv => sing82 P _ _ r W' (T.hw.on (g.trans g')) (T.h1.on (g.trans g')) (by omega) (fun p hp => (hs p hp).sm) (bsin hf hv) ?_, ⟨fun h => by omega, fun _ => ⟨x, hx, hxs, rfl⟩, fun h => by omega, fun _ h => by omega⟩⟩
  intro W'' s g'' hs'
  rw [map_ctd, hx] at hs'
  rw [← iserr_ctd]
  exact iserr_any (ctd x) s W'' hs'
set_option maxHeartbeats 2000000 in
theorem bth_na (hP : Pl ⟨#[78, 65]⟩ 13) (hT : Tk 13 0 0) (w : World) (ao1 ao2 : Option Addr) (n cap1 cap2 : Nat) (A : List Ag) (T : Two w ao1 ao2 n cap1 cap2 A) : Bth ⟨#[78, 65]⟩ (.slice ao1 n cap1) (.slice ao2 n cap2) w := by
  refine bth_fn _ 13 0 0 0 (by omega) (by omega) (fd_na) hP hT w ao1 ao2 n cap1 cap2 A T (Iff.rfl) fun P hA h0 h1 hs => ?_
  subst hA
  have hn := sg_n T.hn
  exact ⟨er 7, fun W g => call_na ao1 n cap1 _ W h0 h1 fun W' f r hf g' hv => sing75n P _ _ r W' (T.hw.on (g.trans g')) (T.h1.on (g.trans g')) (by have := T.hm; omega) (fun p hp => (hs p hp).sm) (bsin hf hv) (fun W'' s g'' hs' => notthere_any s W''), ⟨fun h => by omega, fun h => by omega, fun _ => rfl, fun _ h => by omega⟩⟩
end Go.Proofs.YtfjpdopmojfchaaGreatDoor
