/- filesAt. -/
import Derived.Test.YtbknbffmpnomlaaDq
namespace Go.Proofs.Ytbknbffmpnomlaa
open Go.RowKit Go.Shelf
set_option linter.unusedVariables false
set_option linter.unusedSimpArgs false
attribute [local go_sem] Oper.semAt_some
variable {S S' : Nat → Prop} {w w' : World} {p : Nat} {mv : Option Nat} {n : Nat} {f : Fv} {pv : Value} {ms : List Mk} {u s : Nat}

def pj (f : Fv) : Fs := fun x => (f x).map (·.2)
def sj (f : Fv) : ByteArray → Option Sv := fun x => (f x).map (·.1)
/-- all of them can be read -/
def Rd (w : World) (f : Fv) : Prop := ∀ x v L, f x = some (v, L) → Sb w (sv v) L ∧ L.length ≤ 1000000000
def givF (m : Mk) (f : Fv) : Fv := upd f m.x (if m.t then some (m.v, m.L) else none)
theorem giv_sj (m : Mk) (f : Fv) : sj (givF m f) = giv m (sj f) := by
  unfold sj givF giv
  rw [upd_map]
  cases m.t <;> rfl
theorem giv_pj (m : Mk) (f : Fv) : pj (givF m f) = give m.p (pj f) := by
  unfold pj givF give
  rw [upd_map]
  unfold Mk.p
  cases m.t <;> rfl
theorem Rd.giv {m : Mk} (h : Rd w f) (hm : Sb w (sv m.v) m.L ∧ m.L.length ≤ 1000000000) : Rd w (givF m f) := by
  intro x v L hx
  unfold givF at hx
  by_cases e : x = m.x
  · subst e
    rw [upd_same] at hx
    split at hx
    · cases hx; exact hm
    · cases hx
  · rw [upd_other _ _ e] at hx
    exact h x v L hx
theorem Rd.put (h : Rd w f) {x : ByteArray} {v : Sv} {L : List UInt8} (hv : Sb w (sv v) L) (hl : L.length ≤ 1000000000) : Rd w (upd f x (some (v, L))) := by
  intro y v' L' hy
  by_cases e : y = x
  · subst e
    rw [upd_same] at hy
    cases hy
    exact ⟨hv, hl⟩
  · rw [upd_other _ _ e] at hy
    exact h y v' L' hy
theorem fl_pj (f : Fv) (x : ByteArray) : (fl f x).2 = gd (pj f) x := by
  unfold fl gd pj
  show _ = ((f x).map (·.2)).getD []
  cases f x <;> rfl
/-- where the loop stands: i marks are still to come; fb, ob, bn: the boxes of the files, of what is over, of the marks -/
structure Lo (w : World) (N B fb ob bn : Nat) (mv : Option Nat) (pv : Value) (ms : List Mk) (T : Fs) (i : Nat) (W : World) : Prop where
  q : Q w W
  hb : w.heap.size ≤ fb ∧ fb < B ∧ w.heap.size ≤ ob ∧ ob < B ∧ bn < B ∧ fb ≠ ob ∧ B ≤ W.heap.size
  hm : ∀ b, mv = some b → w.heap.size ≤ b ∧ b < B
  bb : Bk W 48 bn #[pv]
  ex : ∃ (f : Fv) (o : Nat) (n : Nat), Bk W 47 fb #[.map mv] ∧ Bk W 3 ob #[.int .i64 o] ∧ Mv W mv n (sj f) ∧ n + i ≤ N ∧ o ≤ 2000000000 ∧ Rd w f ∧ back ((ms.take i).reverse.map Mk.p) o (pj f) = T ∧ Wb ((ms.take i).reverse.map Mk.p) (pj f)
/-- .. or has been left -/
structure Lx (w : World) (N B fb : Nat) (mv : Option Nat) (T : Fs) (W : World) : Prop where
  q : Q w W
  hb : w.heap.size ≤ fb ∧ fb < B ∧ B ≤ W.heap.size
  hm : ∀ b, mv = some b → w.heap.size ≤ b ∧ b < B
  ex : ∃ (f : Fv) (n : Nat), Bk W 47 fb #[.map mv] ∧ Mv W mv n (sj f) ∧ n ≤ N + 1 ∧ Rd w f ∧ pj f = T
theorem q_below {B : Nat} {w W W' : World} (h : Q w W) (hB : w.heap.size ≤ B) (b : Below B W W') : Q w W' := Below.trans h (Below.mono b hB)
theorem Lo.on {N B fb ob bn i : Nat} {T : Fs} {W W' : World} (b : Below B W W') (h : Lo w N B fb ob bn mv pv ms T i W) : Lo w N B fb ob bn mv pv ms T i W' := by
  have hb := h.hb
  obtain ⟨f, o, n, h1, h2, h3, h4⟩ := h.ex
  exact ⟨q_below h.q (by omega) b, ⟨hb.1, hb.2.1, hb.2.2.1, hb.2.2.2.1, hb.2.2.2.2.1, hb.2.2.2.2.2.1, Nat.le_trans hb.2.2.2.2.2.2 b.size⟩, h.hm, h.bb.same (b.block _ (by omega)), f, o, n, h1.same (b.block _ (by omega)), h2.same (b.block _ (by omega)), h3.same (fun b' e => b.block _ (h.hm b' e).2), h4⟩
theorem Lx.on {N B fb : Nat} {T : Fs} {W W' : World} (b : Below B W W') (h : Lx w N B fb mv T W) : Lx w N B fb mv T W' := by
  have hb := h.hb
  obtain ⟨f, n, h1, h3, h4⟩ := h.ex
  exact ⟨q_below h.q (by omega) b, ⟨hb.1, hb.2.1, Nat.le_trans hb.2.2 b.size⟩, h.hm, f, n, h1.same (b.block _ (by omega)), h3.same (fun b' e => b.block _ (h.hm b' e).2), h4⟩
theorem mclone_any (mv : Option Nat) (n : Nat) (g : ByteArray → Option Sv) (w : World) (hm : Mv w mv n g) :
    Calls Try.prog 25 #[.map mv] w fun e W' => ∃ mv', e = .returned (.map mv') ∧ Mv W' mv' n g ∧ Q w W' ∧ (∀ b, mv' = some b → w.heap.size ≤ b ∧ b < W'.heap.size) ∧ (mv' = none → mv = none) := by
  cases mv with
  | none =>
    refine (mclone_none w).mono ?_
    rintro e W' ⟨rfl, rfl⟩
    exact ⟨none, rfl, hm, Q.refl _, fun b e => (by cases e), fun _ => rfl⟩
  | some b =>
    refine (mclone_some b n g w hm).mono ?_
    rintro e W' ⟨rfl, h1, h2, h3⟩
    exact ⟨some w.heap.size, rfl, h1, h2, fun b e => by cases e; omega, fun e => (by cases e)⟩
theorem own_row {α : Type} {enc : α → List Value} {e k B : Nat} {W : World} {v : Value} {L : List α} (h : Own enc e k B W v L) (hk : ∀ x, (enc x).length = k) : ∃ g ao cap, v = .slice ao L.length cap ∧ (0 < L.length → ao = some ⟨g, 0, none⟩) ∧ ∀ i (hi : i < L.length), Ats enc W g (i * k) L[i] := by
  have h0 := h
  obtain ⟨hl, h⟩ := h
  rcases h with ⟨hv, hn⟩ | ⟨g, cap, cur, hv, _⟩
  · exact ⟨0, none, 0, by rw [hv, hn], fun h => by omega, fun i hi => by omega⟩
  · exact ⟨g, some ⟨g, 0, none⟩, cap, hv, fun _ => rfl, fun i hi => Own.cell (hv ▸ h0) hk hi⟩
theorem take_rev (ms : List Mk) (i : Nat) (h : i < ms.length) : (ms.take (i + 1)).reverse.map Mk.p = ms[i].p :: (ms.take i).reverse.map Mk.p := by
  rw [List.take_succ_eq_append_getElem h, List.reverse_append]
  rfl
theorem keeps_of_qp {B : Nat} {P : Nat → Prop} {W W' : World} (q : Qp P W W') (hp : ∀ i, P i → i < B) : KeepsFrom B W W' :=
  ⟨q.size, fun k o hB hk _ => (q.block k (Array.getElem?_eq_some_iff.1 hk).1 (fun e => by have := hp k e; omega)).trans hk⟩
/-- the region that cuts a file: what each operation yields; the store comes last -/
structure I8 (t : Nat → Value) (wd : World) (Po : World → Prop) (L : Nat → Bool) (v : Nat → Value) (W : World) : Prop where
  a : L 9 = true → (∀ k, k < 9 → L k = true) ∧ Po W
  b : L 9 = false → W = wd
  e : ∀ k, k < 9 → L k = true → v (38 + k) = t k
theorem I8.wo {t : Nat → Value} {wd : World} {Po : World → Prop} {L : Nat → Bool} {v : Nat → Value} {W : World} (J : I8 t wd Po L v W) (k : Nat) (hk : k < 9) (h : L k = false) : W = wd ∧ L 9 = false := by
  cases h9 : L 9 with
  | false => exact ⟨J.b h9, rfl⟩
  | true => rw [(J.a h9).1 k hk] at h; cases h
theorem I8.st {t : Nat → Value} {wd : World} {Po : World → Prop} {L : Nat → Bool} {v : Nat → Value} {W : World} {u : Value} (J : I8 t wd Po L v W) (k : Nat) (hk : k < 9) (h : L k = false) (e : u = t k) : I8 t wd Po (ul L k) (up v (38 + k) u) W := by
  obtain ⟨h1, h2⟩ := J.wo k hk h
  refine ⟨fun h9 => ?_, fun _ => h1, fun j hj hl => ?_⟩
  · rw [ul_ne (by omega), h2] at h9
    cases h9
  · by_cases hjk : j = k
    · subst hjk
      rw [up_same]
      exact e
    · rw [ul_ne hjk] at hl
      rw [up_ne (by omega)]
      exact J.e j hj hl
theorem I8.last {t : Nat → Value} {wd W' : World} {Po : World → Prop} {L : Nat → Bool} {v : Nat → Value} {W : World} (J : I8 t wd Po L v W) (h : ∀ k, k < 9 → L k = true) (hp : Po W') : I8 t wd Po (ul L 9) v W' :=
  ⟨fun _ => ⟨fun k hk => by rw [ul_ne (by omega)]; exact h k hk, hp⟩, fun h9 => (by rw [ul_same] at h9; cases h9), fun j hj hl => (by rw [ul_ne (by omega)] at hl; exact J.e j hj hl)⟩
theorem I8.start {t : Nat → Value} {wd : World} {Po : World → Prop} {v : Nat → Value} : I8 t wd Po (fun _ => false) v wd := ⟨fun h => (by cases h), fun _ => rfl, fun k _ h => (by cases h)⟩
def t8 (cb q : Nat) (mx : ByteArray) (s1 s2 : Value) (n o k : Nat) : Nat → Value
  | 0 => .map (some cb)
  | 1 => .pointer (some ⟨q, 0, none⟩)
  | 2 => .string mx
  | 3 => s1
  | 4 => s1
  | 5 => .int .i64 n
  | 6 => .int .i64 o
  | 7 => .int .i64 k
  | 8 => s2
  | _ => undef
theorem run_put (w : World) (b n : Nat) (f : ByteArray → Option Sv) (h : Mp w b n f) (hn : n < maxLen) (s : ByteArray) (hs : s.size ≤ maxLen) (y : Sv) :
    ∃ w', (Instr.mapUpdate 47 (.map (some b)) (.string s) (sv y)).run Try.prog w = .ok () w' ∧ Mp w' b (n + 1) (upd f s (some y)) ∧ w.grownBy w' (some b) := by
  obtain ⟨D, h1, h2⟩ := h
  obtain ⟨w', hr, r1, r2⟩ := h1.store law Try.underlying47 hn (keyS hs) (rel_sv y)
  exact ⟨w', hr, Mp.put h2 h1.isMap s y r1, r2.grown⟩
theorem wplIn_put {F : Fence} {nF : Nat} (w : World) {ops : Array Oper} {rest : List Oper} {o : Oper} {a : Act} {K : Exit → Act → World → Prop} (hg : o.guard = none) (m x v : Operand) (hop : o.op = Op.mapUpdate 47 m x v) (b n : Nat) (f : ByteArray → Option Sv) (hm : a.eval m = .map (some b)) (h : Mp w b n f) (hn : n < maxLen) (s : ByteArray) (hx : a.eval x = .string s) (hs : s.size ≤ maxLen) (y : Sv) (hv : a.eval v = sv y)
    (hK : ∀ w', Mp w' b (n + 1) (upd f s (some y)) → w.grownBy w' (some b) → wpListIn F nF Try.prog ops K rest (a.put o.dst undef) w') : wpListIn F nF Try.prog ops K (o :: rest) a w := by
  obtain ⟨D, h1, h2⟩ := h
  exact wpListIn_mapUpdate_in w hg m x v 47 hop 9 30 law Try.underlying47 rel b n D hm h1 hn (.string s) (sv y) (ky s) hx hv (keyS hs) (.held y) [] (rel_sv y) (fun w' g1 g2 => hK w' (Mp.put h2 h1.isMap s y g1) g2.grown)
theorem q_qp {P : Nat → Prop} {w W W' : World} (h : Q w W) (q : Qp P W W') (hp : ∀ i, P i → w.heap.size ≤ i) : Q w W' :=
  ⟨q.os.trans h.os, q.tape.trans h.tape, q.output.trans h.output, Nat.le_trans h.size q.size, fun i hi => (q.block i (h.lt hi) (fun e => by have := hp i e; omega)).trans (h.block hi)⟩
set_option maxRecDepth 100000 in
set_option maxHeartbeats 4000000 in
theorem files_any {P : Pd} (h : Ds S w p n P) (hl : Lt S w) (hwf : Wf P) (k : Nat) (hk : k ≤ P.u) (hms : P.ms.length ≤ 10000) (hn : n ≤ 10000) (hu : P.u ≤ 1000000000) (hL : ∀ x, (gd P.f x).length ≤ 1000000000) (hM : ∀ m ∈ P.ms, m.L.length ≤ 1000000000) :
    Calls Try.prog 22 #[.pointer (some ⟨p, 0, none⟩), .int .i64 k] w fun e W' => ∃ mv' f' n', e = .returned (.map mv') ∧ Mv W' mv' n' (sj f') ∧ n' ≤ n + P.ms.length + 1 ∧ Rd w f' ∧ pj f' = P.at k ∧ Q w W' ∧ ∀ b, mv' = some b → w.heap.size ≤ b := by
  obtain ⟨mv, f, pv, ms, H0, H2, H3⟩ := h
  have H := hid H0
  have c0 : w.cell? ⟨p, 0, none⟩ = some (.map mv) := H0.blk.c 0 _ rfl
  have c1 : w.cell? ⟨p, 1, none⟩ = some pv := H0.blk.c 1 _ rfl
  have c2 : w.cell? ⟨p, 2, none⟩ = some (.int .i64 P.u) := H0.blk.c 2 _ rfl
  have hml : ms.length ≤ 10000 := by rw [← List.length_map (f := Mk.p), H3]; omega
  have HME : Hid (ms.length = P.ms.length) := hid (by rw [← List.length_map (f := Mk.p), H3])
  obtain ⟨g, ao, cap, rfl, hao, hcs⟩ := own_row H0.past em_len
  have HCS := hid hcs
  have HC := hid (mclone_any mv n (sj f) w H0.map)
  have HMS : Hid (∀ m ∈ ms, Sb w (sv m.v) m.L ∧ m.L.length ≤ 1000000000 ∧ m.x.size ≤ maxLen) := hid (fun m hm => ⟨own_sb (e := 5) (H0.mks m hm).1, hM m.p (by rw [← H3]; exact List.mem_map_of_mem hm), (H0.mks m hm).2⟩)
  have HRD : Hid (Rd w f) := hid (fun x v L hx => ⟨own_sb (e := 5) (H0.fil x v L hx), by
    have := hL x
    rw [← H2] at this
    unfold gd at this
    simp only [hx] at this
    exact this⟩)
  have HPJ : Hid (pj f = P.f) := hid H2
  have HMP : Hid (ms.map Mk.p = P.ms) := hid H3
  clear hcs H0 H2 H3
  have hp := H.out.lt
  have eu : (P.u : Int) - (k : Int) = ((P.u - k : Nat) : Int) := by omega
  refine (callsIn_wide (n := 8)).1 ?_
  refine callsIn_of_wp_marks Try.func22 rfl trivial ?_ rfl
  simp only [Try.ntmps22, List.size_toArray, List.length_cons, List.length_nil, Nat.reduceAdd, Nat.reduceSub, Array.replicate_succ, Array.replicate_zero, List.push_toArray, List.append_toArray, List.nil_append, List.cons_append]
  gi_wp2_with (first
    | (refine ⟨trivial, ?_⟩
       gi_at_call 25
       refine (callsIn_wide.2 HC.out).mono ?_
       rintro e9 w1 ⟨mv', rfl, hm1, hq1, hs1, hs2⟩
       have q2 : Q w (w1.alloc (.cells #[.map mv'] 47)) := hq1.alloc _
       have c2a : (w1.alloc (.cells #[.map mv'] 47)).cell? ⟨p, 2, none⟩ = some (.int .i64 P.u) := (q2.cell hp).trans c2
       have c1a : ((w1.alloc (.cells #[.map mv'] 47)).alloc (.cells #[.int .i64 ((P.u - k : Nat) : Int)] 3)).cell? ⟨p, 1, none⟩ = some (.slice ao ms.length cap) := ((q2.alloc _).cell hp).trans c1
       have HM1 := hid hm1
       have Q1 := hid hq1
       have HS1 := hid hs1
       have HS2 := hid hs2
       clear hm1 hq1 hs1 hs2 HC q2)
    | (refine ⟨trivial, ?_⟩
       gi_at_call 26
       refine (callsIn_wide.2 (backward_any ao ms.length cap _)).mono ?_
       rintro e9 w3 ⟨rfl, rfl⟩))
  have HB1 : Hid (Bk (((w1.alloc (.cells #[.map mv'] 47)).alloc (.cells #[.int .i64 ((P.u - k : Nat) : Int)] 3)).alloc (.cells #[.slice ao ms.length cap] 48)) 47 w1.heap.size #[.map mv']) := hid (((bk_new w1 47 _).on ((Q.refl _).alloc _)).on ((Q.refl _).alloc _))
  have HB2 : Hid (Bk (((w1.alloc (.cells #[.map mv'] 47)).alloc (.cells #[.int .i64 ((P.u - k : Nat) : Int)] 3)).alloc (.cells #[.slice ao ms.length cap] 48)) 3 (w1.heap.size + 1) #[.int .i64 ((P.u - k : Nat) : Int)]) := hid (by
    have := (bk_new (w1.alloc (.cells #[.map mv'] 47)) 3 #[.int .i64 ((P.u - k : Nat) : Int)]).on ((Q.refl _).alloc (.cells #[.slice ao ms.length cap] 48))
    simpa using this)
  have HB3 : Hid (Bk (((w1.alloc (.cells #[.map mv'] 47)).alloc (.cells #[.int .i64 ((P.u - k : Nat) : Int)] 3)).alloc (.cells #[.slice ao ms.length cap] 48)) 48 (w1.heap.size + 2) #[.slice ao ms.length cap]) := hid (by
    have := bk_new ((w1.alloc (.cells #[.map mv'] 47)).alloc (.cells #[.int .i64 ((P.u - k : Nat) : Int)] 3)) 48 #[.slice ao ms.length cap]
    simpa using this)
  have HQ3 : Hid (Q w1 (((w1.alloc (.cells #[.map mv'] 47)).alloc (.cells #[.int .i64 ((P.u - k : Nat) : Int)] 3)).alloc (.cells #[.slice ao ms.length cap] 48))) := hid ((((Q.refl w1).alloc _).alloc _).alloc _)
  have HSZ : Hid ((((w1.alloc (.cells #[.map mv'] 47)).alloc (.cells #[.int .i64 ((P.u - k : Nat) : Int)] 3)).alloc (.cells #[.slice ao ms.length cap] 48)).heap.size = w1.heap.size + 3) := hid (by simp)
  clear c1a c2a
  generalize hw3 : ((w1.alloc (.cells #[.map mv'] 47)).alloc (.cells #[.int .i64 ((P.u - k : Nat) : Int)] 3)).alloc (.cells #[.slice ao ms.length cap] 48) = w3 at HB1 HB2 HB3 HQ3 HSZ ⊢
  clear hw3
  have hs1 := Q1.out.size
  refine wp_back 8 (by omega) rfl (w1.heap.size + 2) rfl g cap ao ms hao (by omega) (Lo w (n + ms.length) w3.heap.size w1.heap.size (w1.heap.size + 1) (w1.heap.size + 2) mv' (.slice ao ms.length cap) ms (P.at k)) (Lx w (n + ms.length) w3.heap.size w1.heap.size mv' (P.at k))
    (fun i W W' b h => h.on b) (fun W W' b h => h.on b) (fun i W h => ⟨h.bb.c 0 _ rfl, fun i hi => (HCS.out i hi).on h.q⟩)
    (fun q i => { tmps := #[.pointer (some ⟨p, 0, none⟩), .int .i64 k, undef, undef, .map none, .pointer (some ⟨w1.heap.size, 0, none⟩), .pointer (some ⟨w1.heap.size + 1, 0, none⟩), undef, .pointer (some ⟨q, 0, none⟩), undef,
      .pointer (some ⟨p, 0, none⟩), .pointer (some ⟨p, 0, none⟩), .pointer (some ⟨p, 0, none⟩), .map mv, .map mv', .pointer (some ⟨p, 0, none⟩), .pointer (some ⟨p, 0, none⟩), .pointer (some ⟨p, 2, none⟩), .int .i64 P.u, .int .i64 k, .int .i64 ((P.u - k : Nat) : Int),
      .pointer (some ⟨p, 0, none⟩), .pointer (some ⟨p, 0, none⟩), .pointer (some ⟨p, 1, none⟩), .slice ao ms.length cap, .func (.func 31) #[] #[.pointer (some ⟨w1.heap.size + 2, 0, none⟩)], .int .i64 i, .agg (em (ms.getD i ⟨⟨#[]⟩, nl, [], false, 0⟩)).toArray,
      undef, undef, undef, undef, undef, undef, undef, undef, undef, undef, undef, undef, undef, undef, undef, undef, undef, undef, undef, undef, undef, undef, undef, undef, undef, undef, undef], defers := [] }) ?assign ?body ?start ?done ?stop
  case assign =>
    intro l i hi W K' hK
    have e1 : ms.getD i ⟨⟨#[]⟩, nl, [], false, 0⟩ = ms[i] := by simp [hi]
    rw [e1] at hK
    generalize ms[i] = m at hK ⊢
    obtain ⟨mx, ⟨ma, ml, mc⟩, mL, mt, mk⟩ := m
    simp only [em, sv] at hK ⊢
    gi_wp2
    exact hK
  case body =>
    intro l i hi q W hq hbq hIw
    have e1 : ms.getD i ⟨⟨#[]⟩, nl, [], false, 0⟩ = ms[i] := by simp [hi]
    rw [e1]
    have hm := HMS.out ms[i] (List.getElem_mem hi)
    have hnom : mv' = none → ms[i].t = false := fun e => H.out.nom (HS2.out e) _ (List.getElem_mem hi)
    obtain ⟨f1, o, n1, b1, b2, hmv, hn1, ho, hrd, hbk, hwb⟩ := hIw.ex
    rw [take_rev ms i hi] at hbk hwb
    clear e1
    generalize ms[i] = m at hm hnom hbk hwb hbq ⊢
    obtain ⟨mx, ⟨ma, ml, mc⟩, mL, mt, mk⟩ := m
    have d0 : W.cell? ⟨w1.heap.size, 0, none⟩ = some (.map mv') := b1.c 0 _ rfl
    have o0 : W.cell? ⟨w1.heap.size + 1, 0, none⟩ = some (.int .i64 o) := b2.c 0 _ rfl
    have of := b2.f 0
    have x0 : W.cell? ⟨q, 0, none⟩ = some (.string mx) := hbq.c 0 _ rfl
    have x1 : W.cell? ⟨q, 1, none⟩ = some (.slice ma ml mc) := hbq.c 1 _ rfl
    have x2 : W.cell? ⟨q, 2, none⟩ = some (.bool mt) := hbq.c 2 _ rfl
    have x3 : W.cell? ⟨q, 3, none⟩ = some (.int .i64 mk) := hbq.c 3 _ rfl
    have HI := hid hIw
    obtain ⟨hm1, hm2, hm3⟩ := hm
    have HBK := hid hbk
    have HWB := hid hwb
    have HR := hid hrd
    have HMV := hid hmv
    have B1 := hid b1
    have B2 := hid b2
    have BQ := hid hbq
    clear hIw hbk hwb hrd hmv b1 b2 hbq
    simp only [em, sv]
    by_cases h0 : o = 0
    · subst h0
      have e0 : ((0 : Nat) : Int) = 0 := rfl
      rw [e0] at o0
      gi_wp2
      have hI := HI.out
      refine ⟨rfl, KeepsFrom.refl _ _, hI.q, ⟨hI.hb.1, hI.hb.2.1, hI.hb.2.2.2.2.2.2⟩, hI.hm, f1, n1, B1.out, HMV.out, by omega, HR.out, ?_⟩
      have := HBK.out
      unfold back at this
      rw [if_pos rfl] at this
      exact this
    · have h0' : ¬ (o : Int) = 0 := by omega
      by_cases h1 : o < mk
      · have h1' : (o : Int) < (mk : Int) := by omega
        have hmk : mk ≤ (gd (pj f1) mx).length := HWB.out.1 (by show 1 < mk; omega)
        rw [← fl_pj] at hmk
        obtain ⟨⟨⟨fa, fn, fc⟩, FL⟩, hfx⟩ : ∃ y, f1 mx = some y := by
          cases hf : f1 mx with
          | none => unfold fl at hmk; rw [hf] at hmk; simp at hmk; omega
          | some y => exact ⟨y, rfl⟩
        have hfl : fl f1 mx = (⟨fa, fn, fc⟩, FL) := by unfold fl; rw [hfx]; rfl
        rw [hfl] at hmk
        have hmk : mk ≤ FL.length := hmk
        obtain ⟨hsb, hsl⟩ := HR.out mx _ _ hfx
        obtain ⟨ao2, cap2, e2, _, _⟩ := hsb.s.len
        have e2 : Value.slice fa fn fc = .slice ao2 FL.length cap2 := e2
        injection e2 with e3 e4 e5
        subst e3 e4 e5
        obtain ⟨sa, sc, hrun, hsb2⟩ := sb_to hsb (FL.length - o) (by omega)
        have hrun : Hid (∀ W, (Instr.sliceAt 30 (.slice fa FL.length fc) none (some (.int .i64 ((FL.length - o : Nat) : Int))) none).run Try.prog W = .ok (.slice sa (FL.length - o) sc) W) := hrun
        have r := hrun.out
        have HS := hid hsb2
        have HFL := hid hfl
        have es : (FL.length : Int) - (o : Int) = ((FL.length - o : Nat) : Int) := by omega
        have r2 : ∀ W, (Instr.sliceAt 30 (.slice fa FL.length fc) none (some (.int .i64 ((FL.length : Int) - (o : Int)))) none).run Try.prog W = .ok (.slice sa (FL.length - o) sc) W := by rw [es]; exact r
        clear hsb hsb2 hfl hrun
        cases hmv' : mv' with
        | none =>
          subst hmv'
          have := HMV.out mx
          unfold sj at this
          rw [hfx] at this
          cases this
        | some cb =>
          subst hmv'
          have hlk : (Instr.lookup 47 (.map (some cb)) (.string mx) false).run Try.prog W = .ok (.slice fa FL.length fc) W := by
            have := run_look false HMV.out mx hm3
            rw [this]
            show Result.ok (sv (at' (sj f1) mx)) W = _
            rw [show at' (sj f1) mx = (fl f1 mx).1 from at_fl f1 mx, HFL.out]
            rfl
          have d0' : W.drew.cell? ⟨w1.heap.size, 0, none⟩ = some (.map (some cb)) := d0
          have o0' : W.drew.cell? ⟨w1.heap.size + 1, 0, none⟩ = some (.int .i64 o) := o0
          have x0' : W.drew.cell? ⟨q, 0, none⟩ = some (.string mx) := x0
          have HMV' : Hid (Mp W.drew cb n1 (sj f1)) := hid HMV.out
          have ew : IntKind.i64.wrap ((FL.length : Int) - (o : Int)) = ((FL.length - o : Nat) : Int) := by rw [IntKind.wrap_i64]; omega
          have ew2 : IntKind.i64.wrap ((FL.length - o : Nat) : Int) = ((FL.length - o : Nat) : Int) := by rw [IntKind.wrap_i64]; omega
          gi_wp2
          refine wp_region_inv (by kernel_rfl) [38, 39, 40, 41, 42, 43, 44, 45, 46] (I8 (t8 cb q mx (.slice fa FL.length fc) (.slice sa (FL.length - o) sc) FL.length o (FL.length - o)) W.drew (fun W' => Mp W' cb (n1 + 1) (upd (sj f1) mx (some ⟨sa, FL.length - o, sc⟩)) ∧ W.drew.grownBy W' (some cb))) (by kernel_rfl) (steps_list ⟨?o0, ?o1, ?o2, ?o3, ?o4, ?o5, ?o6, ?o7, ?o8, ?o9, trivial⟩) I8.start ?done8
          case o0 =>
            intro L v W2 J hL hd
            obtain rfl := (J.wo 0 (by decide) hL).1
            refine op_val rfl rfl rfl (by decide) (fun c e => by cases e) (by rfl) (by simp only [frA, List.foldl_cons, List.foldl_nil, List.setIfInBounds_toArray, List.set_cons_zero, List.set_cons_succ]; (go_simp) <;> (first | exact ⟨⟨rfl, rfl⟩, rfl⟩ | exact ⟨rfl, rfl⟩ | with_reducible rfl)) ?_
            exact J.st 0 (by decide) hL rfl
          case o1 =>
            intro L v W2 J hL hd
            obtain rfl := (J.wo 1 (by decide) hL).1
            refine op_val rfl rfl rfl (by decide) (fun c e => by cases e) (by rfl) (by simp only [frA, List.foldl_cons, List.foldl_nil, List.setIfInBounds_toArray, List.set_cons_zero, List.set_cons_succ]; (go_simp) <;> (first | exact ⟨⟨rfl, rfl⟩, rfl⟩ | exact ⟨rfl, rfl⟩ | with_reducible rfl)) ?_
            exact J.st 1 (by decide) hL rfl
          case o2 =>
            intro L v W2 J hL hd
            obtain rfl := (J.wo 2 (by decide) hL).1
            have h1 : v 39 = .pointer (some ⟨q, 0, none⟩) := J.e 1 (by decide) (hd 1 (by decide))
            refine op_val rfl rfl rfl (by decide) (fun c e => by cases e) (by rfl) (by simp only [frA, List.foldl_cons, List.foldl_nil, List.setIfInBounds_toArray, List.set_cons_zero, List.set_cons_succ]; (go_simp) <;> (first | exact ⟨⟨rfl, rfl⟩, rfl⟩ | exact ⟨rfl, rfl⟩ | with_reducible rfl)) ?_
            exact J.st 2 (by decide) hL rfl
          case o3 =>
            intro L v W2 J hL hd
            obtain rfl := (J.wo 3 (by decide) hL).1
            refine op_val rfl rfl rfl (by decide) (fun c e => by cases e) (by rfl) (by simp only [frA, List.foldl_cons, List.foldl_nil, List.setIfInBounds_toArray, List.set_cons_zero, List.set_cons_succ]; (go_simp) <;> (first | exact ⟨⟨rfl, rfl⟩, rfl⟩ | exact ⟨rfl, rfl⟩ | with_reducible rfl)) ?_
            exact J.st 3 (by decide) hL rfl
          case o4 =>
            intro L v W2 J hL hd
            obtain rfl := (J.wo 4 (by decide) hL).1
            refine op_val rfl rfl rfl (by decide) (fun c e => by cases e) (by rfl) (by simp only [frA, List.foldl_cons, List.foldl_nil, List.setIfInBounds_toArray, List.set_cons_zero, List.set_cons_succ]; (go_simp) <;> (first | exact ⟨⟨rfl, rfl⟩, rfl⟩ | exact ⟨rfl, rfl⟩ | with_reducible rfl)) ?_
            exact J.st 4 (by decide) hL rfl
          case o5 =>
            intro L v W2 J hL hd
            obtain rfl := (J.wo 5 (by decide) hL).1
            have h4 : v 42 = .slice fa FL.length fc := J.e 4 (by decide) (hd 4 (by decide))
            refine op_val rfl rfl rfl (by decide) (fun c e => by cases e) (by rfl) (by simp only [frA, List.foldl_cons, List.foldl_nil, List.setIfInBounds_toArray, List.set_cons_zero, List.set_cons_succ]; (go_simp) <;> (first | exact ⟨⟨rfl, rfl⟩, rfl⟩ | exact ⟨rfl, rfl⟩ | with_reducible rfl)) ?_
            exact J.st 5 (by decide) hL rfl
          case o6 =>
            intro L v W2 J hL hd
            obtain rfl := (J.wo 6 (by decide) hL).1
            refine op_val rfl rfl rfl (by decide) (fun c e => by cases e) (by rfl) (by simp only [frA, List.foldl_cons, List.foldl_nil, List.setIfInBounds_toArray, List.set_cons_zero, List.set_cons_succ]; (go_simp) <;> (first | exact ⟨⟨rfl, rfl⟩, rfl⟩ | exact ⟨rfl, rfl⟩ | with_reducible rfl)) ?_
            exact J.st 6 (by decide) hL rfl
          case o7 =>
            intro L v W2 J hL hd
            obtain rfl := (J.wo 7 (by decide) hL).1
            have h5 : v 43 = .int .i64 (FL.length : Nat) := J.e 5 (by decide) (hd 5 (by decide))
            have h6 : v 44 = .int .i64 (o : Nat) := J.e 6 (by decide) (hd 6 (by decide))
            refine op_val rfl rfl rfl (by decide) (fun c e => by cases e) (by rfl) (by simp only [frA, List.foldl_cons, List.foldl_nil, List.setIfInBounds_toArray, List.set_cons_zero, List.set_cons_succ]; (go_simp) <;> (first | exact ⟨⟨rfl, rfl⟩, rfl⟩ | exact ⟨rfl, rfl⟩ | with_reducible rfl)) ?_
            exact J.st 7 (by decide) hL rfl
          case o8 =>
            intro L v W2 J hL hd
            obtain rfl := (J.wo 8 (by decide) hL).1
            have h3 : v 41 = .slice fa FL.length fc := J.e 3 (by decide) (hd 3 (by decide))
            have h7 : v 45 = .int .i64 ((FL.length - o : Nat) : Int) := J.e 7 (by decide) (hd 7 (by decide))
            refine op_val rfl rfl rfl (by decide) (fun c e => by cases e) (by rfl) (by simp only [frA, List.foldl_cons, List.foldl_nil, List.setIfInBounds_toArray, List.set_cons_zero, List.set_cons_succ]; (go_simp) <;> (first | exact ⟨⟨rfl, rfl⟩, rfl⟩ | exact ⟨rfl, rfl⟩ | with_reducible rfl)) ?_
            exact J.st 8 (by decide) hL rfl
          case o9 =>
            intro L v W2 J hL hd
            have hall : ∀ k, k < 9 → L k = true := fun k hk => hd k (by
              rcases (by omega : k = 0 ∨ k = 1 ∨ k = 2 ∨ k = 3 ∨ k = 4 ∨ k = 5 ∨ k = 6 ∨ k = 7 ∨ k = 8) with rfl | rfl | rfl | rfl | rfl | rfl | rfl | rfl | rfl <;> decide)
            obtain rfl := J.b hL
            have h0 : v 38 = .map (some cb) := J.e 0 (by decide) (hall 0 (by decide))
            have h2 : v 40 = .string mx := J.e 2 (by decide) (hall 2 (by decide))
            have h8 : v 46 = .slice sa (FL.length - o) sc := J.e 8 (by decide) (hall 8 (by decide))
            obtain ⟨w', hrun, r1, r2⟩ := run_put W.drew cb n1 (sj f1) HMV'.out (by unfold maxLen; omega) mx hm3 ⟨sa, FL.length - o, sc⟩
            have hrun : (Instr.mapUpdate 47 (.map (some cb)) (.string mx) (.slice sa (FL.length - o) sc)).run Try.prog W.drew = .ok () w' := hrun
            refine op_non (w' := w') rfl rfl rfl (fun c e => by cases e) (by rfl) (by simp only [frA, List.foldl_cons, List.foldl_nil, List.setIfInBounds_toArray, List.set_cons_zero, List.set_cons_succ]; (go_simp) <;> (first | exact ⟨⟨rfl, rfl⟩, rfl⟩ | exact ⟨rfl, rfl⟩ | with_reducible rfl)) ?_
            exact J.last hall ⟨r1, r2⟩
          case done8 =>
            intro L v W4 hall J
            obtain ⟨hm4, hg4⟩ := (J.a (hall 9 (by decide))).2
            have HM4 := hid hm4
            have G4 := hid hg4
            clear hm4 hg4 J
            simp only [frA, List.foldl_cons, List.foldl_nil, List.setIfInBounds_toArray, List.set_cons_zero, List.set_cons_succ]
            gi_wp2
            have hI := HI.out
            have hB := hI.hb
            have hcb := HS1.out cb rfl
            have hcb2 := hI.hm cb rfl
            refine ⟨rfl, ?_, ?_, ⟨hB.1, hB.2.1, ?_⟩, hI.hm, upd f1 mx (some (⟨sa, FL.length - o, sc⟩, FL.take (FL.length - o))), n1 + 1, ?_, ?_, by omega, ?_, ?_⟩
            · exact ((KeepsOthers.drew W).from _).trans (KeepsFrom.of_grownBy G4.out (fun j e => by cases e; exact hcb2.2))
            · exact Below.grown hI.q.drew G4.out hI.q.drew.size (fun j e => by cases e; exact hcb2.1)
            · exact Nat.le_trans hB.2.2.2.2.2.2 G4.out.size
            · exact B1.out.same (G4.out.block _ (by show w1.heap.size < W.heap.size; omega) (fun e => by have := Option.some.inj e; omega))
            · show Mp W4 cb (n1 + 1) (sj (upd f1 mx (some (⟨sa, FL.length - o, sc⟩, FL.take (FL.length - o)))))
              unfold sj
              rw [upd_map]
              exact HM4.out
            · exact HR.out.put HS.out (by rw [List.length_take]; omega)
            · have h9 := HBK.out
              unfold back at h9
              rw [if_neg h0] at h9
              have h9 := (if_pos (c := o < (Mk.p ⟨mx, ⟨ma, ml, mc⟩, mL, mt, mk⟩).k) h1).symm.trans h9
              rw [← h9]
              unfold pj
              rw [upd_map]
              show upd (pj f1) mx (some (FL.take (FL.length - o))) = upd (pj f1) mx (some ((gd (pj f1) mx).take ((gd (pj f1) mx).length - o)))
              rw [← fl_pj, HFL.out]
      · have h1' : ¬ (o : Int) < (mk : Int) := by omega
        have eo : (o : Int) - (mk : Int) = ((o - mk : Nat) : Int) := by omega
        have hI := HI.out
        have hs1' := HS1.out
        have hne1 : ∀ b, mv' = some b → b ≠ w1.heap.size + 1 := fun b e => by have := hs1' b e; omega
        have HG := hid (give_any ⟨mx, ⟨ma, ml, mc⟩, mL, mt, mk⟩ hm3 mv' n1 (sj f1) (W.setCell ⟨w1.heap.size + 1, 0, none⟩ (.int .i64 ((o - mk : Nat) : Int))) (HMV.out.same (fun b e => heap_set _ _ _ _ _ (hne1 b e))) (by omega) hnom)
        have hsz3 := HSZ.out
        have bq := BQ.out.oth (p := w1.heap.size + 1) (by omega) 0 (.int .i64 ((o - mk : Nat) : Int))
        have y0 : (W.setCell ⟨w1.heap.size + 1, 0, none⟩ (.int .i64 ((o - mk : Nat) : Int))).cell? ⟨q, 0, none⟩ = some (.string mx) := bq.c 0 _ rfl
        have y1 : (W.setCell ⟨w1.heap.size + 1, 0, none⟩ (.int .i64 ((o - mk : Nat) : Int))).cell? ⟨q, 1, none⟩ = some (.slice ma ml mc) := bq.c 1 _ rfl
        have y2 : (W.setCell ⟨w1.heap.size + 1, 0, none⟩ (.int .i64 ((o - mk : Nat) : Int))).cell? ⟨q, 2, none⟩ = some (.bool mt) := bq.c 2 _ rfl
        have y3 : (W.setCell ⟨w1.heap.size + 1, 0, none⟩ (.int .i64 ((o - mk : Nat) : Int))).cell? ⟨q, 3, none⟩ = some (.int .i64 mk) := bq.c 3 _ rfl
        have d1 : (W.setCell ⟨w1.heap.size + 1, 0, none⟩ (.int .i64 ((o - mk : Nat) : Int))).cell? ⟨w1.heap.size, 0, none⟩ = some (.map mv') := (B1.out.oth (p := w1.heap.size + 1) (by omega) 0 _).c 0 _ rfl
        clear hI hs1' hne1 bq hsz3
        simp only [em, sv] at HG
        gi_wp2
        refine ⟨trivial, ?_⟩
        refine (CallsIn.inRound l (callsIn_wide.2 HG.out)).mono ?_
        rintro e9 w4 ⟨⟨v9, rfl⟩, hm4, hq4⟩
        have HM4 := hid hm4
        have Q4 := hid hq4
        clear hm4 hq4 HG
        gi_wp2
        have hI := HI.out
        have hs1' := HS1.out
        have hq0 : Q w (W.setCell ⟨w1.heap.size + 1, 0, none⟩ (.int .i64 ((o - mk : Nat) : Int))) := hI.q.setCell (by omega) _
        have hqs : (W.setCell ⟨w1.heap.size + 1, 0, none⟩ (.int .i64 ((o - mk : Nat) : Int))).heap.size = W.heap.size := size_set _ _ _ _
        have hB := hI.hb
        have hkeep : ∀ i, (∀ b, mv' = some b → b ≠ i) → i < W.heap.size → w4.heap[i]? = (W.setCell ⟨w1.heap.size + 1, 0, none⟩ (.int .i64 ((o - mk : Nat) : Int))).heap[i]? := fun i h h' => Q4.out.block i (by rw [hqs]; exact h') (fun e => h i e rfl)
        have hcb : ∀ i, w1.heap.size ≤ i → ∀ b, mv' = some b → b ≠ i := fun i hi b e => by have := hs1' b e; omega
        refine ⟨?_, q_qp hq0 Q4.out (fun i e => (hI.hm i e).1), ⟨hB.1, hB.2.1, hB.2.2.1, hB.2.2.2.1, hB.2.2.2.2.1, hB.2.2.2.2.2.1, ?_⟩, hI.hm, ?_, givF ⟨mx, ⟨ma, ml, mc⟩, mL, mt, mk⟩ f1, o - mk, n1 + 1, ?_, ?_, ?_, by omega, by omega, ?_, ?_, ?_⟩
        · refine (KeepsFrom.of_grownBy (grownBy_setCell' W (w1.heap.size + 1) _) (fun j e => by cases e; omega)).trans (keeps_of_qp Q4.out (fun i e => (hI.hm i e).2))
        · have := Q4.out.size
          omega
        · exact (hI.bb.oth (by omega) _ _).same (hkeep _ (hcb _ (by omega)) (by omega))
        · exact (B1.out.oth (by omega) _ _).same (hkeep _ (hcb _ (by omega)) (by omega))
        · exact (B2.out.put 0 _).same (hkeep _ (hcb _ (by omega)) (by omega))
        · rw [giv_sj]
          exact HM4.out
        · exact HR.out.giv ⟨hm1, hm2⟩
        · rw [giv_pj, ← HBK.out]
          conv => rhs; unfold back
          rw [if_neg h0]
          exact (if_neg (c := o < (Mk.p ⟨mx, ⟨ma, ml, mc⟩, mL, mt, mk⟩).k) h1).symm
        · rw [giv_pj]
          exact HWB.out.2
  case start =>
    have hsz := HSZ.out
    refine ⟨Q1.out.trans HQ3.out, ⟨hs1, by omega, by omega, by omega, by omega, by omega, Nat.le_refl _⟩, fun b e => ?_, HB3.out, f, P.u - k, n, HB1.out, HB2.out, HM1.out.on HQ3.out, by omega, by omega, HRD.out, ?_, ?_⟩
    · have := HS1.out b e
      omega
    · rw [List.take_length, List.map_reverse, HMP.out, HPJ.out]
      rfl
    · rw [List.take_length, List.map_reverse, HMP.out, HPJ.out]
      exact hwf.b
  case done =>
    intro D W hD hI hK
    have d0 : W.cell? ⟨w1.heap.size, 0, none⟩ = some (.map mv') := by
      obtain ⟨_, _, _, b1, _⟩ := hI.ex
      exact b1.c 0 _ rfl
    have HI := hid hI
    have HK := hid hK
    clear hI hK
    gi_wp2
    refine ⟨by simp, .inl ⟨_, _, rfl, run_takeDeferred HK.out, ?_⟩⟩
    have hI := HI.out.on (below_put (.deferred none) hD (Array.getElem?_eq_some_iff.1 HK.out).1)
    obtain ⟨f1, o, n1, b1, b2, hmv, hn1, ho, hrd, hbk, hwb⟩ := hI.ex
    rw [List.take_zero] at hbk
    exact ⟨_, results_tmp rfl _ _ _, mv', f1, n1, rfl, hmv, by have := HME.out; omega, hrd, hbk, hI.q, fun b e => (hI.hm b e).1⟩
  case stop =>
    intro D W hD hI hK
    have d0 : W.cell? ⟨w1.heap.size, 0, none⟩ = some (.map mv') := by
      obtain ⟨_, _, b1, _⟩ := hI.ex
      exact b1.c 0 _ rfl
    have HI := hid hI
    have HK := hid hK
    clear hI hK
    gi_wp2
    refine ⟨by simp, .inl ⟨_, _, rfl, run_takeDeferred HK.out, ?_⟩⟩
    have hI := HI.out.on (below_put (.deferred none) hD (Array.getElem?_eq_some_iff.1 HK.out).1)
    obtain ⟨f1, n1, b1, hmv, hn1, hrd, hbk⟩ := hI.ex
    exact ⟨_, results_tmp rfl _ _ _, mv', f1, n1, rfl, hmv, by have := HME.out; omega, hrd, hbk, hI.q, fun b e => (hI.hm b e).1⟩
end Go.Proofs.Ytbknbffmpnomlaa
