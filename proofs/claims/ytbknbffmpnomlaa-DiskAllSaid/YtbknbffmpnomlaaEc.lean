/- What the reference notes, in memory; its Units. -/
import Derived.Test.YtbknbffmpnomlaaDo
import Derived.Test.YtbknbffmpnomlaaEb
namespace Go.Proofs.Ytbknbffmpnomlaa
open Go.RowKit
set_option linter.unusedVariables false
set_option linter.unusedSimpArgs false

/-- what was done, noted -/
structure Rn where
  k : Int
  x : ByteArray
  y : ByteArray
  v : Sv
  L : List UInt8
def er (m : Rn) : List Value := [.int .i64 m.k, .string m.x, .string m.y, sv m.v]
theorem er_len (m : Rn) : (er m).length = 4 := rfl
def Rn.p (m : Rn) : Re := ⟨m.k, m.x, m.y, m.L⟩
/-- a file -/
structure Fn where
  x : ByteArray
  v : Sv
  L : List UInt8
def ef (m : Fn) : List Value := [.string m.x, sv m.v]
theorem ef_len (m : Fn) : (ef m).length = 2 := rfl
def Fn.p (m : Fn) : ByteArray × List UInt8 := (m.x, m.L)
theorem take_snoc {α : Type} (l : List α) (k : Nat) (h : k < l.length) : l.take (k + 1) = l.take k ++ [l[k]] := by
  rw [List.take_add_one, List.getElem?_eq_getElem h]
  rfl
theorem ru_snoc (R : List Re) (d : Re) : ru (R ++ [d]) = ru R + ru1 d := by
  rw [ru_app]
  rfl
theorem ru1_le (R : List Rn) (h : ∀ d ∈ R, d.L.length ≤ 1000) : ru (R.map Rn.p) ≤ 1000 * R.length := by
  induction R with
  | nil => exact Nat.le_refl _
  | cons d R ih =>
    have h1 := h d (List.mem_cons_self ..)
    have h2 := ih (fun e he => h e (List.mem_cons_of_mem _ he))
    show ru1 d.p + ru (R.map Rn.p) ≤ _
    have h3 : ru1 d.p ≤ 1000 := by
      unfold ru1 Rn.p
      split
      · exact h1
      · omega
    rw [List.length_cons]
    omega
set_option maxRecDepth 100000 in
set_option maxHeartbeats 2000000 in
theorem runits_any (w : World) (q : Nat) (s : Int) (v : Value) (R : List Rn) (hb : Bk w 29 q #[v, .int .i64 s]) (hs : Sl er 4 w v R) (hR : R.length ≤ 1000) (hv : ∀ d ∈ R, d.v.n = d.L.length ∧ d.L.length ≤ 1000) :
    Calls Try.prog 14 #[.pointer (some ⟨q, 0, none⟩)] w fun e W' => e = .returned (.int .i64 (ru (R.map Rn.p))) ∧ W' = w := by
  obtain ⟨ao, cap, rfl, h1, h2⟩ := hs.len
  have c0 : w.cell? ⟨q, 0, none⟩ = some (.slice ao R.length cap) := hb.c 0 _ rfl
  have HS := hid hs
  have HV := hid hv
  clear hs hb hv
  go_enter Try.func14, Try.ntmps14
  go_wp2_with fail
  go_loopw [3, 4] (fun n i wr => ∃ k : Nat, k ≤ R.length ∧ i = .int .i64 k ∧ n = .int .i64 (ru ((R.take k).map Rn.p)) ∧ wr = w) (fun _ i _ => R.length - (intOf i).toNat)
  case atStart => exact ⟨0, Nat.zero_le _, rfl, rfl, rfl⟩
  case round =>
    obtain ⟨k, hk, rfl, rfl, rfl⟩ := hrel
    by_cases hlt : k < R.length
    · obtain ⟨g, off, cap', e, _, _, hat⟩ := HS.out.at hlt
      injection e with e1 e2 e3
      subst e1 e3
      have hV := HV.out R[k] (List.getElem_mem hlt)
      have hsn : ru ((R.take (k + 1)).map Rn.p) = ru ((R.take k).map Rn.p) + ru1 (R[k]).p := by rw [take_snoc R k hlt, List.map_append]; exact ru_snoc _ _
      have hle : ru ((R.take k).map Rn.p) ≤ 1000 * 1000 := Nat.le_trans (ru1_le (R.take k) (fun d hd => (HV.out d (List.mem_of_mem_take hd)).2)) (Nat.mul_le_mul_left _ (by rw [List.length_take]; omega))
      generalize R[k] = d at hat hV hsn
      obtain ⟨dk, dx, dy, ⟨da, dn, dc⟩, dL⟩ := d
      obtain ⟨rfl, hL⟩ : dn = dL.length ∧ dL.length ≤ 1000 := hV
      have x0 : wr.cell? ⟨g, off + k * 4, none⟩ = some (.int .i64 dk) := hat 0 _ rfl
      have x3 : wr.cell? ⟨g, off + k * 4 + 3, none⟩ = some (.slice da dL.length dc) := hat 3 _ rfl
      have hsn := hid hsn
      generalize hm : ru ((R.take k).map Rn.p) = m at hsn hle
      have hi : (k : Int) < (R.length : Int) := by omega
      by_cases hd : dk = 0
      · subst hd
        clear hat hm
        go_wp2_with fail
        go_roundw
        case rel => exact ⟨k + 1, by omega, by go_num, by rw [hsn.out]; simp [ru1, Rn.p], trivial⟩
        case measure => simp [intOf]; omega
      · clear hat hm
        go_wp2_with fail
        go_roundw
        case rel => exact ⟨k + 1, by omega, by go_num, by rw [hsn.out]; simp [ru1, Rn.p, hd], trivial⟩
        case measure => simp [intOf]; omega
    · obtain rfl : k = R.length := by omega
      rw [List.take_length]
      go_wp2_with fail
      go_ret
      exact ⟨rfl, rfl⟩
theorem look_no {l : Fl} {x : ByteArray} (h : ∀ e ∈ l, e.1 ≠ x) : look l x = none := by
  induction l with
  | nil => rfl
  | cons e l ih =>
    show (if e.1 = x then _ else _) = _
    rw [if_neg (h e (List.mem_cons_self ..)), ih (fun e' he => h e' (List.mem_cons_of_mem _ he))]
theorem look_at {l : Fl} {x : ByteArray} (i : Nat) (h : i < l.length) (hx : l[i].1 = x) (hno : ∀ j (hj : j < i), l[j].1 ≠ x) : look l x = some l[i].2 := by
  induction l generalizing i with
  | nil => simp at h
  | cons e l ih =>
    show (if e.1 = x then _ else _) = _
    cases i with
    | zero => rw [if_pos (by simpa using hx)]; rfl
    | succ i =>
      rw [if_neg (by have := hno 0 (by omega); simpa using this)]
      exact ih i (by simpa using h) (by simpa using hx) (fun j hj => by have := hno (j + 1) (by omega); simpa using this)
theorem str_ne {y x : ByteArray} (h : y ≠ x) : (y.toList == x.toList) = false := by
  rw [ByteArray.toList_eq, ByteArray.toList_eq]
  refine beq_false_of_ne (fun e => h ?_)
  cases y; cases x
  congr 1
  exact Array.ext' e
theorem str_eq {y x : ByteArray} (h : y = x) : (y.toList == x.toList) = true := by
  subst h
  exact beq_self_eq_true _
set_option maxRecDepth 100000 in
set_option maxHeartbeats 2000000 in
theorem place_any (w : World) (v : Value) (F : List Fn) (x : ByteArray) (hs : Sl ef 2 w v F) (hF : F.length ≤ 1000) :
    Calls Try.prog 28 #[v, .string x] w fun e W' => ((e = .returned (.int .i64 (-1)) ∧ look (F.map Fn.p) x = none) ∨ ∃ i : Nat, e = .returned (.int .i64 i) ∧ ∃ h : i < F.length, look (F.map Fn.p) x = some F[i].L) ∧ W' = w := by
  obtain ⟨ao, cap, rfl, h1, h2⟩ := hs.len
  have HS := hid hs
  clear hs
  go_enter Try.func28, Try.ntmps28
  go_wp2_with fail
  go_loopw [5] (fun i wr => ∃ k : Nat, k ≤ F.length ∧ i = .int .i64 k ∧ (Hid (∀ j (h : j < F.length), j < k → F[j].x ≠ x)) ∧ wr = w) (fun i _ => F.length - (intOf i).toNat)
  case atStart => exact ⟨0, Nat.zero_le _, rfl, hid (fun j h hj => by omega), rfl⟩
  case round =>
    obtain ⟨k, hk, rfl, hno, rfl⟩ := hrel
    by_cases hlt : k < F.length
    · obtain ⟨g, off, cap', e, _, _, hat⟩ := HS.out.at hlt
      injection e with e1 e2 e3
      subst e1 e3
      have hi : (k : Int) < (F.length : Int) := by omega
      obtain ⟨y, hy⟩ : ∃ y, y = F[k].x := ⟨_, rfl⟩
      have x0 : wr.cell? ⟨g, off + k * 2, none⟩ = some (.string y) := by rw [hy]; exact hat 0 _ rfl
      have HY := hid hy
      clear hat hy
      by_cases hd : y = x
      · subst hd
        go_wp2_with fail
        go_ret
        have h5 := look_at (l := F.map Fn.p) (x := y) k (by rw [List.length_map]; exact hlt) (by
          rw [List.getElem_map]
          exact HY.out.symm) (fun j hj => by
          rw [List.getElem_map]
          exact hno.out j (by omega) hj)
        rw [List.getElem_map] at h5
        exact ⟨.inr ⟨k, rfl, hlt, h5⟩, rfl⟩
      · have hne := str_ne hd
        go_wp2_with fail
        go_roundw
        case rel =>
          refine ⟨k + 1, by omega, by go_num, hid (fun j h hj => ?_), trivial⟩
          by_cases e : j = k
          · subst e
            rw [← HY.out]
            exact hd
          · exact hno.out j h (by omega)
        case measure => simp [intOf]; omega
    · obtain rfl : k = F.length := by omega
      go_wp2_with fail
      go_ret
      exact ⟨.inl ⟨rfl, look_no (fun e he => by
        obtain ⟨d, hd, rfl⟩ := List.mem_map.1 he
        obtain ⟨j, hj, rfl⟩ := List.getElem_of_mem hd
        exact hno.out j hj hj)⟩, rfl⟩
theorem info58 : (Try.prog.info? 58).map (fun i => (i.zero, i.size, i.bytes)) = some (some (.agg #[.string ⟨#[]⟩, .slice none 0 0]), 2, 40) := by kernel_rfl
theorem info36 : (Try.prog.info? 36).map (fun i => (i.zero, i.size, i.bytes)) = some (some (.agg #[.int .i64 0, .string ⟨#[]⟩, .string ⟨#[]⟩, .slice none 0 0]), 4, 64) := by kernel_rfl
section
variable (w : World) {ops : Array Oper} {rest : List Oper} {o : Oper} {a : Act} {K : Exit → Act → World → Prop}
theorem wpl_file (hgd : o.guard = none) (s x : Operand) (ho : o.op = .call { callee := .builtin .append, args := #[s, x], argTypes := #[55, 55] }) (B : Nat) (v : Value) (ms : List Fn) (hs : a.eval s = v) (hown : Own ef 58 2 B w v ms)
    (m : Fn) (q : Nat) (hx : a.eval x = .slice (some ⟨q, 0, none⟩) 1 1) (hq : Bk w 58 q (ef m).toArray) (hb : ms.length ≤ 100000) (hB : B ≤ w.heap.size)
    (h : ∀ v' w', Own ef 58 2 B w' v' (ms ++ [m]) → w.grownBy w' v.ownBlock → (v'.ownBlock = v.ownBlock ∨ v'.ownBlock = some w.heap.size) → wpList Try.prog ops K rest (a.put o.dst v') w') : wpList Try.prog ops K (o :: rest) a w := by
  obtain ⟨i0, hi, hz0, hz1, hz2⟩ := inf_of info58
  refine wpList_append_own_at w hgd s x 55 ho B 58 i0 _ 2 40 Try.underlying55 hi hz0 hz1 hz2 rfl (by decide) v ms.length (flat ef ms) hs hown ⟨q, 0, none⟩ 1 1 (ef m) hx (by rw [ef_len]) (fun j u hj => ?_) (fun u hu => ?_) (by unfold maxLen; omega) (by omega) hB (fun v' w' ho' hg _ hat => h v' w' (own_snoc ho') hg hat)
  · rw [add_lit, Nat.zero_add]
    exact hq.c j u (by rw [List.getElem?_toArray]; exact hj)
  · obtain ⟨mx, ⟨ma, mn, mc⟩, mL⟩ := m
    simp only [ef, List.mem_cons, List.not_mem_nil, or_false] at hu
    rcases hu with rfl | rfl <;> rfl
theorem wpl_done (hgd : o.guard = none) (s x : Operand) (ho : o.op = .call { callee := .builtin .append, args := #[s, x], argTypes := #[27, 27] }) (B : Nat) (v : Value) (ms : List Rn) (hs : a.eval s = v) (hown : Own er 36 4 B w v ms)
    (m : Rn) (q : Nat) (hx : a.eval x = .slice (some ⟨q, 0, none⟩) 1 1) (hq : Bk w 36 q (er m).toArray) (hb : ms.length ≤ 100000) (hB : B ≤ w.heap.size)
    (h : ∀ v' w', Own er 36 4 B w' v' (ms ++ [m]) → w.grownBy w' v.ownBlock → (v'.ownBlock = v.ownBlock ∨ v'.ownBlock = some w.heap.size) → wpList Try.prog ops K rest (a.put o.dst v') w') : wpList Try.prog ops K (o :: rest) a w := by
  obtain ⟨i0, hi, hz0, hz1, hz2⟩ := inf_of info36
  refine wpList_append_own_at w hgd s x 27 ho B 36 i0 _ 4 64 Try.underlying27 hi hz0 hz1 hz2 rfl (by decide) v ms.length (flat er ms) hs hown ⟨q, 0, none⟩ 1 1 (er m) hx (by rw [er_len]) (fun j u hj => ?_) (fun u hu => ?_) (by unfold maxLen; omega) (by omega) hB (fun v' w' ho' hg _ hat => h v' w' (own_snoc ho') hg hat)
  · rw [add_lit, Nat.zero_add]
    exact hq.c j u (by rw [List.getElem?_toArray]; exact hj)
  · obtain ⟨mk, mx, my, ⟨ma, mn, mc⟩, mL⟩ := m
    simp only [er, List.mem_cons, List.not_mem_nil, or_false] at hu
    rcases hu with rfl | rfl | rfl | rfl <;> rfl
end
end Go.Proofs.Ytbknbffmpnomlaa
