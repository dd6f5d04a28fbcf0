/- The reference's without. -/
import Derived.Test.YtbknbffmpnomlaaEc
namespace Go.Proofs.Ytbknbffmpnomlaa
open Go.RowKit
set_option linter.unusedVariables false
set_option linter.unusedSimpArgs false

def wof (F : List Fn) (x : ByteArray) : List Fn := F.filter fun d => decide (d.x ≠ x)
theorem wof_map (F : List Fn) (x : ByteArray) : (wof F x).map Fn.p = wo (F.map Fn.p) x := by
  unfold wof wo
  rw [List.filter_map]
  rfl
theorem wof_len (F : List Fn) (x : ByteArray) : (wof F x).length ≤ F.length := List.length_filter_le _ _
theorem wof_mem {F : List Fn} {x : ByteArray} {d : Fn} (h : d ∈ wof F x) : d ∈ F := (List.mem_filter.1 h).1
theorem wof_snoc (F : List Fn) (x : ByteArray) (k : Nat) (h : k < F.length) : wof (F.take (k + 1)) x = wof (F.take k) x ++ (if F[k].x = x then [] else [F[k]]) := by
  rw [take_snoc F k h]
  unfold wof
  rw [List.filter_append]
  congr 1
  by_cases e : F[k].x = x
  · rw [if_pos e, List.filter_cons_of_neg (by simpa using e)]
    rfl
  · rw [if_neg e, List.filter_cons_of_pos (by simpa using e)]
    rfl
set_option maxRecDepth 100000 in
set_option maxHeartbeats 2000000 in
theorem without_any (w : World) (v : Value) (F : List Fn) (x : ByteArray) (hs : Sl ef 2 w v F) (hF : F.length ≤ 1000) :
    Calls Try.prog 29 #[v, .string x] w fun e W' => ∃ v', e = .returned v' ∧ Own ef 58 2 w.heap.size W' v' (wof F x) ∧ Q w W' := by
  obtain ⟨ao, cap, rfl, h1, h2⟩ := hs.len
  have HS := hid hs
  clear hs
  go_enter Try.func29, Try.ntmps29
  go_wp2_with fail
  go_loopw [5, 6] (fun v i wr => ∃ k : Nat, k ≤ F.length ∧ i = .int .i64 k ∧ Hid (Own ef 58 2 w.heap.size wr v (wof (F.take k) x)) ∧ Hid (Q w wr)) (fun _ i _ => F.length - (intOf i).toNat)
  case atStart => exact ⟨0, Nat.zero_le _, rfl, hid (own_nil w), hid (Q.refl w)⟩
  case round =>
    obtain ⟨k, hk, rfl, HO, HQ⟩ := hrel
    by_cases hlt : k < F.length
    · have HS2 := HS.out.on HQ.out
      obtain ⟨g, off, cap', e, _, _, hat⟩ := HS2.at hlt
      injection e with e1 e2 e3
      subst e1 e3
      have hi : (k : Int) < (F.length : Int) := by omega
      have hsn := wof_snoc F x k hlt
      generalize F[k] = d at hat hsn
      obtain ⟨y, ⟨da, dn, dc⟩, dL⟩ := d
      have x0 : wr.cell? ⟨g, off + k * 2, none⟩ = some (.string y) := hat 0 _ rfl
      have x1 : wr.cell? ⟨g, off + k * 2 + 1, none⟩ = some (.slice da dn dc) := hat 1 _ rfl
      have HSN := hid hsn
      clear hat hsn HS2
      by_cases hd : y = x
      · subst hd
        go_wp2_with fail
        go_roundw
        case rel => exact ⟨k + 1, by omega, by go_num, hid (by rw [HSN.out, if_pos rfl, List.append_nil]; exact HO.out), HQ⟩
        case measure => simp [intOf]; omega
      · have hne := str_ne hd
        go_wp2_with (at_builtin; refine wpl_file _ rfl _ _ rfl w.heap.size _ (wof (F.take k) x) rfl (HO.out.alloc _) ⟨y, ⟨da, dn, dc⟩, dL⟩ _ rfl (bk_new _ _ _) (by have := wof_len (F.take k) x; rw [List.length_take] at this; omega) (by have := HQ.out.size; simp; omega) ?_)
        intro v' w1 hown hg hat
        have HO1 := hid hown
        have HQ1 : Hid (Q w w1) := hid (Below.grown (HQ.out.alloc _) hg (by have := HQ.out.size; simp; omega) (fun k hk => by have := HO.out.blk k hk; omega))
        clear hown hg hat
        go_wp2_with fail
        go_roundw
        case rel => exact ⟨k + 1, by omega, by go_num, hid (by rw [HSN.out, if_neg hd]; exact HO1.out), HQ1⟩
        case measure => simp [intOf]; omega
    · obtain rfl : k = F.length := by omega
      rw [List.take_length] at HO
      go_wp2_with fail
      go_ret
      exact ⟨_, rfl, HO.out, HQ.out⟩
end Go.Proofs.Ytbknbffmpnomlaa
