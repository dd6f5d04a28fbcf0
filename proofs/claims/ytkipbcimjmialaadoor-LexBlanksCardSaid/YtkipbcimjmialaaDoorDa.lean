/- one formula, walked; Short. -/
import Derived.Test.YtkipbcimjmialaaDoorBi
namespace Go.Proofs.YtkipbcimjmialaaDoor
open Go.RowKit
set_option linter.unusedVariables false
set_option linter.unusedSimpArgs false


def lit0 : List UInt8 := [83, 85, 77, 40, 65, 49, 58, 36, 66, 50, 41, 32, 38, 32, 34, 97, 34, 34, 98, 34]
def words0 : List Wd := [⟨4, [83, 85, 77], 0⟩, ⟨6, [40], 3⟩, ⟨3, [65, 49], 4⟩, ⟨6, [58], 6⟩, ⟨3, [36, 66, 50], 7⟩, ⟨6, [41], 10⟩, ⟨6, [38], 12⟩, ⟨2, [97, 34, 98], 14⟩, ⟨7, [], 20⟩]
theorem lit_words : scanL lit0 = (some words0, 0) := by kernel_rfl
/-- a slice of words as the walks want it -/
structure Sw (W : World) (L : List Wd) (v : Value) (b off cap : Nat) : Prop where
  ev : v = .slice (some ⟨b, off, none⟩) L.length cap
  le : L.length ≤ cap
  mx : cap ≤ maxLen
  k : ∀ i (h : i < L.length), W.cell? ⟨b, off + i * 3, none⟩ = some (.int .i64 (L[i].k : Int))
  t : ∀ i (h : i < L.length), W.cell? ⟨b, off + i * 3 + 1, none⟩ = some (.string ⟨L[i].t.toArray⟩)
  p : ∀ i (h : i < L.length), W.cell? ⟨b, off + i * 3 + 2, none⟩ = some (.int .i64 (L[i].p : Int))
theorem sw_of {W : World} {v : Value} {L : List Wd} (h : Sl wd 3 W v L) (hl : 0 < L.length) : ∃ b off cap, Sw W L v b off cap := by
  obtain ⟨ao, cap, hv, h1, h2, h⟩ := h
  obtain ⟨b, off, rfl, hc⟩ := h hl
  exact ⟨b, off, cap, hv, h1, h2, fun i hi => hc i hi 0 _ rfl, fun i hi => hc i hi 1 _ rfl, fun i hi => hc i hi 2 _ rfl⟩
theorem ScanRet.some {L : List Wd} {n : Nat} {e : Ending} {W : World} (h : ScanRet (some L, n) e W) : ∃ v, e = .returned (.tuple #[v, .int .i64 0, .bool true]) ∧ Sl wd 3 W v L := h
theorem ScanRet.none {n : Nat} {e : Ending} {W : World} (h : ScanRet (none, n) e W) : e = .returned (.tuple #[.slice none 0 0, .int .i64 (n : Int), .bool false]) := h

set_option maxHeartbeats 4000000 in
theorem begun_any (w : World) (hw : Std w) : Calls Tryd.prog 5 #[] w fun e w' => e = .returned (.bool true) ∧ Q w w' := by
  have HS : Hid (Calls Tryd.prog 7 #[.string ⟨#[83, 85, 77, 40, 65, 49, 58, 36, 66, 50, 41, 32, 38, 32, 34, 97, 34, 34, 98, 34]⟩] w fun e w' => ScanRet (some words0, 0) e w' ∧ Q w w') := by
    have := scan_any ⟨lit0.toArray⟩ w hw (by decide)
    rw [show (⟨lit0.toArray⟩ : ByteArray).data.toList = lit0 from rfl, lit_words] at this
    exact this
  clear hw
  go_enter Tryd.func5, Tryd.ntmps5
  go_wp2_with (go_at_call 7; refine HS.out.mono ?_; rintro e w1 ⟨hr, q1⟩; obtain ⟨v, rfl, hv⟩ := hr.some; obtain ⟨b, off, cap, hsw⟩ := sw_of hv (by decide); clear hv hr; obtain ⟨rfl, le, mx, ck, ct, cp⟩ := hsw; have Q1 := hid q1; clear q1; have k0 : w1.cell? ⟨b, off, none⟩ = some (.int .i64 4) := ck 0 (by decide); have k2 : w1.cell? ⟨b, off + 6, none⟩ = some (.int .i64 3) := ck 2 (by decide); have k7 : w1.cell? ⟨b, off + 21, none⟩ = some (.int .i64 2) := ck 7 (by decide); have t7 : w1.cell? ⟨b, off + 22, none⟩ = some (.string ⟨#[97, 34, 98]⟩) := ct 7 (by decide); have k8 : w1.cell? ⟨b, off + 24, none⟩ = some (.int .i64 7) := ck 8 (by decide); clear ck ct cp; have hle : 9 ≤ cap := le; clear le; have hl9 : words0.length = 9 := rfl)
  go_ret
  exact ⟨rfl, Q1.out⟩

set_option maxHeartbeats 1000000 in
theorem short_any (s : ByteArray) (n : Int) (w : World) (n0 : 0 ≤ n) (n1 : n ≤ 2000) :
    Calls Tryd.prog 6 #[.string s, .int .i64 n] w fun e w' => e = .returned (.string (if n < (s.size : Int) then s.extract 0 n.toNat else s)) ∧ w' = w := by
  by_cases h : n < (s.size : Int)
  · have HE := hid (if_pos h : (if n < (s.size : Int) then s.extract 0 n.toNat else s) = _)
    go_enter Tryd.func6, Tryd.ntmps6
    go_wp2
    go_ret
    exact ⟨ret_str rfl, rfl⟩
  · have HE := hid (if_neg h : (if n < (s.size : Int) then s.extract 0 n.toNat else s) = _)
    go_enter Tryd.func6, Tryd.ntmps6
    go_wp2
    go_ret
    exact ⟨ret_str rfl, rfl⟩
theorem short_le (s : ByteArray) (n : Nat) : (if (n : Int) < (s.size : Int) then s.extract 0 n else s).size ≤ n := by
  split
  · simp; omega
  · omega

theorem Sw.on {W W' : World} {L : List Wd} {v : Value} {b off cap : Nat} (h : Sw W L v b off cap) (q : Q W W') : Sw W' L v b off cap :=
  ⟨h.ev, h.le, h.mx, fun i hi => (q.cell (World.block_lt_of_cell? W ⟨b, off + i * 3, none⟩ (h.k i hi))).trans (h.k i hi),
    fun i hi => (q.cell (World.block_lt_of_cell? W ⟨b, off + i * 3 + 1, none⟩ (h.t i hi))).trans (h.t i hi),
    fun i hi => (q.cell (World.block_lt_of_cell? W ⟨b, off + i * 3 + 2, none⟩ (h.p i hi))).trans (h.p i hi)⟩
theorem Sw.room {W : World} {L : List Wd} {v : Value} {b off cap : Nat} (h : Sw W L v b off cap) : L.length ≤ 9223372036854775807 := by
  have h1 := h.le
  have h2 := h.mx
  unfold maxLen at h2
  omega
theorem scanL_pos {l : List UInt8} {L : List Wd} {n : Nat} (h : scanL l = (some L, n)) : 0 < L.length := by
  unfold scanL at h
  split at h
  · cases h
  · split at h
    · cases h; simp
    · cases h

end Go.Proofs.YtkipbcimjmialaaDoor
