/- Package value: values as numbers, texts, truths. -/
import Derived.Test.YtfjpdopmojfchaaGreatDoorV3
import Derived.Test.YtfjpdopmojfchaaGreatDoorS
namespace Go.Proofs.YtfjpdopmojfchaaGreatDoor
open Go.RowKit
set_option linter.unusedVariables false
set_option linter.unusedSimpArgs false
theorem ba_nil {t : ByteArray} (h : t.toList = []) : t = ⟨#[]⟩ := by
  rw [Lib.toList_data] at h
  apply ByteArray.ext
  apply Array.ext'
  exact h
/-- what a value that may be is: blank, a number, a text, a truth, an error -/
def Vk (k n : Int) (t : ByteArray) (b : Bool) (e : Int) : Prop :=
  (k = 0 ∧ n = 0 ∧ t = ⟨#[]⟩ ∧ b = false ∧ e = 0) ∨ (k = 1 ∧ t = ⟨#[]⟩ ∧ b = false ∧ e = 0) ∨ (k = 2 ∧ n = 0 ∧ b = false ∧ e = 0 ∧ mtB t.toList = true) ∨
  (k = 3 ∧ n = 0 ∧ t = ⟨#[]⟩ ∧ e = 0) ∨ (k = 4 ∧ n = 0 ∧ t = ⟨#[]⟩ ∧ b = false ∧ 1 ≤ e ∧ e ≤ 7)
theorem Vk.blank : Vk 0 0 ⟨#[]⟩ false 0 := .inl ⟨rfl, rfl, rfl, rfl, rfl⟩
theorem Vk.num (n : Int) : Vk 1 n ⟨#[]⟩ false 0 := .inr (.inl ⟨rfl, rfl, rfl, rfl⟩)
theorem Vk.text (t : ByteArray) (h : mtB t.toList = true) : Vk 2 0 t false 0 := .inr (.inr (.inl ⟨rfl, rfl, rfl, rfl, h⟩))
theorem Vk.bool (b : Bool) : Vk 3 0 ⟨#[]⟩ b 0 := .inr (.inr (.inr (.inl ⟨rfl, rfl, rfl, rfl⟩)))
theorem Vk.err (e : Int) (h1 : 1 ≤ e) (h7 : e ≤ 7) : Vk 4 0 ⟨#[]⟩ false e := .inr (.inr (.inr (.inr ⟨rfl, rfl, rfl, rfl, h1, h7⟩)))
theorem vk_of {k n : Int} {t : ByteArray} {b : Bool} {e : Int} (h : mayB k n t.toList b e = true) : Vk k n t b e := by
  unfold mayB at h
  by_cases h0 : k = 0
  · subst h0
    simp at h
    obtain ⟨rfl, h1, rfl, rfl⟩ := h
    rw [ba_nil h1]
    exact Vk.blank
  rw [if_neg h0] at h
  by_cases h1 : k = 1
  · subst h1
    simp at h
    obtain ⟨h1, rfl, rfl⟩ := h
    rw [ba_nil h1]
    exact Vk.num n
  rw [if_neg h1] at h
  by_cases h2 : k = 2
  · subst h2
    simp at h
    obtain ⟨rfl, rfl, rfl, h1⟩ := h
    exact Vk.text t h1
  rw [if_neg h2] at h
  by_cases h3 : k = 3
  · subst h3
    simp at h
    obtain ⟨rfl, h1, rfl⟩ := h
    rw [ba_nil h1]
    exact Vk.bool b
  rw [if_neg h3] at h
  by_cases h4 : k = 4
  · subst h4
    simp at h
    obtain ⟨rfl, h1, rfl, h5, h6⟩ := h
    rw [ba_nil h1]
    exact Vk.err e h5 h6
  rw [if_neg h4] at h
  cases h
theorem nil_list : (⟨#[]⟩ : ByteArray).toList = [] := by rw [Lib.toList_data]
theorem Vk.may {k n : Int} {t : ByteArray} {b : Bool} {e : Int} (h : Vk k n t b e) : mayB k n t.toList b e = true := by
  rcases h with ⟨rfl, rfl, rfl, rfl, rfl⟩ | ⟨rfl, rfl, rfl, rfl⟩ | ⟨rfl, rfl, rfl, rfl, h⟩ | ⟨rfl, rfl, rfl, rfl⟩ | ⟨rfl, rfl, rfl, rfl, h1, h7⟩
  · simp [mayB, nil_list]
  · simp [mayB, nil_list]
  · simp [mayB, h]
  · simp [mayB, nil_list]
  · simp [mayB, nil_list, h1, h7]
theorem vk0 {n : Int} {t : ByteArray} {b : Bool} {e : Int} (h : Vk 0 n t b e) : n = 0 ∧ t = ⟨#[]⟩ ∧ b = false ∧ e = 0 := by
  rcases h with ⟨_, h⟩ | ⟨h, _⟩ | ⟨h, _⟩ | ⟨h, _⟩ | ⟨h, _⟩
  · exact h
  all_goals omega
theorem vk1 {n : Int} {t : ByteArray} {b : Bool} {e : Int} (h : Vk 1 n t b e) : t = ⟨#[]⟩ ∧ b = false ∧ e = 0 := by
  rcases h with ⟨h, _⟩ | ⟨_, h⟩ | ⟨h, _⟩ | ⟨h, _⟩ | ⟨h, _⟩
  · omega
  · exact h
  all_goals omega
theorem vk2 {n : Int} {t : ByteArray} {b : Bool} {e : Int} (h : Vk 2 n t b e) : n = 0 ∧ b = false ∧ e = 0 ∧ mtB t.toList = true := by
  rcases h with ⟨h, _⟩ | ⟨h, _⟩ | ⟨_, h⟩ | ⟨h, _⟩ | ⟨h, _⟩
  · omega
  · omega
  · exact h
  all_goals omega
theorem vk3 {n : Int} {t : ByteArray} {b : Bool} {e : Int} (h : Vk 3 n t b e) : n = 0 ∧ t = ⟨#[]⟩ ∧ e = 0 := by
  rcases h with ⟨h, _⟩ | ⟨h, _⟩ | ⟨h, _⟩ | ⟨_, h⟩ | ⟨h, _⟩
  · omega
  · omega
  · omega
  · exact h
  · omega
theorem vk4 {n : Int} {t : ByteArray} {b : Bool} {e : Int} (h : Vk 4 n t b e) : n = 0 ∧ t = ⟨#[]⟩ ∧ b = false := by
  rcases h with ⟨h, _⟩ | ⟨h, _⟩ | ⟨h, _⟩ | ⟨h, _⟩ | ⟨_, h1, h2, h3, _⟩
  · omega
  · omega
  · omega
  · omega
  · exact ⟨h1, h2, h3⟩
theorem box0 {w w1 : World} {v0 v1 v2 v3 v4 : Value} (q : Q (w.alloc (.cells #[v0, v1, v2, v3, v4] 37)) w1) :
    w1.cell? ⟨w.heap.size, 0, none⟩ = some v0 ∧ w1.cell? ⟨w.heap.size, 1, none⟩ = some v1 ∧ w1.cell? ⟨w.heap.size, 2, none⟩ = some v2 ∧ w1.cell? ⟨w.heap.size, 3, none⟩ = some v3 ∧ w1.cell? ⟨w.heap.size, 4, none⟩ = some v4 := by
  have h1 : w.heap.size < (w.alloc (.cells #[v0, v1, v2, v3, v4] 37)).heap.size := by rw [World.size_alloc]; omega
  refine ⟨?_, ?_, ?_, ?_, ?_⟩
  all_goals rw [q.cell h1, World.cell?_alloc_new]; rfl
theorem q1a {w w1 : World} {o : Obj} (q : Q (w.alloc o) w1) : Q w w1 := ((Q.refl _).alloc _).trans q
/-- the error that stands for a value -/
def fltE (k n : Int) (t : List UInt8) (b : Bool) (e : Int) : Int := if mayB k n t b e then e else 5
set_option maxHeartbeats 1000000 in
theorem fault_any (k n : Int) (t : ByteArray) (b : Bool) (e : Int) (w : World) (hw : Std2 w) (hs : (t.size : Int) ≤ 9223372036854775000) :
    Calls Tryz.prog 87 #[vv k n t b e] w fun x w' => x = .returned (.int .i64 (fltE k n t.toList b e)) ∧ Q w w' := by
  have HC := hid (may_any k n t b e (w.alloc (.cells #[.int .i64 k, .int .i64 n, .string t, .bool b, .int .i64 e] 37)) (hw.on ((Q.refl _).alloc _)) hs)
  clear hw
  cases hm : mayB k n t.toList b e
  · rw [hm] at HC
    have H : Hid (5 = fltE k n t.toList b e) := by show _ = _; unfold fltE; rw [hm]; rfl
    unfold vv at *
    go_enter Tryz.func87, Tryz.ntmps87
    go_wp2_with (go_at_call 80; refine HC.out.mono ?_; rintro x w1 ⟨rfl, q1⟩)
    go_ret
    exact ⟨ret_int H.out, q1a q1⟩
  · rw [hm] at HC
    have H : Hid (e = fltE k n t.toList b e) := by show _ = _; unfold fltE; rw [hm]; rfl
    unfold vv at *
    go_enter Tryz.func87, Tryz.ntmps87
    go_wp2_with (go_at_call 80; refine HC.out.mono ?_; rintro x w1 ⟨rfl, q1⟩; obtain ⟨g0, g1, g2, g3, g4⟩ := box0 q1)
    go_ret
    exact ⟨ret_int H.out, q1a q1⟩
theorem vret_ii {a b c d : Int} (h : a = b) (g : c = d) : Ending.returned (.tuple #[.int .i64 a, .int .i64 c]) = .returned (.tuple #[.int .i64 b, .int .i64 d]) := by rw [h, g]
theorem vret_si {a b : List UInt8} {c d : Int} (h : a = b) (g : c = d) : Ending.returned (.tuple #[.string ⟨a.toArray⟩, .int .i64 c]) = .returned (.tuple #[.string ⟨b.toArray⟩, .int .i64 d]) := by rw [h, g]
set_option maxHeartbeats 1000000 in
theorem readNumber_any (s : ByteArray) (w : World) (hw : Std w) (hs : s.size < 4294967281) :
    Calls Tryz.prog 116 #[.string s] w fun x w' => x = .returned (.tuple #[.int .i64 (pk (parseO s.data.toList)), .int .i64 (if pf (parseO s.data.toList) then 0 else 5)]) ∧ Q w w' := by
  have HC := hid (parse_any s w hw hs)
  generalize parseO s.data.toList = o at *
  have hk : pf o = false → 0 = pk o := by
    cases o with
    | none => intro; rfl
    | some n => intro h; exact (keep_no h).symm
  cases hf : pf o
  · have hk' := hid (hk hf)
    rw [hf] at HC
    clear hk hs
    go_enter Tryz.func116, Tryz.ntmps116
    go_wp2_with (go_at_call 140; refine HC.out.mono ?_; rintro x w1 ⟨rfl, q1⟩)
    go_ret2
    exact ⟨vret_ii hk'.out rfl, q1⟩
  · rw [hf] at HC
    clear hk hs
    go_enter Tryz.func116, Tryz.ntmps116
    go_wp2_with (go_at_call 140; refine HC.out.mono ?_; rintro x w1 ⟨rfl, q1⟩)
    go_ret2
    exact ⟨rfl, q1⟩
end Go.Proofs.YtfjpdopmojfchaaGreatDoor
