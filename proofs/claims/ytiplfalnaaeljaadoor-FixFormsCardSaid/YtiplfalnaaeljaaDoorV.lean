/- The closed law FixForms: written forms of numbers, and what is none: walked. -/
import Derived.Test.YtiplfalnaaeljaaDoorB
import Derived.Deep.RegionHeld3
namespace Go.Proofs.YtiplfalnaaeljaaDoor
open Go.RowKit

def goodL : List (List UInt8) := [[48], [45, 48], [49, 46, 53], [45, 49, 46, 48, 53], [48, 46, 48, 48, 48, 49], [57, 50, 50, 51, 51, 55, 50, 48, 51, 54, 56, 53, 52, 55, 55, 46, 53, 56, 48, 55], [45, 57, 50, 50, 51, 51, 55, 50, 48, 51, 54, 56, 53, 52, 55, 55, 46, 53, 56, 48, 56], [49, 48, 46, 50, 53, 48, 48]]
def wantL : List (List UInt8) := [[48], [48], [49, 46, 53], [45, 49, 46, 48, 53], [48, 46, 48, 48, 48, 49], [57, 50, 50, 51, 51, 55, 50, 48, 51, 54, 56, 53, 52, 55, 55, 46, 53, 56, 48, 55], [45, 57, 50, 50, 51, 51, 55, 50, 48, 51, 54, 56, 53, 52, 55, 55, 46, 53, 56, 48, 56], [49, 48, 46, 50, 53]]
def badL : List (List UInt8) := [[], [45], [48, 49], [46, 53], [53, 46], [49, 46, 50, 51, 52, 53, 54], [43, 49], [49, 101, 51], [32, 49], [49, 32], [45, 45, 49], [57, 50, 50, 51, 51, 55, 50, 48, 51, 54, 56, 53, 52, 55, 55, 46, 53, 56, 48, 56], [45, 57, 50, 50, 51, 51, 55, 50, 48, 51, 54, 56, 53, 52, 55, 55, 46, 53, 56, 48, 57], [57, 57, 57, 57, 57, 57, 57, 57, 57, 57, 57, 57, 57, 57, 57, 57, 57, 57, 57, 57, 57, 57, 57]]
def numL : List Int := [0, 0, 15000, -10500, 1, 9223372036854775807, -9223372036854775808, 102500]
def str (l : List (List UInt8)) (k : Nat) : ByteArray := ⟨(l.getD k []).toArray⟩

theorem good_parse : ∀ k : Fin 8, parseO (goodL.getD k.val []) = some (numL.getD k.val 0) := by decide +kernel
theorem good_fit : ∀ k : Fin 8, fitB (numL.getD k.val 0) = true := by decide +kernel
theorem bad_parse : ∀ k : Fin 14, pf (parseO (badL.getD k.val [])) = false := by decide +kernel
theorem bad_zero : ∀ k : Fin 14, pk (parseO (badL.getD k.val [])) = 0 := by decide +kernel
theorem good_len : ∀ k : Fin 8, (goodL.getD k.val []).length ≤ 30 := by decide +kernel
theorem bad_len : ∀ k : Fin 14, (badL.getD k.val []).length ≤ 30 := by decide +kernel
theorem good_print : ∀ k : Fin 8, printL (numL.getD k.val 0) = wantL.getD k.val [] := by decide +kernel

theorem str_len {l : List (List UInt8)} {k : Nat} (h : (l.getD k []).length ≤ 30) : (str l k).size < 4294967281 := by
  unfold str
  rw [size_mk]
  omega

theorem good_any (k : Nat) (hk : k < 8) (w : World) (hw : Std w) :
    Calls Tryd.prog 20 #[.string (str goodL k)] w fun e w' => e = .returned (.tuple #[.int .i64 (numL.getD k 0), .bool true]) ∧ Q w w' := by
  refine (parse_any (str goodL k) w hw (str_len (good_len ⟨k, hk⟩))).mono ?_
  rintro e w' ⟨rfl, hq⟩
  have e1 : parseO (str goodL k).data.toList = some (numL.getD k 0) := good_parse ⟨k, hk⟩
  rw [e1]
  exact ⟨ret_two (keep_yes (good_fit ⟨k, hk⟩)) (good_fit ⟨k, hk⟩), hq⟩

theorem want_any (k : Nat) (hk : k < 8) (w : World) (hw : Std w) :
    Calls Tryd.prog 22 #[.int .i64 (numL.getD k 0)] w fun e w' => e = .returned (.string (str wantL k)) ∧ Q w w' := by
  have hf := fit_of (good_fit ⟨k, hk⟩)
  refine (print_any (numL.getD k 0) w hw hf (natAbs_lt hf)).mono ?_
  rintro e w' ⟨rfl, hq⟩
  refine ⟨ret_str ?_, hq⟩
  have := good_print ⟨k, hk⟩
  unfold str
  rw [← this]

theorem bad_any (k : Nat) (hk : k < 14) (w : World) (hw : Std w) :
    Calls Tryd.prog 20 #[.string (str badL k)] w fun e w' => e = .returned (.tuple #[.int .i64 0, .bool false]) ∧ Q w w' := by
  refine (parse_any (str badL k) w hw (str_len (bad_len ⟨k, hk⟩))).mono ?_
  rintro e w' ⟨rfl, hq⟩
  exact ⟨ret_two (bad_zero ⟨k, hk⟩) (bad_parse ⟨k, hk⟩), hq⟩

/-- what the two slices of texts hold -/
structure Two (b : Nat) (W : World) : Prop where
  good : ∀ j, j < 8 → W.cell? ⟨b, j, none⟩ = some (.string (str goodL j))
  want : ∀ j, j < 8 → W.cell? ⟨b + 1, j, none⟩ = some (.string (str wantL j))
  big : b + 1 < W.heap.size
theorem Two.on {b : Nat} {W W' : World} (h : Two b W) (q : Q W W') : Two b W' :=
  ⟨fun j hj => by rw [q.cell (by have := h.big; omega)]; exact h.good j hj, fun j hj => by rw [q.cell h.big]; exact h.want j hj, q.lt h.big⟩
structure One (b : Nat) (W : World) : Prop where
  bad : ∀ j, j < 14 → W.cell? ⟨b, j, none⟩ = some (.string (str badL j))
  big : b < W.heap.size
theorem One.on {b : Nat} {W W' : World} (h : One b W) (q : Q W W') : One b W' :=
  ⟨fun j hj => by rw [q.cell h.big]; exact h.bad j hj, q.lt h.big⟩

/-- what stays while FixForms runs -/
structure Jf (w0 W : World) : Prop where
  std : Std W
  q : Q w0 W
  two : Two w0.heap.size W
theorem Jf.on {w0 W W' : World} (h : Jf w0 W) (q : Q W W') : Jf w0 W' := ⟨h.std.on q, h.q.trans q, h.two.on q⟩
theorem Jf.drew {w0 W : World} (h : Jf w0 W) : Jf w0 W.drew := h.on (Q.refl _).drew

theorem want_held (w0 : World) (k : Nat) (hk : k < 8) (nk : Int) (sk : ByteArray) (hn : numL.getD k 0 = nk) (hs : str wantL k = sk) (w : World) (h : Jf w0 w) :
    Calls Tryd.prog 22 #[.int .i64 nk] w fun e w' => e = .returned (.string sk) ∧ Jf w0 w' ∧ w'.cell? ⟨w0.heap.size + 1, k, none⟩ = some (.string sk) := by
  subst hn hs
  refine (want_any k hk w h.std).mono ?_
  rintro e w' ⟨rfl, hq⟩
  exact ⟨rfl, h.on hq, (h.on hq).two.want k hk⟩

set_option maxHeartbeats 1000000 in
theorem forms_walk (w : World) (hw : Std w) :
    Calls Tryd.prog 8 #[] w fun e w' => e = .returned (.bool true) ∧ Q w w' := by
  go_enter Tryd.func8, Tryd.ntmps8
  go_wp2
  go_loopw [3] (fun i W => ∃ k : Nat, k ≤ 8 ∧ i = .int .i64 k ∧ Q w W ∧ Two w.heap.size W) (fun i _ => 8 - (intOf i).toNat)
  case atStart =>
    refine ⟨0, by omega, rfl, ((Q.refl w).alloc _).alloc _, ?_⟩
    refine ⟨fun j hj => ?_, fun j hj => ?_, by simp⟩
    · match j, hj with
      | 0, _ => simp; rfl
      | 1, _ => simp; rfl
      | 2, _ => simp; rfl
      | 3, _ => simp; rfl
      | 4, _ => simp; rfl
      | 5, _ => simp; rfl
      | 6, _ => simp; rfl
      | 7, _ => simp; rfl
    · match j, hj with
      | 0, _ => simp; rfl
      | 1, _ => simp; rfl
      | 2, _ => simp; rfl
      | 3, _ => simp; rfl
      | 4, _ => simp; rfl
      | 5, _ => simp; rfl
      | 6, _ => simp; rfl
      | 7, _ => simp; rfl
  case round =>
    obtain ⟨k, hk, rfl, hq, h2⟩ := hrel
    have hs := hw.on hq
    by_cases hlt : k < 8
    · have c1 := h2.good k hlt
      have HG := hid (fun w hw => good_any k hlt w hw)
      have HP := hid (fun nk sk hn hs w h => want_held w k hlt nk sk hn hs w h)
      generalize str goodL k = gk at *
      obtain ⟨nk, hnk⟩ : ∃ nk, numL.getD k 0 = nk := ⟨_, rfl⟩
      obtain ⟨sk, hsk⟩ : ∃ sk, str wantL k = sk := ⟨_, rfl⟩
      have HH := hid (fun W h => want_held w k hlt nk sk hnk hsk W h)
      have hW2 := hid (fun (W : World) (h : Two w.heap.size W) => hsk ▸ h.want k hlt)
      rw [hnk] at HG
      have E1 := hid hnk
      have E2 := hid hsk
      clear hnk hsk HP
      go_wp2_with (first | (go_at_call 20; refine (HG.out _ hs).mono ?_; rintro e w1 ⟨rfl, q1⟩))
      have c2 : w1.cell? ⟨w.heap.size + 1, k, none⟩ = some (.string sk) := hW2.out w1 (h2.on q1)
      have j1 : Jf w w1 := ⟨hs.on q1, hq.trans q1, h2.on q1⟩
      clear c1 h2 hs hq q1
      go_region_held3 (fun W => Jf w W ∧ W.cell? ⟨w.heap.size + 1, k, none⟩ = some (.string sk)) (refine ⟨?_, ?_⟩ <;> first | assumption | (apply Jf.drew; assumption) | (simp [*]; done))
        (first | (go_at_call 22; refine (HH.out _ ?_).mono ?_; first | assumption | (apply Jf.drew; assumption); rintro e w2 ⟨rfl, j2, c3⟩))
      go_wp2
      go_roundw
      case rel => exact ⟨k + 1, by omega, by go_num, j2.q, j2.two⟩
      case measure => simp [intOf]; omega
    · have hke : k = 8 := by omega
      clear hlt
      subst hke
      go_wp2
      have qa := (Q.refl wr).alloc (.cells #[Value.string (str badL 0), Value.string (str badL 1), Value.string (str badL 2), Value.string (str badL 3), Value.string (str badL 4), Value.string (str badL 5), Value.string (str badL 6), Value.string (str badL 7), Value.string (str badL 8), Value.string (str badL 9), Value.string (str badL 10), Value.string (str badL 11), Value.string (str badL 12), Value.string (str badL 13)] 9)
      go_loopw [7] (fun i W => ∃ k : Nat, k ≤ 14 ∧ i = .int .i64 k ∧ Q w W ∧ Std W ∧ One wr.heap.size W) (fun i _ => 14 - (intOf i).toNat)
      case atStart =>
        refine ⟨0, by omega, rfl, hq.trans qa, hs.on qa, fun j hj => ?_, by simp⟩
        match j, hj with
        | 0, _ => simp [World.cell?_alloc_new]; rfl
        | 1, _ => simp [World.cell?_alloc_new]; rfl
        | 2, _ => simp [World.cell?_alloc_new]; rfl
        | 3, _ => simp [World.cell?_alloc_new]; rfl
        | 4, _ => simp [World.cell?_alloc_new]; rfl
        | 5, _ => simp [World.cell?_alloc_new]; rfl
        | 6, _ => simp [World.cell?_alloc_new]; rfl
        | 7, _ => simp [World.cell?_alloc_new]; rfl
        | 8, _ => simp [World.cell?_alloc_new]; rfl
        | 9, _ => simp [World.cell?_alloc_new]; rfl
        | 10, _ => simp [World.cell?_alloc_new]; rfl
        | 11, _ => simp [World.cell?_alloc_new]; rfl
        | 12, _ => simp [World.cell?_alloc_new]; rfl
        | 13, _ => simp [World.cell?_alloc_new]; rfl
      case round =>
        obtain ⟨k, hk, rfl, hq3, hs3, h3⟩ := hrel
        by_cases hlt : k < 14
        · have c1 := h3.bad k hlt
          have HG := hid (fun w hw => bad_any k hlt w hw)
          generalize str badL k = gk at *
          go_wp2_with (first | (go_at_call 20; refine (HG.out _ hs3).mono ?_; rintro e w1 ⟨rfl, q1⟩))
          go_roundw
          case rel => (repeat apply Exists.intro); exact ⟨⟨k + 1, by omega, by go_num, hq3.trans q1, hs3.on q1, h3.on q1⟩, rfl⟩
          case measure => simp [intOf]; omega
        · go_wp2_with (go_at_call 9; refine (begun_any _ hs3).mono ?_; rintro e w2 ⟨rfl, q2⟩)
          go_ret
          exact ⟨rfl, hq3.trans q2⟩
end Go.Proofs.YtiplfalnaaeljaaDoor
