/- The program's reader: arguments; The program's reader: arguments, walked; The program's reader: names; What the program reads: all of it; lex.Scan, walked; What. -/
import Derived.Test.YtgheopdadfnilaaGreatDoorKr26
import Derived.Test.YtgheopdadfnilaaGreatDoorKr28
import Derived.Test.YtgheopdadfnilaaGreatDoorKr12
import Derived.Test.YtgheopdadfnilaaGreatDoorKr16
import Derived.Test.YtgheopdadfnilaaGreatDoorKr17
set_option linter.unusedVariables false
set_option linter.unusedSimpArgs false
set_option maxRecDepth 100000
namespace Go.Proofs.YtgheopdadfnilaaGreatDoor
open Go.RowKit
def RepG (p : Nat) (L : List Wd) (b off cap : Nat) (t : List UInt8) (W : World) (o : Option (Ex × Nat)) (e : Ending) (W' : World) : Prop :=
  ∃ (ao : Option Addr) (l cp : Nat), e = .returned (.tuple #[.slice ao l cp, .bool o.isSome]) ∧ Qx p W W' ∧ (∀ x j, o = some (x, j) → (∀ T : ByteArray, T.data.toList = t → Rdg (fun b => W.heap.size ≤ b) W' x (.agg #[.int .i64 9, .int .i64 0, .string T, .bool false, .int .i64 0, .slice none 0 0, .slice ao l cp])) ∧ PT W' p L b off cap j)
structure AP (L : List Wd) (p b off cap : Nat) (W : World) (W' : World) (ks : List Ex) (i1 : Nat) (Ls : List V7) (ao : Option Addr) (cp : Nat) : Prop where
  pt : PT W' p L b off cap i1
  lt : i1 < L.length
  ow : Own enc7 26 7 W.heap.size W' (.slice ao Ls.length cp) Ls
  ln : ks.length = Ls.length
  ob : ∀ j, (Value.slice ao Ls.length cp).ownBlock = some j → W.heap.size ≤ j
  rd : ∀ i (h : i < ks.length) (h' : i < Ls.length), Rdg (fun b => W.heap.size ≤ b ∧ (Value.slice ao Ls.length cp).ownBlock ≠ some b) W' ks[i] (agg7 Ls[i])
  qx : Qx p W W'
theorem AP.on {L : List Wd} {p b off cap : Nat} {W W' W2 : World} {ks : List Ex} {i1 i2 : Nat} {Ls : List V7} {ao : Option Addr} {cp : Nat} (h : AP L p b off cap W W' ks i1 Ls ao cp) (hp : p < W.heap.size) (q : Qx p W' W2) (pt : PT W2 p L b off cap i2) (lt : i2 < L.length) : AP L p b off cap W W2 ks i2 Ls ao cp :=
  ⟨pt, lt, h.ow.grown q (.inr fun e => by have := h.ob _ e; omega), h.ln, h.ob, fun i h1 h2 => Rdg.on q (fun b hb => by omega) _ _ (h.rd i h1 h2), h.qx.trans q⟩
theorem AP.call {L : List Wd} {p b off cap : Nat} {W W' : World} {ks : List Ex} {i1 : Nat} {Ls : List V7} {ao : Option Addr} {cp : Nat} (h : AP L p b off cap W W' ks i1 Ls ao cp) {t : List UInt8} (T : ByteArray) (hT : T.data.toList = t) : Rdg (fun b => W.heap.size ≤ b) W' (callE t ks) (.agg #[.int .i64 9, .int .i64 0, .string T, .bool false, .int .i64 0, .slice none 0 0, .slice ao Ls.length cp]) :=
  rdg_call hT h.ow h.ln h.ob (fun i h1 h2 => Rdg.mono (fun b hb => hb.1) _ _ (h.rd i h1 h2))
theorem AP.next {L : List Wd} {p b off cap : Nat} {W : World} {wr w8 w9 : World} {ks : List Ex} {i1 : Nat} {Ls : List V7} {ao : Option Addr} {cp : Nat} (h : AP L p b off cap W wr ks i1 Ls ao cp) (hp : p < W.heap.size) (hb : b < W.heap.size)
    (y : Ex) (j : Nat) (x : V7) (Q8 : Qx p wr w8) (P8 : PT w8 p L b off cap j) (hj : j < L.length) (R8 : Rdg (fun b => wr.heap.size ≤ b) w8 y (agg7 x)) (o1 o2 : Obj) (ao' : Option Addr) (cp' : Nat)
    (ow9 : Own enc7 26 7 W.heap.size w9 (.slice ao' (Ls.length + 1) cp') (Ls ++ [x])) (hgrow : ((w8.alloc o1).alloc o2).grownBy w9 (Value.slice ao Ls.length cp).ownBlock) (hat : (Value.slice ao' (Ls.length + 1) cp').ownBlock = (Value.slice ao Ls.length cp).ownBlock ∨ (Value.slice ao' (Ls.length + 1) cp').ownBlock = some ((w8.alloc o1).alloc o2).heap.size) :
    AP L p b off cap W w9 (ks ++ [y]) j (Ls ++ [x]) ao' cp' := by
  have hlen : (Ls ++ [x]).length = Ls.length + 1 := by simp
  have hs8 : wr.heap.size ≤ w8.heap.size := Q8.size
  have hsW : W.heap.size ≤ wr.heap.size := h.qx.size
  have hsA : ((w8.alloc o1).alloc o2).heap.size = w8.heap.size + 2 := by simp
  obtain ⟨r9, Qr, hr9, hro⟩ := grown_qx (n := W.heap.size) hgrow (by omega) h.ob
  have QA : Qx p wr ((w8.alloc o1).alloc o2) := (Q8.alloc _).alloc _
  have hob : ∀ j, (Value.slice ao' (Ls.length + 1) cp').ownBlock = some j → W.heap.size ≤ j := by
    intro j hj
    rcases hat with e | e
    · exact h.ob j (e ▸ hj)
    · rw [e] at hj
      have := Option.some.inj hj
      omega
  have hlt' := h.ow.lt
  refine ⟨((P8.on ((Q.refl _).alloc o1)).on ((Q.refl _).alloc o2)).onx Qr (by omega) (by omega) (by have := P8.p5; omega), hj, by rw [hlen]; exact ow9, by rw [hlen, List.length_append, h.ln]; rfl, by rw [hlen]; exact hob, ?_, (h.qx.trans QA).via Qr (by omega)⟩
  have hob2 : (Value.slice ao' (Ls ++ [x]).length cp').ownBlock = (Value.slice ao' (Ls.length + 1) cp').ownBlock := by rw [hlen]
  have fin : ∀ {z : Ex} {v : Value} {gg : Nat → Prop}, (∀ b, gg b → W.heap.size ≤ b ∧ (Value.slice ao Ls.length cp).ownBlock ≠ some b ∧ b < w8.heap.size) → Rdg gg ((w8.alloc o1).alloc o2) z v → Rdg (fun b => W.heap.size ≤ b ∧ (Value.slice ao' (Ls.length + 1) cp').ownBlock ≠ some b) w9 z v := by
    intro z v gg hg hz
    refine Rdg.mono (fun b hb => ⟨(hg b hb).1, fun e => ?_⟩) _ _ (Rdg.on Qr (fun b hb e => ?_) _ _ hz)
    · subst e
      rcases hro with e' | e'
      · exact (hg _ hb).2.1 e'
      · have := (hg _ hb).2.2; omega
    · rcases hat with e' | e'
      · rw [e'] at e; exact (hg b hb).2.1 e
      · rw [e'] at e
        have := Option.some.inj e
        have := (hg b hb).2.2
        omega
  intro i h1 h2
  refine Rdg.mono (g := fun b => W.heap.size ≤ b ∧ (Value.slice ao' (Ls.length + 1) cp').ownBlock ≠ some b) (fun b hb => ⟨hb.1, by rw [hob2]; exact hb.2⟩) _ _ ?_
  by_cases hi : i < ks.length
  · have hi' : i < Ls.length := by rw [← h.ln]; exact hi
    rw [List.getElem_append_left hi, List.getElem_append_left hi']
    refine fin (gg := fun b => (W.heap.size ≤ b ∧ (Value.slice ao Ls.length cp).ownBlock ≠ some b) ∧ b < wr.heap.size) (fun b hb => ⟨hb.1.1, hb.1.2, by have := hb.2; omega⟩) ?_
    exact Rdg.on QA (fun b hb => by omega) _ _ (Rdg.in _ _ (h.rd i hi hi'))
  · have e : i = ks.length := by simp at h1; omega
    subst e
    rw [List.getElem_append_right (by omega), List.getElem_append_right (by rw [h.ln]; omega)]
    simp only [h.ln, Nat.sub_self, List.getElem_cons_zero]
    refine fin (gg := fun b => wr.heap.size ≤ b ∧ b < w8.heap.size) (fun b hb => ⟨by omega, fun e => ?_, hb.2⟩) ?_
    · have := hlt' _ e; omega
    · exact Rdg.on ((Qx.refl p _).alloc _) (fun b hb => by omega) _ _ (Rdg.on ((Qx.refl p _).alloc _) (fun b hb => by omega) _ _ (Rdg.in _ _ R8))
theorem pg_go {L : List Wd} {f i : Nat} {t : List UInt8} {ks : List Ex} {R : Option (Ex × Nat)} (h : ks.length < 30) (e : ptF.pgF EE L f t ks i = some R) : ∃ g o, f = g + 1 ∧ ptF EE L g 1 i = some o ∧ (o = none → R = none) ∧ (∀ r, o = some r → isW L r.2 [44] = true → ptF.pgF EE L g t (ks ++ [r.1]) (r.2 + 1) = some R) ∧ (∀ r, o = some r → isW L r.2 [44] = false → R = if isW L r.2 [41] then some (callE t (ks ++ [r.1]), r.2 + 1) else none) := by
  cases f with
  | zero => unfold ptF.pgF at e; cases e
  | succ f =>
    rw [ptF.pgF, if_pos h] at e
    obtain ⟨o, h1, h2⟩ := Option.bind_eq_some_iff.1 e
    refine ⟨f, o, rfl, h1, fun ho => ?_, fun r ho hw => ?_, fun r ho hw => ?_⟩
    · subst ho; exact (Option.some.inj h2).symm
    · subst ho; simp only at h2; rw [if_pos hw] at h2; exact h2
    · subst ho; simp only at h2; rw [if_neg (by rw [hw]; simp)] at h2; exact (Option.some.inj h2).symm
theorem pg_stop {L : List Wd} {f i : Nat} {t : List UInt8} {ks : List Ex} {R : Option (Ex × Nat)} (h : ¬ ks.length < 30) (e : ptF.pgF EE L f t ks i = some R) : R = none := by
  cases f with
  | zero => unfold ptF.pgF at e; cases e
  | succ f => rw [ptF.pgF, if_neg h] at e; exact (Option.some.inj e).symm
set_option maxHeartbeats 8000000 in
theorem pargs_nil (L : List Wd) (p b off cap i : Nat) (W : World) (t : List UInt8) (h : PT W p L b off cap i) (hi : i < L.length) (hr : L.length ≤ 50000) (hw : isW L i [41] = true) :
    Calls Tryz.prog 198 #[.pointer (some ⟨p, 0, none⟩)] W fun e W' => RepG p L b off cap t W (some (callE t [], i + 1)) e W' := by
  have HP := hid h
  have hc := hid (ptake_any W p L b off cap i ⟨#[41]⟩ h hi hr (by simp))
  rw [show (⟨#[41]⟩ : ByteArray).data.toList = [41] from rfl, hw] at hc
  clear h
  go_enter Tryz.func198, Tryz.ntmps198
  go_wp2_with (go_at_call 166; refine hc.out.mono ?_; rintro e w1 ⟨rfl, q1, p1⟩; have Q1 := hid q1; have P1 := hid p1; clear q1 p1)
  go_ret2
  refine ⟨none, 0, 0, rfl, Q1.out, fun x j e => ?_⟩
  cases e
  exact ⟨fun T hT => rdg_leaf 9 0 t T hT false 0, P1.out⟩
set_option maxHeartbeats 16000000 in
theorem pargs_more (L : List Wd) (hE : Ends L) (p b off cap i : Nat) (W : World) (t : List UInt8) (h : PT W p L b off cap i) (hi : i < L.length) (hr : L.length ≤ 50000) (hw : isW L i [41] = false) (R : Option (Ex × Nat)) (f0 : Nat) (HR : Hid (ptF.pgF EE L f0 t [] i = some R))
    (HT2 : Hid (∀ f' j o W1, f' < f0 → ptF EE L f' 1 j = some o → PT W1 p L b off cap j → j < L.length → Calls Tryz.prog 108 #[.pointer (some ⟨p, 0, none⟩), .int .i64 1] W1 fun e W' => RepP p L b off cap W1 o e W')) :
    Calls Tryz.prog 198 #[.pointer (some ⟨p, 0, none⟩)] W fun e W' => RepG p L b off cap t W R e W' := by
  have hlt := h.lt
  have hbW := h.blk i hi
  have hc := hid (ptake_any W p L b off cap i ⟨#[41]⟩ h hi hr (by simp))
  rw [show (⟨#[41]⟩ : ByteArray).data.toList = [41] from rfl, hw] at hc
  clear h
  go_enter Tryz.func198, Tryz.ntmps198
  go_wp2_with (go_at_call 166; refine hc.out.mono ?_; rintro e w1 ⟨rfl, q1, p1⟩; have Q1 := hid q1; have P1 := hid p1; clear q1 p1)
  have HI : Hid (AP L p b off cap W w1 [] i [] none 0) := hid ⟨P1.out, hi, own_nil _, rfl, (fun j hj => by cases hj), (fun i h => absurd h (by simp)), Q1.out⟩
  go_loopw [4, 5, 6] (fun u _ _ W' => ∃ (f' : Nat) (ks : List Ex) (i1 : Nat) (Ls : List V7) (ao : Option Addr) (cp : Nat), f' ≤ f0 ∧ u = .slice ao Ls.length cp ∧ AP L p b off cap W W' ks i1 Ls ao cp ∧ ks.length ≤ 30 ∧ ptF.pgF EE L f' t ks i1 = some R) (fun _ _ _ W' => L.length - far p W')
  case atStart => exact ⟨f0, [], i, [], none, 0, Nat.le_refl _, rfl, HI.out, by simp, HR.out⟩
  case round =>
    obtain ⟨f', ks, i1, Ls, ao, cp, hf', rfl, hI, hkl, hfe⟩ := hrel
    clear HI P1 Q1 HR hc
    have HI2 := hid hI
    have hln := hI.ln
    have hlt1 := hI.lt
    by_cases h30 : ks.length < 30
    · have c30 : (Ls.length : Int) < 30 := by omega
      obtain ⟨g, o, rfl, hpt, hon, hoc, hob⟩ := pg_go h30 hfe
      have HTR := hid (fun W1 (g1 : PT W1 p L b off cap i1) => HT2.out g i1 o W1 (by omega) hpt g1 hlt1)
      obtain ⟨i0, hi0, hz0, hz1, hz2⟩ := inf_of info28
      have hop : (Value.slice ao Ls.length cp).ownBlock = none ∨ (Value.slice ao Ls.length cp).ownBlock ≠ some p := .inr (fun e => by have := HI2.out.ob _ e; omega)
      have hsW : W.heap.size ≤ wr.heap.size := hI.qx.size
      have HPT := hid hpt
      cases o with
      | none =>
        have eR := hon rfl
        subst eR
        clear hI hfe hon hoc hob hpt
        go_wp2_with (go_at_call 108; refine (HTR.out _ HI2.out.pt).mono ?_; rintro e w8 h8; obtain ⟨k8, m8, t8, bb8, er8, a18, l18, c18, a28, l28, c28, rfl, q8, _⟩ := h8.inN; have Q8 := hid q8; clear h8 q8)
        go_ret2
        exact ⟨none, 0, 0, rfl, (HI2.out.qx.trans Q8.out).alloc _, fun x j e => by cases e⟩
      | some r =>
        obtain ⟨y, j⟩ := r
        have hpos := (pfwd_all EE L hE g).1 _ _ _ _ (by omega) hlt1 hpt
        have hj := hpos.2
        have hc4 := hid (fun W1 (g1 : PT W1 p L b off cap j) => ptake_any W1 p L b off cap j ⟨#[44]⟩ g1 hj hr (by simp))
        have hc1 := hid (fun W1 (g1 : PT W1 p L b off cap j) => ptake_any W1 p L b off cap j ⟨#[41]⟩ g1 hj hr (by simp))
        rw [show (⟨#[44]⟩ : ByteArray).data.toList = [44] from rfl] at hc4
        rw [show (⟨#[41]⟩ : ByteArray).data.toList = [41] from rfl] at hc1
        have HOC := hid (hoc _ rfl)
        have HOB := hid (hob _ rfl)
        simp only at HOC HOB
        clear hI hfe hon hoc hob hpt
        cases h44 : isW L j [44]
        · rw [h44] at hc4
          cases h41 : isW L j [41]
          · rw [h41] at hc1
            have eR := HOB.out h44
            rw [h41] at eR
            simp at eR
            subst eR
            go_wp2_with (first | (go_at_call 166; refine (hc1.out _ PA.out).mono ?_; rintro e wB ⟨rfl, qB, pB⟩; have QB := hid qB; have PB := hid pB; clear qB pB) | (go_at_call 166; refine (hc4.out _ AN.out.pt).mono ?_; rintro e wA ⟨rfl, qA, pA⟩; have QA := hid qA; have PA := hid pA; clear qA pA) | (at_builtin; refine wpList_append_own_at _ rfl _ _ 24 rfl W.heap.size 26 i0 (.agg #[.int .i64 0, .int .i64 0, .string ⟨#[]⟩, .bool false, .int .i64 0, .slice none 0 0, .slice none 0 0]) 7 96 Tryz.underlying24 hi0 hz0 hz1 hz2 rfl (by decide) _ _ _ rfl (((HI2.out.ow.grown Q8.out hop).alloc _).alloc _) ⟨w8.heap.size + 1, 0, none⟩ 1 1 [.int .i64 k8, .int .i64 m8, .string t8, .bool bb8, .int .i64 er8, .slice a18 l18 c18, .slice a28 l28 c28] rfl rfl (news_at _ [.int .i64 k8, .int .i64 m8, .string t8, .bool bb8, .int .i64 er8, .slice a18 l18 c18, .slice a28 l28 c28] 26 _ (by simp)) (one7 _ _ _ _ _ _ _ _ _ _ _) (by unfold maxLen; omega) (by omega) (by simp; omega) ?_; intro v9 w9 hown9 hgrow9 _ hat9; have ow9 := own_snoc' (x := (⟨.int .i64 k8, .int .i64 m8, .string t8, .bool bb8, .int .i64 er8, .slice a18 l18 c18, .slice a28 l28 c28⟩ : V7)) hown9 rfl; obtain ⟨ao9, cp9, hv9, _, _⟩ := (ow9.sl enc7_len (by omega)).len; rw [show (Ls ++ [(⟨.int .i64 k8, .int .i64 m8, .string t8, .bool bb8, .int .i64 er8, .slice a18 l18 c18, .slice a28 l28 c28⟩ : V7)]).length = Ls.length + 1 by simp] at hv9; subst hv9; have AN := hid (HI2.out.next hlt hbW y j ⟨.int .i64 k8, .int .i64 m8, .string t8, .bool bb8, .int .i64 er8, .slice a18 l18 c18, .slice a28 l28 c28⟩ Q8.out P8.out hj R8.out (.cells #[.int .i64 k8, .int .i64 m8, .string t8, .bool bb8, .int .i64 er8, .slice a18 l18 c18, .slice a28 l28 c28] 26) (.cells #[.int .i64 k8, .int .i64 m8, .string t8, .bool bb8, .int .i64 er8, .slice a18 l18 c18, .slice a28 l28 c28] 26) ao9 cp9 ow9 hgrow9 hat9); clear hown9 hgrow9 hat9 ow9) | (go_at_call 108; refine (HTR.out _ HI2.out.pt).mono ?_; rintro e w8 h8; obtain ⟨k8, m8, t8, bb8, er8, a18, l18, c18, a28, l28, c28, rfl, q8, r8, p8⟩ := h8.inY; have R8 : Hid (Rdg (fun b => wr.heap.size ≤ b) w8 y (agg7 ⟨.int .i64 k8, .int .i64 m8, .string t8, .bool bb8, .int .i64 er8, .slice a18 l18 c18, .slice a28 l28 c28⟩)) := hid r8; have Q8 := hid q8; have P8 := hid p8; have hz8 : wr.heap.size ≤ w8.heap.size := q8.size; clear h8 q8 r8 p8))
            go_ret2
            exact ⟨ao9, Ls.length + 1, cp9, rfl, (AN.out.qx.trans QA.out).trans QB.out, fun x j e => by cases e⟩
          · rw [h41] at hc1
            have eR := HOB.out h44
            rw [h41] at eR
            simp at eR
            subst eR
            go_wp2_with (first | (go_at_call 166; refine (hc1.out _ PA.out).mono ?_; rintro e wB ⟨rfl, qB, pB⟩; have QB := hid qB; have PB := hid pB; clear qB pB) | (go_at_call 166; refine (hc4.out _ AN.out.pt).mono ?_; rintro e wA ⟨rfl, qA, pA⟩; have QA := hid qA; have PA := hid pA; clear qA pA) | (at_builtin; refine wpList_append_own_at _ rfl _ _ 24 rfl W.heap.size 26 i0 (.agg #[.int .i64 0, .int .i64 0, .string ⟨#[]⟩, .bool false, .int .i64 0, .slice none 0 0, .slice none 0 0]) 7 96 Tryz.underlying24 hi0 hz0 hz1 hz2 rfl (by decide) _ _ _ rfl (((HI2.out.ow.grown Q8.out hop).alloc _).alloc _) ⟨w8.heap.size + 1, 0, none⟩ 1 1 [.int .i64 k8, .int .i64 m8, .string t8, .bool bb8, .int .i64 er8, .slice a18 l18 c18, .slice a28 l28 c28] rfl rfl (news_at _ [.int .i64 k8, .int .i64 m8, .string t8, .bool bb8, .int .i64 er8, .slice a18 l18 c18, .slice a28 l28 c28] 26 _ (by simp)) (one7 _ _ _ _ _ _ _ _ _ _ _) (by unfold maxLen; omega) (by omega) (by simp; omega) ?_; intro v9 w9 hown9 hgrow9 _ hat9; have ow9 := own_snoc' (x := (⟨.int .i64 k8, .int .i64 m8, .string t8, .bool bb8, .int .i64 er8, .slice a18 l18 c18, .slice a28 l28 c28⟩ : V7)) hown9 rfl; obtain ⟨ao9, cp9, hv9, _, _⟩ := (ow9.sl enc7_len (by omega)).len; rw [show (Ls ++ [(⟨.int .i64 k8, .int .i64 m8, .string t8, .bool bb8, .int .i64 er8, .slice a18 l18 c18, .slice a28 l28 c28⟩ : V7)]).length = Ls.length + 1 by simp] at hv9; subst hv9; have AN := hid (HI2.out.next hlt hbW y j ⟨.int .i64 k8, .int .i64 m8, .string t8, .bool bb8, .int .i64 er8, .slice a18 l18 c18, .slice a28 l28 c28⟩ Q8.out P8.out hj R8.out (.cells #[.int .i64 k8, .int .i64 m8, .string t8, .bool bb8, .int .i64 er8, .slice a18 l18 c18, .slice a28 l28 c28] 26) (.cells #[.int .i64 k8, .int .i64 m8, .string t8, .bool bb8, .int .i64 er8, .slice a18 l18 c18, .slice a28 l28 c28] 26) ao9 cp9 ow9 hgrow9 hat9); clear hown9 hgrow9 hat9 ow9) | (go_at_call 108; refine (HTR.out _ HI2.out.pt).mono ?_; rintro e w8 h8; obtain ⟨k8, m8, t8, bb8, er8, a18, l18, c18, a28, l28, c28, rfl, q8, r8, p8⟩ := h8.inY; have R8 : Hid (Rdg (fun b => wr.heap.size ≤ b) w8 y (agg7 ⟨.int .i64 k8, .int .i64 m8, .string t8, .bool bb8, .int .i64 er8, .slice a18 l18 c18, .slice a28 l28 c28⟩)) := hid r8; have Q8 := hid q8; have P8 := hid p8; have hz8 : wr.heap.size ≤ w8.heap.size := q8.size; clear h8 q8 r8 p8))
            go_ret2
            have AF := (AN.out.on hlt QA.out PA.out hj).on hlt QB.out PB.out (hE.sign h41)
            have hc9 := fun T hT => AF.call (t := t) T hT
            rw [show (Ls ++ [(⟨.int .i64 k8, .int .i64 m8, .string t8, .bool bb8, .int .i64 er8, .slice a18 l18 c18, .slice a28 l28 c28⟩ : V7)]).length = Ls.length + 1 by simp] at hc9
            refine ⟨ao9, Ls.length + 1, cp9, rfl, AF.qx, fun x j' e => ?_⟩
            cases e
            exact ⟨hc9, PB.out⟩
        · rw [h44] at hc4
          go_wp2_with (first | (go_at_call 166; refine (hc1.out _ PA.out).mono ?_; rintro e wB ⟨rfl, qB, pB⟩; have QB := hid qB; have PB := hid pB; clear qB pB) | (go_at_call 166; refine (hc4.out _ AN.out.pt).mono ?_; rintro e wA ⟨rfl, qA, pA⟩; have QA := hid qA; have PA := hid pA; clear qA pA) | (at_builtin; refine wpList_append_own_at _ rfl _ _ 24 rfl W.heap.size 26 i0 (.agg #[.int .i64 0, .int .i64 0, .string ⟨#[]⟩, .bool false, .int .i64 0, .slice none 0 0, .slice none 0 0]) 7 96 Tryz.underlying24 hi0 hz0 hz1 hz2 rfl (by decide) _ _ _ rfl (((HI2.out.ow.grown Q8.out hop).alloc _).alloc _) ⟨w8.heap.size + 1, 0, none⟩ 1 1 [.int .i64 k8, .int .i64 m8, .string t8, .bool bb8, .int .i64 er8, .slice a18 l18 c18, .slice a28 l28 c28] rfl rfl (news_at _ [.int .i64 k8, .int .i64 m8, .string t8, .bool bb8, .int .i64 er8, .slice a18 l18 c18, .slice a28 l28 c28] 26 _ (by simp)) (one7 _ _ _ _ _ _ _ _ _ _ _) (by unfold maxLen; omega) (by omega) (by simp; omega) ?_; intro v9 w9 hown9 hgrow9 _ hat9; have ow9 := own_snoc' (x := (⟨.int .i64 k8, .int .i64 m8, .string t8, .bool bb8, .int .i64 er8, .slice a18 l18 c18, .slice a28 l28 c28⟩ : V7)) hown9 rfl; obtain ⟨ao9, cp9, hv9, _, _⟩ := (ow9.sl enc7_len (by omega)).len; rw [show (Ls ++ [(⟨.int .i64 k8, .int .i64 m8, .string t8, .bool bb8, .int .i64 er8, .slice a18 l18 c18, .slice a28 l28 c28⟩ : V7)]).length = Ls.length + 1 by simp] at hv9; subst hv9; have AN := hid (HI2.out.next hlt hbW y j ⟨.int .i64 k8, .int .i64 m8, .string t8, .bool bb8, .int .i64 er8, .slice a18 l18 c18, .slice a28 l28 c28⟩ Q8.out P8.out hj R8.out (.cells #[.int .i64 k8, .int .i64 m8, .string t8, .bool bb8, .int .i64 er8, .slice a18 l18 c18, .slice a28 l28 c28] 26) (.cells #[.int .i64 k8, .int .i64 m8, .string t8, .bool bb8, .int .i64 er8, .slice a18 l18 c18, .slice a28 l28 c28] 26) ao9 cp9 ow9 hgrow9 hat9); clear hown9 hgrow9 hat9 ow9) | (go_at_call 108; refine (HTR.out _ HI2.out.pt).mono ?_; rintro e w8 h8; obtain ⟨k8, m8, t8, bb8, er8, a18, l18, c18, a28, l28, c28, rfl, q8, r8, p8⟩ := h8.inY; have R8 : Hid (Rdg (fun b => wr.heap.size ≤ b) w8 y (agg7 ⟨.int .i64 k8, .int .i64 m8, .string t8, .bool bb8, .int .i64 er8, .slice a18 l18 c18, .slice a28 l28 c28⟩)) := hid r8; have Q8 := hid q8; have P8 := hid p8; have hz8 : wr.heap.size ≤ w8.heap.size := q8.size; clear h8 q8 r8 p8))
          have hj1 := hE.sign h44
          have AF := AN.out.on hlt QA.out PA.out hj1
          go_roundw
          case rel => exact ⟨g, _, _, _, ao9, cp9, by omega, by simp, AF, by simp; omega, HOC.out h44⟩
          case measure =>
            rw [pfar_of PA.out, pfar_of HI2.out.pt]
            have := hpos.1
            show L.length - (j + 1) < L.length - i1
            omega
    · have eR := pg_stop h30 hfe
      subst eR
      have c30 : ¬ (Ls.length : Int) < 30 := by omega
      clear hI hfe
      go_wp2_with fail
      go_ret2
      exact ⟨none, 0, 0, rfl, HI2.out.qx, fun x j e => by cases e⟩
set_option maxHeartbeats 8000000 in
theorem pnamed_true (L : List Wd) (p b off cap i : Nat) (W : World) (T : ByteArray) (t : List UInt8) (hT : T.data.toList = t) (h : PT W p L b off cap i) (hi : i < L.length) (hr : L.length ≤ 50000) (hz : t.length ≤ 1000) (ht : t = truW) :
    Calls Tryz.prog 187 #[.pointer (some ⟨p, 0, none⟩), .string T] W fun e W' => RepP p L b off cap W (some (boolE (decide (t = truW)), i)) e W' := by
  have hlt := h.lt
  have hbW := h.blk i hi
  have HP := hid h
  have HZ := hid (tb_new W (.int .i64 0) (.int .i64 0) (.string ⟨#[]⟩) (.bool false) (.int .i64 0) (.slice none 0 0) (.slice none 0 0) 26)
  have hsz : T.size ≤ 1000 := by rw [← hT] at hz; simpa using hz
  have HTr := hid (fun W1 => ptruth_any T W1)
  have HNm := hid (fun W1 => mayname_any T W1 (by omega))
  rw [hT] at HTr HNm
  have et := hid (toL T)
  have f1 : (T.toList == [84, 82, 85, 69]) = true := by rw [et.out, hT, ht]; rfl
  rw [decide_eq_true (.inl ht)] at HTr
  have HD : Hid (decide (t = truW) = true) := by show _ = _; rw [ht]; decide
  clear hT ht et
  clear h hz
  go_enter Tryz.func187, Tryz.ntmps187
  go_wp2_with (go_at_call 150; refine (HTr.out _).mono ?_; rintro e9 w9 ⟨rfl, h9⟩; replace h9 := h9.symm; subst h9)
  refine bodyPost_ret (v := .tuple #[.agg #[.int .i64 3, .int .i64 0, .string ⟨#[]⟩, .bool true, .int .i64 0, .slice none 0 0, .slice none 0 0], .bool true]) (by simp [results, Tryz.results187, go_sem]) rfl ?_
  rw [HD.out]
  refine ⟨3, 0, ⟨#[]⟩, true, 0, none, 0, 0, none, 0, 0, rfl, (Qx.refl p _).alloc _, fun x j e => ?_⟩
  cases e
  exact ⟨rdg_leaf 3 0 [] ⟨#[]⟩ rfl true 0, HP.out.on ((Q.refl _).alloc _)⟩
set_option maxHeartbeats 8000000 in
theorem pnamed_false (L : List Wd) (p b off cap i : Nat) (W : World) (T : ByteArray) (t : List UInt8) (hT : T.data.toList = t) (h : PT W p L b off cap i) (hi : i < L.length) (hr : L.length ≤ 50000) (hz : t.length ≤ 1000) (ht : t = flsW) :
    Calls Tryz.prog 187 #[.pointer (some ⟨p, 0, none⟩), .string T] W fun e W' => RepP p L b off cap W (some (boolE (decide (t = truW)), i)) e W' := by
  have hlt := h.lt
  have hbW := h.blk i hi
  have HP := hid h
  have HZ := hid (tb_new W (.int .i64 0) (.int .i64 0) (.string ⟨#[]⟩) (.bool false) (.int .i64 0) (.slice none 0 0) (.slice none 0 0) 26)
  have hsz : T.size ≤ 1000 := by rw [← hT] at hz; simpa using hz
  have HTr := hid (fun W1 => ptruth_any T W1)
  have HNm := hid (fun W1 => mayname_any T W1 (by omega))
  rw [hT] at HTr HNm
  have et := hid (toL T)
  have f1 : (T.toList == [84, 82, 85, 69]) = false := by rw [et.out, hT, ht]; rfl
  rw [decide_eq_true (.inr ht)] at HTr
  have HD : Hid (decide (t = truW) = false) := by show _ = _; rw [ht]; decide
  clear hT ht et
  clear h hz
  go_enter Tryz.func187, Tryz.ntmps187
  go_wp2_with (go_at_call 150; refine (HTr.out _).mono ?_; rintro e9 w9 ⟨rfl, h9⟩; replace h9 := h9.symm; subst h9)
  refine bodyPost_ret (v := .tuple #[.agg #[.int .i64 3, .int .i64 0, .string ⟨#[]⟩, .bool false, .int .i64 0, .slice none 0 0, .slice none 0 0], .bool true]) (by simp [results, Tryz.results187, go_sem]) rfl ?_
  rw [HD.out]
  refine ⟨3, 0, ⟨#[]⟩, false, 0, none, 0, 0, none, 0, 0, rfl, (Qx.refl p _).alloc _, fun x j e => ?_⟩
  cases e
  exact ⟨rdg_leaf 3 0 [] ⟨#[]⟩ rfl false 0, HP.out.on ((Q.refl _).alloc _)⟩
set_option maxHeartbeats 8000000 in
theorem pnamed_bad (L : List Wd) (p b off cap i : Nat) (W : World) (T : ByteArray) (t : List UInt8) (hT : T.data.toList = t) (h : PT W p L b off cap i) (hi : i < L.length) (hr : L.length ≤ 50000) (hz : t.length ≤ 1000) (ht : ¬ (t = truW ∨ t = flsW)) (hnm : namF t = false) :
    Calls Tryz.prog 187 #[.pointer (some ⟨p, 0, none⟩), .string T] W fun e W' => RepP p L b off cap W none e W' := by
  have hlt := h.lt
  have hbW := h.blk i hi
  have HP := hid h
  have HZ := hid (tb_new W (.int .i64 0) (.int .i64 0) (.string ⟨#[]⟩) (.bool false) (.int .i64 0) (.slice none 0 0) (.slice none 0 0) 26)
  have hsz : T.size ≤ 1000 := by rw [← hT] at hz; simpa using hz
  have HTr := hid (fun W1 => ptruth_any T W1)
  have HNm := hid (fun W1 => mayname_any T W1 (by omega))
  rw [hT] at HTr HNm
  have et := hid (toL T)
  rw [decide_eq_false ht] at HTr
  rw [hnm] at HNm
  clear hT ht et hnm
  clear h hz
  go_enter Tryz.func187, Tryz.ntmps187
  go_wp2_with (first | (go_at_call 150; refine (HTr.out _).mono ?_; rintro e9 w9 ⟨rfl, h9⟩; replace h9 := h9.symm; subst h9) | (go_at_call 126; refine (HNm.out _).mono ?_; rintro e9 w9 ⟨rfl, h9⟩; replace h9 := h9.symm; subst h9))
  refine bodyPost_ret (v := .tuple #[.agg #[.int .i64 0, .int .i64 0, .string ⟨#[]⟩, .bool false, .int .i64 0, .slice none 0 0, .slice none 0 0], .bool false]) (by simp [results, Tryz.results187, go_sem]) rfl ?_
  exact ⟨0, 0, ⟨#[]⟩, false, 0, none, 0, 0, none, 0, 0, rfl, (Qx.refl p _).alloc _, fun x j e => by cases e⟩
set_option maxHeartbeats 8000000 in
theorem pnamed_none (L : List Wd) (p b off cap i : Nat) (W : World) (T : ByteArray) (t : List UInt8) (hT : T.data.toList = t) (h : PT W p L b off cap i) (hi : i < L.length) (hr : L.length ≤ 50000) (hz : t.length ≤ 1000) (ht : ¬ (t = truW ∨ t = flsW)) (hnm : namF t = true) (hw : isW L i [40] = false) :
    Calls Tryz.prog 187 #[.pointer (some ⟨p, 0, none⟩), .string T] W fun e W' => RepP p L b off cap W none e W' := by
  have hlt := h.lt
  have hbW := h.blk i hi
  have HP := hid h
  have HZ := hid (tb_new W (.int .i64 0) (.int .i64 0) (.string ⟨#[]⟩) (.bool false) (.int .i64 0) (.slice none 0 0) (.slice none 0 0) 26)
  have hsz : T.size ≤ 1000 := by rw [← hT] at hz; simpa using hz
  have HTr := hid (fun W1 => ptruth_any T W1)
  have HNm := hid (fun W1 => mayname_any T W1 (by omega))
  rw [hT] at HTr HNm
  have et := hid (toL T)
  rw [decide_eq_false ht] at HTr
  rw [hnm] at HNm
  have hc := hid (fun W1 (g : PT W1 p L b off cap i) => ptake_any W1 p L b off cap i ⟨#[40]⟩ g hi hr (by simp))
  rw [show (⟨#[40]⟩ : ByteArray).data.toList = [40] from rfl, hw] at hc
  clear hT ht et hnm
  clear h hz
  go_enter Tryz.func187, Tryz.ntmps187
  go_wp2_with (first | (go_at_call 150; refine (HTr.out _).mono ?_; rintro e9 w9 ⟨rfl, h9⟩; replace h9 := h9.symm; subst h9) | (go_at_call 126; refine (HNm.out _).mono ?_; rintro e9 w9 ⟨rfl, h9⟩; replace h9 := h9.symm; subst h9) | (go_at_call 166; refine (hc.out _ (HP.out.on (by repeat (first | with_reducible exact Q.refl _ | with_reducible refine Q.drewN ?_ _ | with_reducible refine Q.drew ?_ | with_reducible refine Q.alloc ?_ _ | with_reducible refine Q.setCell ?_ (by simp) _)))).mono ?_; rintro e w1 ⟨rfl, q1, p1⟩; have Q1 : Hid (Qx p W w1) := hid (Qx.trans (by repeat (first | with_reducible exact Qx.refl _ _ | with_reducible refine Qx.drewN ?_ _ | with_reducible refine Qx.drew ?_ | with_reducible refine Qx.alloc ?_ _ | with_reducible refine Qx.own ?_ _ _ | with_reducible refine Qx.new ?_ (by simp) _ _)) q1); have P1 := hid p1; have Z1 := hid (HZ.out.on q1 (by omega)); have hsw : W.heap.size < w1.heap.size := World.block_lt_of_cell? w1 ⟨W.heap.size, 0, none⟩ Z1.out.g0; clear q1 p1; have d0 := Z1.out.g0; have d1 := Z1.out.g1; have d2 := Z1.out.g2; have d3 := Z1.out.g3; have d4 := Z1.out.g4; have d5 := Z1.out.g5; have d6 := Z1.out.g6; have y0 := Z1.out.f 0; have y1 := Z1.out.f 1; have y2 := Z1.out.f 2; have y3 := Z1.out.f 3; have y4 := Z1.out.f 4; have y5 := Z1.out.f 5; have y6 := Z1.out.f 6))
  refine bodyPost_ret (v := .tuple #[.agg #[.int .i64 0, .int .i64 0, .string ⟨#[]⟩, .bool false, .int .i64 0, .slice none 0 0, .slice none 0 0], .bool false]) (by simp [results, Tryz.results187, go_sem, d0, d1, d2, d3, d4, d5, d6]) rfl ?_
  exact finP none 0 0 ⟨#[]⟩ false 0 none 0 0 none 0 0 hlt hbW Q1.out (fun x j e => by cases e)
set_option maxHeartbeats 8000000 in
theorem pnamed_args (L : List Wd) (p b off cap i : Nat) (W : World) (T : ByteArray) (t : List UInt8) (hT : T.data.toList = t) (h : PT W p L b off cap i) (hi : i < L.length) (hr : L.length ≤ 50000) (hz : t.length ≤ 1000) (ht : ¬ (t = truW ∨ t = flsW)) (hnm : namF t = true) (hw : isW L i [40] = true) (o : Option (Ex × Nat)) (HG : Hid (∀ W1, PT W1 p L b off cap (i + 1) → Calls Tryz.prog 198 #[.pointer (some ⟨p, 0, none⟩)] W1 fun e W' => RepG p L b off cap t W1 o e W')) :
    Calls Tryz.prog 187 #[.pointer (some ⟨p, 0, none⟩), .string T] W fun e W' => RepP p L b off cap W o e W' := by
  have hlt := h.lt
  have hbW := h.blk i hi
  have HP := hid h
  have HZ := hid (tb_new W (.int .i64 0) (.int .i64 0) (.string ⟨#[]⟩) (.bool false) (.int .i64 0) (.slice none 0 0) (.slice none 0 0) 26)
  have hsz : T.size ≤ 1000 := by rw [← hT] at hz; simpa using hz
  have HTr := hid (fun W1 => ptruth_any T W1)
  have HNm := hid (fun W1 => mayname_any T W1 (by omega))
  rw [hT] at HTr HNm
  have et := hid (toL T)
  rw [decide_eq_false ht] at HTr
  rw [hnm] at HNm
  have hc := hid (fun W1 (g : PT W1 p L b off cap i) => ptake_any W1 p L b off cap i ⟨#[40]⟩ g hi hr (by simp))
  rw [show (⟨#[40]⟩ : ByteArray).data.toList = [40] from rfl, hw] at hc
  have HTT := hid hT
  clear hT ht et hnm
  clear h hz
  go_enter Tryz.func187, Tryz.ntmps187
  go_wp2_with (first | (go_at_call 150; refine (HTr.out _).mono ?_; rintro e9 w9 ⟨rfl, h9⟩; replace h9 := h9.symm; subst h9) | (go_at_call 126; refine (HNm.out _).mono ?_; rintro e9 w9 ⟨rfl, h9⟩; replace h9 := h9.symm; subst h9) | (go_at_call 166; refine (hc.out _ (HP.out.on (by repeat (first | with_reducible exact Q.refl _ | with_reducible refine Q.drewN ?_ _ | with_reducible refine Q.drew ?_ | with_reducible refine Q.alloc ?_ _ | with_reducible refine Q.setCell ?_ (by simp) _)))).mono ?_; rintro e w1 ⟨rfl, q1, p1⟩; have Q1 : Hid (Qx p W w1) := hid (Qx.trans (by repeat (first | with_reducible exact Qx.refl _ _ | with_reducible refine Qx.drewN ?_ _ | with_reducible refine Qx.drew ?_ | with_reducible refine Qx.alloc ?_ _ | with_reducible refine Qx.own ?_ _ _ | with_reducible refine Qx.new ?_ (by simp) _ _)) q1); have P1 := hid p1; have Z1 := hid (HZ.out.on q1 (by omega)); have hsw : W.heap.size < w1.heap.size := World.block_lt_of_cell? w1 ⟨W.heap.size, 0, none⟩ Z1.out.g0; clear q1 p1) | (go_at_call 198; refine (HG.out _ P1.out).mono ?_; rintro e w2 ⟨ao, l, cp, rfl, q2, r2⟩; have Q2 := hid q2; have R2 := hid r2; have Z2 := hid (Z1.out.on q2 (by omega)); clear q2 r2; have d0 := Z2.out.g0; have d1 := Z2.out.g1; have d2 := Z2.out.g2; have d3 := Z2.out.g3; have d4 := Z2.out.g4; have d5 := Z2.out.g5; have d6 := Z2.out.g6; have y0 := Z2.out.f 0; have y1 := Z2.out.f 1; have y2 := Z2.out.f 2; have y3 := Z2.out.f 3; have y4 := Z2.out.f 4; have y5 := Z2.out.f 5; have y6 := Z2.out.f 6))
  refine bodyPost_ret (v := .tuple #[.agg #[.int .i64 9, .int .i64 0, .string T, .bool false, .int .i64 0, .slice none 0 0, .slice ao l cp], .bool o.isSome]) (by simp [results, Tryz.results187, go_sem, d0, d1, d2, d3, d4, d5, d6]) rfl ?_
  exact finP o 9 0 T false 0 none 0 0 ao l cp hlt hbW (Q1.out.trans Q2.out) (fun x j e => ⟨Rdg.mono (fun b hb => by omega) _ _ ((R2.out x j e).1 T HTT.out), (R2.out x j e).2⟩)
theorem pro_all (L : List Wd) (hE : Ends L) (hG : Good EE L) (hK : ∀ i, i < L.length → 1 ≤ kAt L i ∧ kAt L i ≤ 7) (hr : L.length ≤ 50000) (hz : ∀ i, (tAt L i).length ≤ 1000) (p b off cap : Nat) : ∀ f : Nat,
    (∀ (lv i : Nat) (o : Option (Ex × Nat)) (W : World), 1 ≤ lv → lv ≤ 5 → ptF EE L f lv i = some o → PT W p L b off cap i → i < L.length → Calls Tryz.prog 108 #[.pointer (some ⟨p, 0, none⟩), .int .i64 (lv : Int)] W fun e W' => RepP p L b off cap W o e W') ∧
    (∀ (i : Nat) (o : Option (Ex × Nat)) (W : World), ptF.paF EE L f i = some o → PT W p L b off cap i → i < L.length → Calls Tryz.prog 142 #[.pointer (some ⟨p, 0, none⟩)] W fun e W' => RepP p L b off cap W o e W') ∧
    (∀ (i : Nat) (o : Option (Ex × Nat)) (W : World), ptF.pfF EE L f i = some o → PT W p L b off cap i → i < L.length → Calls Tryz.prog 167 #[.pointer (some ⟨p, 0, none⟩)] W fun e W' => RepP p L b off cap W o e W') := by
  intro f
  induction f using Nat.strongRecOn with
  | ind f ih =>
    cases f with
    | zero =>
      refine ⟨?_, ?_, ?_⟩
      · intro lv i o W _ _ h; unfold ptF at h; cases h
      · intro i o W h; unfold ptF.paF at h; cases h
      · intro i o W h; unfold ptF.pfF at h; cases h
    | succ f =>
      have IT := fun f' (h : f' < f + 1) => (ih f' h).1
      obtain ⟨iT, iA, iF⟩ := ih f (Nat.lt_succ_self f)
      refine ⟨?_, ?_, ?_⟩
      · intro lv i o W hv hv5 h hP hi
        rw [ptF] at h
        obtain ⟨oa, h1, h2⟩ := Option.bind_eq_some_iff.1 h
        refine ptree_step L hE p b off cap lv i W hP hi hr hv hv5 oa o f (fun e => ?_) (hid fun r e => ?_) (hid fun W1 g => iA i oa W1 h1 g hi) (hid fun f' lv' j o' W1 hf a1 a2 a3 a4 a5 => IT f' (by omega) lv' j o' W1 a1 a2 a3 a4 a5)
        · subst e; exact (Option.some.inj h2).symm
        · subst e; exact ⟨h2, ((pfwd_all EE L hE f).2.2.1 _ _ _ hi h1).2⟩
      · intro i o W h hP hi
        rw [ptF.paF] at h
        split at h
        · rename_i hw
          obtain ⟨oa, h1, h2⟩ := Option.bind_eq_some_iff.1 h
          have e : o = oa.map fun r => (negE r.1, r.2) := by
            cases oa with
            | none => exact (Option.some.inj h2).symm
            | some r => exact (Option.some.inj h2).symm
          rw [e]
          exact pahead_yes L p b off cap i W hP hi hr hw oa (hid fun W1 g => iA (i + 1) oa W1 h1 g (hE.sign hw))
        · rename_i hw
          exact pahead_no L p b off cap i W hP hi hr (by simpa using hw) o (hid fun W1 g => iF i o W1 h g hi)
      · intro i o W h hP hi
        rw [ptF.pfF] at h
        split at h
        · rename_i hw
          obtain ⟨ob, h1, h2⟩ := Option.bind_eq_some_iff.1 h
          have hi1 := hE.sign hw
          refine pfirst_paren L p b off cap i W hP hi hr hw o (hid fun W1 g => ?_)
          have HT := hid fun W2 (g2 : PT W2 p L b off cap (i + 1)) => iT 1 (i + 1) ob W2 (by omega) (by omega) h1 g2 hi1
          cases ob with
          | none =>
            have e : o = none := (Option.some.inj h2).symm
            rw [e]
            exact pbrack_none L p b off cap (i + 1) W1 g hi1 hr HT
          | some r =>
            obtain ⟨x, j⟩ := r
            have hj := ((pfwd_all EE L hE f).1 _ _ _ _ (by omega) hi1 h1).2
            have e : (if isW L j [41] then some (x, j + 1) else none) = o := Option.some.inj h2
            cases hw2 : isW L j [41]
            · rw [hw2] at e
              rw [← e]
              exact pbrack_no L p b off cap (i + 1) W1 g hi1 hr x j hj hw2 HT
            · rw [hw2] at e
              rw [← e]
              exact pbrack_yes L p b off cap (i + 1) W1 g hi1 hr x j hj hw2 HT
        · rename_i hw0
          have hw : isW L i [40] = false := by simpa using hw0
          split at h
          · rename_i hk
            have hi1 := hE i hi (by omega)
            refine pfirst_named L p b off cap i W hP hi hr hw hk o (hid fun W1 T hT _ g => ?_)
            split at h
            · rename_i ht
              rw [← Option.some.inj h]
              by_cases htr : tAt L i = truW
              · exact pnamed_true L p b off cap (i + 1) W1 T (tAt L i) hT g hi1 hr (hz i) htr
              · exact pnamed_false L p b off cap (i + 1) W1 T (tAt L i) hT g hi1 hr (hz i) (ht.resolve_left htr)
            · rename_i ht
              split at h
              · rename_i hc
                have hi2 := hE.sign hc.2
                have hnm : namF (tAt L i) = true := hc.1
                refine pnamed_args L p b off cap (i + 1) W1 T (tAt L i) hT g hi1 hr (hz i) ht hnm hc.2 o (hid fun W2 g2 => ?_)
                split at h
                · rename_i h41
                  rw [← Option.some.inj h]
                  exact pargs_nil L p b off cap (i + 2) W2 (tAt L i) g2 hi2 hr h41
                · rename_i h41
                  exact pargs_more L hE p b off cap (i + 2) W2 (tAt L i) g2 hi2 hr (by simpa using h41) o f (hid h) (hid fun f' j o' W3 hf a1 a2 a3 => IT f' (by omega) 1 j o' W3 (by omega) (by omega) a1 a2 a3)
              · rename_i hc
                rw [← Option.some.inj h]
                cases hnm : namF (tAt L i)
                · exact pnamed_bad L p b off cap (i + 1) W1 T (tAt L i) hT g hi1 hr (hz i) ht hnm
                · have hw1 : isW L (i + 1) [40] = false := by
                    cases hww : isW L (i + 1) [40]
                    · rfl
                    · exact absurd ⟨hnm, hww⟩ hc
                  exact pnamed_none L p b off cap (i + 1) W1 T (tAt L i) hT g hi1 hr (hz i) ht hnm hw1
          · rename_i hk4
            rw [← Option.some.inj h]
            unfold poneF
            have hk := hK i hi
            by_cases k1 : kAt L i = 1
            · rw [if_pos k1, if_pos (hG.num i hi k1)]
              exact pfirst_num L p b off cap i W hP hi hr hw k1 hz (hG.num i hi k1) hP.sd hP.p5
            · rw [if_neg k1]
              by_cases k2 : kAt L i = 2
              · rw [if_pos k2]; exact pfirst_text L p b off cap i W hP hi hr hw k2
              · rw [if_neg k2]
                by_cases k5 : kAt L i = 5
                · rw [if_pos k5]
                  exact pfirst_err L p b off cap i W hP hi hr hw k5 hP.sd hP.p5 (hid fun W1 T hT hs => errof_any T _ hT W1 hs (hG.err i hi k5))
                · rw [if_neg k5]
                  by_cases k3 : kAt L i = 3
                  · have hok := hG.ref i hi k3
                    have hok' : refF (tAt L i) = true := hok
                    rw [if_pos k3, if_neg (show ¬ EE.rok (tAt L i) = false by rw [hok]; simp)]
                    have hi1 := hE i hi (by omega)
                    refine pfirst_ref L p b off cap i W hP hi hr hw k3 _ (hid fun W1 T hT _ g => ?_)
                    by_cases hc : isW L (i + 1) [58] = true
                    · rw [if_pos hc]
                      by_cases h3 : kAt L (i + 2) = 3
                      · by_cases ho : refF (tAt L (i + 2)) = true
                        · by_cases hsh : (refT (tAt L (i + 2))).1 = []
                          · rw [if_pos ⟨h3, ho, hsh⟩]
                            exact pref_range L p b off cap (i + 1) W1 T (tAt L i) hT g hi1 hr g.sd g.p5 (hz i) hok' hE hz hc h3 ho hsh
                          · rw [if_neg (fun e => hsh e.2.2)]
                            exact pref_sheet L p b off cap (i + 1) W1 T (tAt L i) hT g hi1 hr g.sd g.p5 (hz i) hok' hE hz hc h3 ho hsh
                        · rw [if_neg (fun e => ho e.2.1)]
                          exact pref_none L p b off cap (i + 1) W1 T (tAt L i) hT g hi1 hr g.sd g.p5 (hz i) hok' hE hz hc h3 (by simpa using ho)
                      · rw [if_neg (fun e => h3 e.1)]
                        exact pref_kind L p b off cap (i + 1) W1 T (tAt L i) hT g hi1 hr g.sd g.p5 (hz i) hok' hE hc h3
                    · rw [if_neg hc]
                      exact pref_one L p b off cap (i + 1) W1 T (tAt L i) hT g hi1 hr g.sd g.p5 (hz i) hok' (by simpa using hc)
                  · rw [if_neg k3]
                    exact pfirst_other L p b off cap i W hP hi hr hw (by omega)
def scanL (l : List UInt8) : Option (List Wd) × Nat := if 1000 < l.length then (none, 0) else
  match scanF l 0 [] with
  | (some L, n) => (some (L ++ [⟨7, [], l.length⟩]), 0)
  | (none, n) => (none, n)
theorem scanL_long {l : List UInt8} (h : 1000 < l.length) : scanL l = (none, 0) := by unfold scanL; rw [if_pos h]
theorem scanL_yes {l : List UInt8} {L : List Wd} {n : Nat} (h : ¬ 1000 < l.length) (e : scanF l 0 [] = (some L, n)) : scanL l = (some (L ++ [⟨7, [], l.length⟩]), 0) := by unfold scanL; rw [if_neg h, e]
theorem scanL_no {l : List UInt8} {n : Nat} (h : ¬ 1000 < l.length) (e : scanF l 0 [] = (none, n)) : scanL l = (none, n) := by unfold scanL; rw [if_neg h, e]
def ScanRet (o : Option (List Wd) × Nat) (e : Ending) (W : World) : Prop :=
  match o with
  | (some L, n) => ∃ v, e = .returned (.tuple #[v, .int .i64 0, .bool true]) ∧ Sl wd 3 W v L
  | (none, n) => e = .returned (.tuple #[.slice none 0 0, .int .i64 (n : Int), .bool false])
theorem ScanRet.no {o : Option (List Wd) × Nat} {n : Nat} {W : World} {k : Int} (h : o = (none, n)) (hk : k = (n : Int)) : ScanRet o (.returned (.tuple #[.slice none 0 0, .int .i64 k, .bool false])) W := by
  subst h
  subst hk
  rfl
theorem ScanRet.yes {o : Option (List Wd) × Nat} {L : List Wd} {W : World} {v : Value} (h : o = (some L, 0)) (hv : Sl wd 3 W v L) : ScanRet o (.returned (.tuple #[v, .int .i64 0, .bool true])) W := by
  subst h
  exact ⟨v, rfl, hv⟩
theorem drop_head (s : ByteArray) (k : Nat) (h : k < s.size) : s.data.toList.drop k ≠ [] := by
  rw [drop_cons s k h]; simp
set_option maxHeartbeats 4000000 in
theorem scan_any (s : ByteArray) (w : World) (hw : Std w) (hs : s.size ≤ 100000) :
    Calls Tryz.prog 107 #[.string s] w fun e w' => ScanRet (scanL s.data.toList) e w' ∧ Q w w' := by
  by_cases hlong : 1000 < s.size
  · have HR := hid (scanL_long (l := s.data.toList) (by simpa using hlong))
    generalize scanL s.data.toList = o at HR ⊢
    go_enter Tryz.func107, Tryz.ntmps107
    go_wp2
    go_ret3
    exact ⟨ScanRet.no HR.out rfl, Q.refl _⟩
  · obtain ⟨i0, hi⟩ := inf_of info31
    have HI := hid hi
    have HY : Hid (∀ L n, scanF s.data.toList 0 [] = (some L, n) → scanL s.data.toList = (some (L ++ [⟨7, [], s.size⟩]), 0)) := hid (fun L n h => by rw [scanL_yes (by simpa using hlong) h]; simp)
    have HN : Hid (∀ n, scanF s.data.toList 0 [] = (none, n) → scanL s.data.toList = (none, n)) := hid (fun n h => scanL_no (by simpa using hlong) h)
    obtain ⟨R, hR⟩ : ∃ R, scanF s.data.toList 0 [] = R := ⟨_, rfl⟩
    rw [hR] at HY HN
    have HR := hid hR
    have HW := hid hw
    generalize scanL s.data.toList = o at HY HN ⊢
    have HP0 := hid (pass_any s 0 w (Nat.zero_le _) (by omega))
    have hb0 := blk_le s.data.toList
    rw [len_data] at hb0
    have HR0 := hR
    rw [scanF_blk] at HR0
    rw [List.drop_zero, Nat.zero_add] at HP0
    rw [Nat.zero_add] at HR0
    have hd0 := head_blk s.data.toList
    rw [len_data] at hd0
    generalize blk s.data.toList = b0 at HP0 hb0 HR0 hd0
    have HR0 := hid HR0
    have HD0 := hid hd0
    clear hR hi hw hd0
    go_enter Tryz.func107, Tryz.ntmps107
    go_wp2_with (go_at_call 140; refine HP0.out.mono ?_; rintro e w1 ⟨rfl, h1⟩; replace h1 := h1.symm; subst h1)
    go_loopw [5, 6] (fun v x W => ∃ (k : Nat) (L : List Wd), k ≤ s.size ∧ x = .int .i64 (k : Int) ∧ L.length ≤ k ∧ Own wd 141 3 w.heap.size W v L ∧ Q w W ∧ Hid (scanF (s.data.toList.drop k) k L = R) ∧ Hid (k < s.size → (s.data.toList.drop k).headD 0 ≠ 32)) (fun _ x _ => s.size - (intOf x).toNat)
    case atStart => exact ⟨b0, [], hb0, rfl, by simp, own_nil w, Q.refl _, HR0, HD0⟩
    case round =>
      obtain ⟨k, L, hk, rfl, hL, hO, hQ, hr, hh⟩ := hrel
      have HO := hid hO
      have HQ := hid hQ
      clear hO hQ
      by_cases hlt : k < s.size
      · obtain ⟨T, eT, lT, zT⟩ := drop_letters s k
        have HF := hid (first_any T wr (HW.out.on HQ.out) (by omega) (by omega))
        have hne := drop_head s k hlt
        have h32 := hh.out hlt
        have hwl := word_len (s.data.toList.drop k)
        rw [List.length_drop, len_data] at hwl
        rw [lT] at HF
        have hr2 := hr.out
        have hbad := fun h => scanF_bad k L hne h32 h
        have hword := fun h => scanF_word k L hne h32 h
        rw [hr2] at hbad hword
        generalize wordF (s.data.toList.drop k) = q at HF hbad hword hwl
        obtain ⟨a, l, n⟩ := q
        simp only at hbad hword hwl
        unfold wv at HF
        simp only at HF
        clear hr2 hne h32 hr hh lT
        by_cases hn : n = 0
        · subst hn
          have HB := hid (HN.out k (hbad rfl))
          clear hbad hword
          go_wp2_with (go_at_call 141; refine HF.out.mono ?_; rintro e w1 ⟨rfl, q1⟩; have Q1 := hid q1; clear q1)
          go_ret3
          exact ⟨ScanRet.no HB.out rfl, HQ.out.trans Q1.out⟩
        · have hn' : ((n : Int) == 0) = false := by rw [beq_eq_false_iff_ne]; omega
          have hw2 := hword hn
          rw [List.drop_drop, scanF_blk, List.drop_drop] at hw2
          have HP := hid (fun W => pass_any s (k + n) W (by omega) (by omega))
          have hb := blk_le (s.data.toList.drop (k + n))
          rw [List.length_drop, len_data] at hb
          have hd2 := head_blk (s.data.toList.drop (k + n))
          rw [List.length_drop, len_data, List.drop_drop] at hd2
          generalize blk (s.data.toList.drop (k + n)) = bb at HP hb hw2 hd2
          have HW2 := hid hw2.symm
          have HD2 : Hid (k + n + bb < s.size → (s.data.toList.drop (k + n + bb)).headD 0 ≠ 32) := hid (fun h => hd2 (by omega))
          have HP2 : Hid (∀ W, Calls Tryz.prog 140 #[.string s, .int .i64 ((k : Int) + (n : Int))] W fun e w' => e = .returned (.int .i64 ((k + n + bb : Nat) : Int)) ∧ w' = W) := HP
          clear hbad hword hw2 HP hd2
          go_wp2_with (first | (go_at_call 141; refine HF.out.mono ?_; rintro e w1 ⟨rfl, q1⟩; have HO1 := hid (HO.out.on q1); have HQ1 := hid (HQ.out.trans q1); clear q1) | (at_builtin; refine wpList_append_own _ rfl _ _ 134 rfl w.heap.size 141 i0 (.agg #[.int .i64 0, .string ⟨#[]⟩, .int .i64 0]) 3 32 Tryz.underlying134 HI.out.1 HI.out.2.1 HI.out.2.2.1 HI.out.2.2.2 rfl (by decide) _ _ _ rfl (HO1.out.alloc _) _ 1 1 [.int .i64 (a : Int), .string ⟨l.toArray⟩, .int .i64 (k : Int)] rfl rfl (news_at _ [.int .i64 (a : Int), .string ⟨l.toArray⟩, .int .i64 (k : Int)] 141 _ (by simp)) (wd_one ⟨a, l, k⟩) (by unfold maxLen; omega) (by omega) (by have := HQ1.out.size; simp; omega) ?_))
          intro v3 w3 hown' hgrow _
          have HO3 := hid (own_snoc' (enc := wd) (x := ⟨a, l, k⟩) hown' rfl)
          have HQ3 : Hid (Q w w3) := Below.grown (HQ1.out.alloc _) hgrow (by have := HQ1.out.size; simp; omega) (HO1.out.blk)
          clear hown' hgrow HO1 HQ1 HO HQ
          go_wp2_with (go_at_call 140; refine (HP2.out _).mono ?_; rintro e w1 ⟨rfl, h1⟩; replace h1 := h1.symm; subst h1)
          go_roundw
          case rel => exact ⟨k + n + bb, _, by omega, rfl, by simp; omega, HO3.out, HQ3.out, HW2, HD2⟩
          case measure => simp [intOf]; omega
      · have hr2 := hr.out
        rw [List.drop_of_length_le (by simp; omega), scanF_nil] at hr2
        have HB := hid (HY.out L 0 hr2.symm)
        clear hr2 hr hh
        go_wp2_with (at_builtin; refine wpList_append_own _ rfl _ _ 134 rfl w.heap.size 141 i0 (.agg #[.int .i64 0, .string ⟨#[]⟩, .int .i64 0]) 3 32 Tryz.underlying134 HI.out.1 HI.out.2.1 HI.out.2.2.1 HI.out.2.2.2 rfl (by decide) _ _ _ rfl (HO.out.alloc _) _ 1 1 [.int .i64 7, .string ⟨#[]⟩, .int .i64 (s.size : Int)] rfl rfl (news_at _ [.int .i64 7, .string ⟨#[]⟩, .int .i64 (s.size : Int)] 141 _ (by simp)) (wd_one ⟨7, [], s.size⟩) (by unfold maxLen; omega) (by omega) (by have := HQ.out.size; simp; omega) ?_)
        intro v3 w3 hown' hgrow _
        have HO3 := hid (own_snoc' (enc := wd) (x := ⟨7, [], s.size⟩) hown' rfl)
        have HQ3 : Hid (Q w w3) := Below.grown (HQ.out.alloc _) hgrow (by have := HQ.out.size; simp; omega) (HO.out.blk)
        clear hown' hgrow HO HQ
        go_wp2_with fail
        go_ret3
        exact ⟨ScanRet.yes HB.out (HO3.out.sl wd_len (by decide)), HQ3.out⟩
structure WdOk (x : Wd) : Prop where
  k1 : 1 ≤ x.k
  k6 : x.k ≤ 6
  len : x.t.length ≤ 1000
  num : x.k = 1 → EE.nok x.t = true
  ref : x.k = 3 → EE.rok x.t = true
  err : x.k = 5 → EE.err x.t ≠ 0
  nam : x.k = 4 → x.t = truW ∨ x.t = flsW ∨ EE.nam x.t = decide (x.t.length ≤ 20)
theorem wdok_plain {k : Nat} {t : List UInt8} {a : Nat} (h : k = 2 ∨ k = 6) (hl : t.length ≤ 1000) : WdOk ⟨k, t, a⟩ :=
  ⟨by simp only; omega, by simp only; omega, hl, fun e => by simp only at e; omega, fun e => by simp only at e; omega, fun e => by simp only at e; omega, fun e => by simp only at e; omega⟩
theorem mtB_len {t : List UInt8} (h : V.mtB t = true) : t.length ≤ 1000 := by
  unfold V.mtB at h
  simp only [Bool.and_eq_true, decide_eq_true_eq] at h
  have := h.1
  omega
theorem errN_enL {e : Int} (h : e ∈ ([1, 2, 3, 4, 5, 6, 7] : List Int)) : errN (enL e) ≠ 0 ∧ (enL e).length ≤ 1000 := by
  simp only [List.mem_cons, List.mem_nil_iff, or_false] at h
  rcases h with rfl | rfl | rfl | rfl | rfl | rfl | rfl <;> decide
theorem wordF_ok {l : List UInt8} (h : (wordF l).2.2 ≠ 0) (hl : l.length ≤ 1000) (a : Nat) : WdOk ⟨(wordF l).1, (wordF l).2.1, a⟩ := by
  by_cases h34 : l.headD 0 = 34
  · have e : wordF l = quoW l := by unfold wordF; rw [if_pos h34]
    rw [e] at h ⊢
    unfold quoW at h ⊢
    cases hq : quoF (l.drop 1) [] 1 with
    | none => rw [hq] at h; exact absurd rfl h
    | some r =>
      obtain ⟨t, n⟩ := r
      rw [hq] at h
      unfold quoP at h ⊢
      simp only at h ⊢
      by_cases hm : V.mtB t = true
      · rw [if_pos hm]
        exact wdok_plain (.inl rfl) (mtB_len hm)
      · rw [if_neg hm] at h; exact absurd rfl h
  · by_cases h35 : l.headD 0 = 35
    · have e : wordF l = errW l := by unfold wordF; rw [if_neg h34, if_pos h35]
      rw [e] at h ⊢
      unfold errW at h ⊢
      cases hq : errF l with
      | none => rw [hq] at h; exact absurd rfl h
      | some e =>
        unfold errP
        have hm : e ∈ ([1, 2, 3, 4, 5, 6, 7] : List Int) := List.mem_of_find?_eq_some hq
        obtain ⟨g1, g2⟩ := errN_enL hm
        exact ⟨by simp, by simp, g2, fun e => by simp at e, fun e => by simp at e, fun _ => g1, fun e => by simp at e⟩
    · by_cases hj : joinB (l.headD 0) = true
      · have e : wordF l = joinW l := by unfold wordF; rw [if_neg h34, if_neg h35, if_pos hj]
        rw [e] at h ⊢
        unfold joinW at h ⊢
        split at h
        · exact absurd rfl h
        · rename_i hk
          rw [if_neg hk]
          have hlen : (l.takeWhile joinB).length ≤ 1000 := Nat.le_trans (List.takeWhile_prefix _).length_le hl
          have hne : 0 < (l.takeWhile joinB).length := by
            cases l with
            | nil => simp [joinB] at hj
            | cons c r =>
              simp only [List.headD_cons] at hj
              rw [List.takeWhile_cons, if_pos hj]
              simp
          generalize l.takeWhile joinB = t at hk hlen hne ⊢
          unfold kindJ at hk ⊢
          by_cases c1 : V.pf (V.parseO t) = true
          · rw [if_pos c1]
            exact ⟨by simp, by simp, hlen, fun _ => c1, fun e => by simp at e, fun e => by simp at e, fun e => by simp at e⟩
          · rw [if_neg c1] at hk ⊢
            by_cases c3 : refF t = true
            · rw [if_pos c3]
              exact ⟨by simp, by simp, hlen, fun e => by simp at e, fun _ => c3, fun e => by simp at e, fun e => by simp at e⟩
            · rw [if_neg c3] at hk ⊢
              by_cases c4 : t = tru ∨ t = fls ∨ (Lib.hasPrefix (l.dropWhile joinB) [40] = true ∧ allL t = true)
              · rw [if_pos c4]
                refine ⟨by simp, by simp, hlen, fun e => by simp at e, fun e => by simp at e, fun e => by simp at e, fun _ => ?_⟩
                rcases c4 with e | e | ⟨_, e⟩
                · exact .inl e
                · exact .inr (.inl e)
                · by_cases ht : t = truW ∨ t = flsW
                  · rcases ht with e' | e'
                    · exact .inl e'
                    · exact .inr (.inl e')
                  · refine .inr (.inr ?_)
                    show namF t = _
                    unfold namF
                    rw [decide_eq_true hne, decide_eq_true ht, show t.all let1 = true from e]
                    simp
              · rw [if_neg c4] at hk
                exact absurd rfl hk
      · have e : wordF l = sigW l := by unfold wordF; rw [if_neg h34, if_neg h35, if_neg hj]
        rw [e] at h ⊢
        unfold sigW at h ⊢
        cases hq : sigF l with
        | none => rw [hq] at h; exact absurd rfl h
        | some t =>
          unfold sigP
          have hm : t ∈ sgL := List.mem_of_find?_eq_some hq
          refine wdok_plain (.inr rfl) ?_
          have : ∀ t ∈ sgL, t.length ≤ 1000 := by decide
          exact this t hm
theorem scanG_ok : ∀ (f : Nat) (l : List UInt8) (a : Nat) (acc L : List Wd) (n : Nat), l.length ≤ 1000 → (∀ x ∈ acc, WdOk x) → scanG f l a acc = (some L, n) → (∀ x ∈ L, WdOk x) ∧ L.length ≤ acc.length + l.length := by
  intro f
  induction f with
  | zero =>
    intro l a acc L n hl hacc h
    unfold scanG at h
    cases h
    exact ⟨hacc, by omega⟩
  | succ f ih =>
    intro l a acc L n hl hacc h
    cases l with
    | nil => unfold scanG at h; cases h; exact ⟨hacc, by simp⟩
    | cons c r =>
      unfold scanG at h
      split at h
      · obtain ⟨h1, h2⟩ := ih _ _ _ _ _ (by simp at hl; omega) hacc h
        exact ⟨h1, by simp; omega⟩
      · split at h
        · cases h
        · rename_i hn
          have hlen : ((c :: r).drop (wordF (c :: r)).2.2).length + 1 ≤ (c :: r).length := by rw [List.length_drop]; simp; omega
          have hacc' : ∀ x ∈ acc ++ [(⟨(wordF (c :: r)).1, (wordF (c :: r)).2.1, a⟩ : Wd)], WdOk x := by
            intro x hx
            rw [List.mem_append] at hx
            rcases hx with hx | hx
            · exact hacc x hx
            · simp only [List.mem_singleton] at hx
              subst hx
              exact wordF_ok hn hl a
          obtain ⟨h1, h2⟩ := ih _ _ _ _ _ (by omega) hacc' h
          refine ⟨h1, ?_⟩
          rw [List.length_append] at h2
          simp only [List.length_singleton] at h2
          omega
theorem scan_good {l : List UInt8} {L : List Wd} {n : Nat} (h : scanL l = (some L, n)) : 0 < L.length ∧ L.length ≤ 50000 ∧ Ends L ∧ Good EE L ∧ (∀ i, i < L.length → 1 ≤ kAt L i ∧ kAt L i ≤ 7) ∧ (∀ i, (tAt L i).length ≤ 1000) := by
  unfold scanL at h
  split at h
  · cases h
  · rename_i hlen
    split at h
    · rename_i Ls n' hs
      cases h
      obtain ⟨hok, hll⟩ := scanG_ok _ _ _ _ _ _ (by omega) (fun x hx => by cases hx) hs
      simp only [List.length_nil, Nat.zero_add] at hll
      have hat : ∀ i, i < Ls.length → ∃ x, WdOk x ∧ kAt (Ls ++ [⟨7, [], l.length⟩]) i = x.k ∧ tAt (Ls ++ [⟨7, [], l.length⟩]) i = x.t := by
        intro i hi
        refine ⟨Ls[i], hok _ (List.getElem_mem hi), ?_, ?_⟩
        · unfold kAt; rw [List.getD_eq_getElem?_getD, List.getElem?_append_left hi, List.getElem?_eq_getElem hi]; rfl
        · unfold tAt; rw [List.getD_eq_getElem?_getD, List.getElem?_append_left hi, List.getElem?_eq_getElem hi]; rfl
      have hend : ∀ i, Ls.length ≤ i → kAt (Ls ++ [⟨7, [], l.length⟩]) i = 7 ∧ tAt (Ls ++ [⟨7, [], l.length⟩]) i = [] := by
        intro i hi
        unfold kAt tAt
        rw [List.getD_eq_getElem?_getD, List.getElem?_append_right hi]
        rcases Nat.eq_zero_or_pos (i - Ls.length) with e | e
        · rw [e]; exact ⟨rfl, rfl⟩
        · rw [List.getElem?_eq_none (by simp; omega)]; exact ⟨rfl, rfl⟩
      have hL : (Ls ++ [(⟨7, [], l.length⟩ : Wd)]).length = Ls.length + 1 := by simp
      have low : ∀ i, kAt (Ls ++ [⟨7, [], l.length⟩]) i ≠ 7 → i < Ls.length := by
        intro i hk
        rcases Nat.lt_or_ge i Ls.length with h' | h'
        · exact h'
        · exact absurd (hend i h').1 hk
      refine ⟨by rw [hL]; omega, by rw [hL]; omega, fun i hi hk => by have := low i hk; omega, ⟨fun i _ hk => ?_, fun i _ hk => ?_, fun i _ hk => ?_, fun i _ hk => ?_⟩, fun i _ => ?_, fun i => ?_⟩
      · obtain ⟨x, hx, e1, e2⟩ := hat i (low i (by omega))
        rw [e2]; exact hx.num (by omega)
      · obtain ⟨x, hx, e1, e2⟩ := hat i (low i (by omega))
        rw [e2]; exact hx.ref (by omega)
      · obtain ⟨x, hx, e1, e2⟩ := hat i (low i (by omega))
        rw [e2]; exact hx.err (by omega)
      · obtain ⟨x, hx, e1, e2⟩ := hat i (low i (by omega))
        rw [e2]; exact hx.nam (by omega)
      · rcases Nat.lt_or_ge i Ls.length with h' | h'
        · obtain ⟨x, hx, e1, e2⟩ := hat i h'
          have := hx.k1
          have := hx.k6
          omega
        · have := (hend i h').1
          omega
      · rcases Nat.lt_or_ge i Ls.length with h' | h'
        · obtain ⟨x, hx, e1, e2⟩ := hat i h'
          rw [e2]; exact hx.len
        · rw [(hend i h').2]; simp
    · cases h
structure Sw (W : World) (L : List Wd) (v : Value) (b off cap : Nat) : Prop where
  ev : v = .slice (some ⟨b, off, none⟩) L.length cap
  le : L.length ≤ cap
  mx : cap ≤ maxLen
  k : ∀ i (h : i < L.length), W.cell? ⟨b, off + i * 3, none⟩ = some (.int .i64 (L[i].k : Int))
  t : ∀ i (h : i < L.length), W.cell? ⟨b, off + i * 3 + 1, none⟩ = some (.string ⟨L[i].t.toArray⟩)
  p : ∀ i (h : i < L.length), W.cell? ⟨b, off + i * 3 + 2, none⟩ = some (.int .i64 (L[i].p : Int))
theorem sw_of {W : World} {v : Value} {L : List Wd} (h : Sl wd 3 W v L) (hl : 0 < L.length) : ∃ b off cap, Sw W L v b off cap := by
  obtain ⟨ao, cap, hv, h1, h2, h⟩ := h
  obtain ⟨b, off, rfl, hc⟩ := h hl
  exact ⟨b, off, cap, hv, h1, h2, fun i hi => hc i hi 0 _ rfl, fun i hi => hc i hi 1 _ rfl, fun i hi => hc i hi 2 _ rfl⟩
theorem ScanRet.some {L : List Wd} {n : Nat} {e : Ending} {W : World} (h : ScanRet (some L, n) e W) : ∃ v, e = .returned (.tuple #[v, .int .i64 0, .bool true]) ∧ Sl wd 3 W v L := h
theorem ScanRet.none {n : Nat} {e : Ending} {W : World} (h : ScanRet (none, n) e W) : e = .returned (.tuple #[.slice none 0 0, .int .i64 (n : Int), .bool false]) := h
set_option maxHeartbeats 1000000 in
theorem short_any (s : ByteArray) (n : Int) (w : World) (n0 : 0 ≤ n) (n1 : n ≤ 2000) :
    Calls Tryz.prog 15 #[.string s, .int .i64 n] w fun e w' => e = .returned (.string (if n < (s.size : Int) then s.extract 0 n.toNat else s)) ∧ w' = w := by
  by_cases h : n < (s.size : Int)
  · have HE := hid (if_pos h : (if n < (s.size : Int) then s.extract 0 n.toNat else s) = _)
    go_enter Tryz.func15, Tryz.ntmps15
    go_wp2
    go_ret
    exact ⟨ret_str rfl, rfl⟩
  · have HE := hid (if_neg h : (if n < (s.size : Int) then s.extract 0 n.toNat else s) = _)
    go_enter Tryz.func15, Tryz.ntmps15
    go_wp2
    go_ret
    exact ⟨ret_str rfl, rfl⟩
end Go.Proofs.YtgheopdadfnilaaGreatDoor
