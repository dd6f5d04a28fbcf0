/- show.writeSide, walked; What is parsed, plainly, as a relation; what is parsed may be; what is printed is parsed as itself; show.writeTree of a minus sign, walk. -/
import Derived.Test.YtgheopdadfnilaaGreatDoorKr44
import Derived.Test.YtgheopdadfnilaaGreatDoorKr22
import Derived.Lib.Walk
import Derived.Lib.ItoaMem
import Derived.BigCall
import Derived.BigGuard
import Derived.Shelf.Strings.Builder1
import Derived.Shelf.Strings.Builder2
import Derived.Shelf.Strings.Trim
import Derived.Shelf.Small.Utf8
import Derived.Shelf.Small.Strs
import Derived.Shelf.Small.Wraps
import Derived.Shelf.Strconv.Itoa0
import Derived.Shelf.Strconv.Itoa1
import Derived.Shelf.LaysM
import Derived.Shelf.Strconv.Itoa2
import Derived.Shelf.Strconv.Itoa3
import Derived.Shelf.Strconv.Itoa4
import Derived.Shelf.Strconv.Clone
import Derived.Shelf.Strings.Search1
import Derived.Shelf.Strings.Search2
import Derived.Shelf.Strings.Search3
import Derived.Shelf.Strings.Cut
import Derived.Shelf.Strings.Count
import Derived.Shelf.Strings.Shaped
import Derived.Shelf.Strings.Prefix
import Derived.Shelf.Strings.Split
import Derived.Shelf.Strings.Replace
import Derived.Shelf.Strings.Runes
import Derived.Shelf.Strings.AsciiSet
import Derived.Shelf.Unicode.DecodeSlow
import Derived.Shelf.Unicode.DecodeAny
import Derived.Test.YtgheopdadfnilaaGreatDoorProg
import Derived.Test.YtgheopdadfnilaaGreatDoorKr00
import Derived.Test.YtgheopdadfnilaaGreatDoorKr06
import Derived.Lib.Replace
import Derived.Test.YtgheopdadfnilaaGreatDoorKr29
import Derived.Test.YtgheopdadfnilaaGreatDoorKr17
import Derived.Test.YtgheopdadfnilaaGreatDoorKr16
import Derived.Test.YtgheopdadfnilaaGreatDoorKr18
import Derived.Deep.RegionHeld3
import Derived.Test.YtgheopdadfnilaaGreatDoorKr24
import Derived.Test.YtgheopdadfnilaaGreatDoorKr03
import Derived.Laws.StructEq
set_option linter.unusedVariables false
set_option linter.unusedSimpArgs false
set_option maxRecDepth 100000
namespace Go.Proofs.YtgheopdadfnilaaGreatDoor
open Go.RowKit
def brk (br : Bool) (T : List UInt8) : List UInt8 := if br then 40 :: (T ++ [41]) else T
set_option maxHeartbeats 4000000 in
theorem side_any (x : Ex) (T : List UInt8) (hx : Wri x T) (W0 W : World) (b : Nat) (bs : List UInt8) (v : Value) (br : Bool) (hg : Gd W0) (hb : Bd W0 W b bs) (hr : Rd W0 x v) (hl : bs.length + (brk br T).length ≤ 100000) : Calls Tryz.prog 61 #[.pointer (some ⟨b, 0, none⟩), v, .bool br] W fun e W' => (∃ u, e = .returned u) ∧ Bd W0 W' b (bs ++ brk br T) ∧ Kp W W' := by
  have HX := hid (fun W' bs' (h : Bd W0 W' b bs') (hl' : bs'.length + T.length ≤ 100000) => hx W0 W' b bs' v hg h hr hl')
  obtain ⟨k, m, t, bb, er, a1, l1, c1, a2, l2, c2, rfl⟩ := hr.shape
  have HB := hid hb
  clear hr hg hb
  cases br with
  | false =>
    rw [show brk false T = T from rfl] at hl ⊢
    go_enter Tryz.func61, Tryz.ntmps61
    go_upto_region 1 with fail
    have H1 := hid (heap_alloc_new W (.cells #[.int .i64 k, .int .i64 m, .string t, .bool bb, .int .i64 er, .slice a1 l1 c1, .slice a2 l2 c2] 26))
    have B1 := hid (HB.out.on ((Q.refl W).alloc (.cells #[.int .i64 k, .int .i64 m, .string t, .bool bb, .int .i64 er, .slice a1 l1 c1, .slice a2 l2 c2] 26)))
    have K1 := hid (Kp.of ((Q.refl W).alloc (.cells #[.int .i64 k, .int .i64 m, .string t, .bool bb, .int .i64 er, .slice a1 l1 c1, .slice a2 l2 c2] 26)))
    generalize W.alloc (.cells #[.int .i64 k, .int .i64 m, .string t, .bool bb, .int .i64 er, .slice a1 l1 c1, .slice a2 l2 c2] 26) = W1 at H1 B1 K1 ⊢
    generalize W.heap.size = b1 at H1 ⊢
    have Z1 := hid (cb_heap (cs := [.int .i64 k, .int .i64 m, .string t, .bool bb, .int .i64 er, .slice a1 l1 c1, .slice a2 l2 c2]) H1.out)
    have d0 := Z1.out.c 0 _ rfl
    have d1 := Z1.out.c 1 _ rfl
    have d2 := Z1.out.c 2 _ rfl
    have d3 := Z1.out.c 3 _ rfl
    have d4 := Z1.out.c 4 _ rfl
    have d5 := Z1.out.c 5 _ rfl
    have d6 := Z1.out.c 6 _ rfl
    go_wp2_with (go_at_call 28; refine (HX.out _ _ B1.out (by omega)).mono ?_; rintro e9 w4 ⟨⟨u, rfl⟩, b4, k4⟩; have B4 := hid b4; have K4 := hid (K1.out.trans k4); clear b4 k4)
    refine bodyPost_ret (v := .tuple #[]) (by simp [results, Tryz.results61, go_sem]) rfl ?_
    exact ⟨⟨_, rfl⟩, B4.out, K4.out⟩
  | true =>
    have hl2 : bs.length + T.length + 2 ≤ 100000 := by
      unfold brk at hl
      simp at hl
      omega
    have HBE : Hid (((bs ++ [40]) ++ T) ++ [41] = bs ++ brk true T) := by show _ = _; unfold brk; simp
    rw [← HBE.out]
    clear HBE
    go_enter Tryz.func61, Tryz.ntmps61
    go_upto_region 1 with fail
    have H1 := hid (heap_alloc_new W (.cells #[.int .i64 k, .int .i64 m, .string t, .bool bb, .int .i64 er, .slice a1 l1 c1, .slice a2 l2 c2] 26))
    have B1 := hid (HB.out.on ((Q.refl W).alloc (.cells #[.int .i64 k, .int .i64 m, .string t, .bool bb, .int .i64 er, .slice a1 l1 c1, .slice a2 l2 c2] 26)))
    have K1 := hid (Kp.of ((Q.refl W).alloc (.cells #[.int .i64 k, .int .i64 m, .string t, .bool bb, .int .i64 er, .slice a1 l1 c1, .slice a2 l2 c2] 26)))
    generalize W.alloc (.cells #[.int .i64 k, .int .i64 m, .string t, .bool bb, .int .i64 er, .slice a1 l1 c1, .slice a2 l2 c2] 26) = W1 at H1 B1 K1 ⊢
    generalize W.heap.size = b1 at H1 ⊢
    have Z1 := hid (cb_heap (cs := [.int .i64 k, .int .i64 m, .string t, .bool bb, .int .i64 er, .slice a1 l1 c1, .slice a2 l2 c2]) H1.out)
    have d0 := Z1.out.c 0 _ rfl
    have d1 := Z1.out.c 1 _ rfl
    have d2 := Z1.out.c 2 _ rfl
    have d3 := Z1.out.c 3 _ rfl
    have d4 := Z1.out.c 4 _ rfl
    have d5 := Z1.out.c 5 _ rfl
    have d6 := Z1.out.c 6 _ rfl
    go_wp2_with (first | (go_at_call 28; refine (HX.out _ _ B2.out (by rw [List.length_append]; simp only [List.length_cons, List.length_nil]; omega)).mono ?_; rintro e9 w3 ⟨⟨u, rfl⟩, b3, k3⟩; have B3 := hid b3; have K3 := hid (K2.out.trans k3); clear b3 k3) | (go_at_call 58; refine (bd_write B3.out ⟨#[41]⟩ (by decide) (by show _ + 1 ≤ 1000000; simp only [List.length_append, List.length_cons, List.length_nil]; omega)).mono ?_; rintro e9 w4 ⟨⟨u, rfl⟩, b4, k4⟩; have B4 := hid b4; have K4 := hid (K3.out.trans k4); clear b4 k4) | (go_at_call 58; refine (bd_write B1.out ⟨#[40]⟩ (by decide) (by show bs.length + 1 ≤ 1000000; omega)).mono ?_; rintro e9 w2 ⟨⟨u, rfl⟩, b2, k2⟩; have B2 := hid b2; have K2 := hid (K1.out.trans k2); have Z2 := hid (cb_heap (cs := [.int .i64 k, .int .i64 m, .string t, .bool bb, .int .i64 er, .slice a1 l1 c1, .slice a2 l2 c2]) ((k2 _ _ _ H1.out).trans H1.out)); clear b2 k2; have x0 := Z2.out.c 0 _ rfl; have x1 := Z2.out.c 1 _ rfl; have x2 := Z2.out.c 2 _ rfl; have x3 := Z2.out.c 3 _ rfl; have x4 := Z2.out.c 4 _ rfl; have x5 := Z2.out.c 5 _ rfl; have x6 := Z2.out.c 6 _ rfl))
    go_end0
    exact ⟨⟨_, rfl⟩, B4.out, K4.out⟩
def PzR (l : List UInt8) (r : Ex × Nat) : Prop :=
  (∃ n, scanL l = (none, n) ∧ r = (zeroE, 2)) ∨ ∃ L n f o, scanL l = (some L, n) ∧ ptF EE L f 1 0 = some o ∧ r = finR L o
theorem pz_total (l : List UInt8) : ∃ r, PzR l r := by
  cases hsc : scanL l with
  | mk ol n =>
    cases ol with
    | none => exact ⟨(zeroE, 2), .inl ⟨n, hsc, rfl⟩⟩
    | some L =>
      obtain ⟨hpos, hr, hE, hG, hK, hz⟩ := scan_good hsc
      obtain ⟨f, r, hf⟩ := total_ref EE L hE L.length ⟨0, false, 0⟩ (by simp) hpos 1 (by omega) (by omega)
      obtain ⟨g, o, hg, hag⟩ := (same_all EE L hE hG f).1 1 ⟨0, false, 0⟩ r (by omega) (by omega) hpos rfl hf
      exact ⟨finR L o, .inr ⟨L, n, g, o, hsc, hg, rfl⟩⟩
theorem pz_prog {s : ByteArray} {r : Ex × Nat} (h : PzR s.data.toList r) (hs : s.size ≤ 100000) (W : World) (hw : Std W) : Calls Tryz.prog 76 #[.string s] W fun e W' => RepR W r e W' := by
  rcases h with ⟨n, h1, rfl⟩ | ⟨L, n, f, o, h1, h2, rfl⟩
  · exact pparse_scan s W hw hs n h1
  · exact pparse_any s W hw hs L n f o h1 h2
theorem rd_kt {W : World} {x : Ex} {k m : Int} {t : ByteArray} {b : Bool} {e : Int} {rv kv : Value} (h : Rd W x (.agg #[.int .i64 k, .int .i64 m, .string t, .bool b, .int .i64 e, rv, kv])) : x.k = k ∧ x.t = t.data.toList := by
  obtain ⟨k9, n9, t9, b9, e9, rs, ks, rv', kv', ao, cap, hv, hp⟩ := h.prt
  simp at hv
  obtain ⟨rfl, rfl, rfl, _⟩ := hv
  rw [hp.ex]
  exact ⟨rfl, rfl⟩
theorem brk_len (br : Bool) (T : List UInt8) : T.length ≤ (brk br T).length ∧ (brk br T).length ≤ T.length + 2 := by
  cases br
  · exact ⟨Nat.le_refl _, Nat.le_add_right _ _⟩
  · unfold brk; simp; omega
def Svt (W0 W1 V : World) : Prop := Kp W1 V ∧ Q W0 V
theorem Svt.q {W0 W1 V V' : World} (h : Svt W0 W1 V) (q : Q V V') : Svt W0 W1 V' := ⟨h.1.trans (Kp.of q), h.2.trans q⟩
theorem Svt.start {W0 W1 V : World} (h : Q W0 W1) (q : Q W1 V) : Svt W0 W1 V := ⟨Kp.of q, h.trans q⟩
theorem Svt.own {W0 W1 V : World} {b1 : Nat} {cs : List Value} (h : Svt W0 W1 V) (H1 : W1.heap[b1]? = some (.cells cs.toArray 26 (0, 0))) {j : Nat} {u : Value} (hu : cs[j]? = some u) : V.cell? ⟨b1, j, none⟩ = some u :=
  (cb_heap (cs := cs) ((h.1 _ _ _ H1).trans H1)).c j u hu
theorem Svt.old {W0 W1 V : World} {kb o : Nat} {u : Value} (h : Svt W0 W1 V) (hk : W0.cell? ⟨kb, o, none⟩ = some u) : V.cell? ⟨kb, o, none⟩ = some u :=
  (h.2.cell (World.block_lt_of_cell? W0 _ hk)).trans hk
set_option maxHeartbeats 16000000 in
theorem pr_bin (o : List UInt8) (a c : Ex) (Ta Tc : List UInt8) (ho : 0 < o.length) (ha : Wri a Ta) (hc : Wri c Tc) : Wri (binE o a c) (brk (decide (sgE a.k a.t < sgE 8 o)) Ta ++ o ++ brk (decide (sgE c.k c.t ≤ sgE 8 o)) Tc) := by
  intro W0 W b bs v hg hb hr hl
  obtain ⟨k, m, t, bb, er, rs, ks, rv', kv, ao, kc, rfl, hp⟩ := hr.prt
  have hx := hp.ex
  unfold binE at hx
  simp only [Ex.mk.injEq] at hx
  obtain ⟨rfl, rfl, ht, rfl, rfl, rfl, rfl⟩ := hx
  have hkl := hp.kl
  subst hkl
  obtain ⟨a1, c1, hrv, _, _⟩ := hp.rl.len
  subst hrv
  obtain ⟨kb, ko, rfl, hkl⟩ := hp.kd (by simp)
  obtain ⟨p0, p1, p2, p3, p4, p5, p6, hk0⟩ := hkl.kid 0 (by simp)
  obtain ⟨q0, q1, q2, q3, q4, q5, q6, hk1⟩ := hkl.kid 1 (by simp)
  obtain ⟨ak, am, at', ab, ae, aa1, al1, ac1, aa2, al2, ac2, hav⟩ := hk0.rd.shape
  obtain ⟨ck, cm, ct', cb, ce, ca1, cl1, cc1, ca2, cl2, cc2, hcv⟩ := hk1.rd.shape
  simp only [Value.agg.injEq, Array.mk.injEq, List.cons.injEq, and_true] at hav hcv
  obtain ⟨rfl, rfl, rfl, rfl, rfl, rfl, rfl⟩ := hav
  obtain ⟨rfl, rfl, rfl, rfl, rfl, rfl, rfl⟩ := hcv
  have hkta := rd_kt hk0.rd
  have hktc := rd_kt hk1.rd
  simp only [List.getElem_cons_zero, List.getElem_cons_succ] at hkta hktc
  have HKa := hid hk0
  have HKc := hid hk1
  simp only [Nat.zero_mul, Nat.add_zero, Nat.one_mul, List.getElem_cons_zero, List.getElem_cons_succ] at HKa HKc
  rw [hkta.1, hkta.2, hktc.1, hktc.2] at hl ⊢
  rw [ht] at hl ho ⊢
  obtain ⟨na, hna⟩ : ∃ na, sgE ak at'.data.toList = na := ⟨_, rfl⟩
  obtain ⟨nc, hnc⟩ : ∃ nc, sgE ck ct'.data.toList = nc := ⟨_, rfl⟩
  obtain ⟨ne, hne⟩ : ∃ ne, sgE 8 t.data.toList = ne := ⟨_, rfl⟩
  rw [hna, hnc, hne] at hl ⊢
  have h62a := hid (fun W' => strength8 ak am at' ab ae aa1 aa2 al1 ac1 al2 ac2 W')
  have h62c := hid (fun W' => strength8 ck cm ct' cb ce ca1 ca2 cl1 cc1 cl2 cc2 W')
  have h62e := hid (fun W' => strength8 8 0 t false 0 a1 (some ⟨kb, ko, none⟩) 0 c1 2 kc W')
  rw [hna] at h62a
  rw [hnc] at h62c
  rw [hne] at h62e
  have lA := brk_len (decide (na < ne)) Ta
  have lC := brk_len (decide (nc ≤ ne)) Tc
  simp only [List.length_append] at hl
  have hts : 0 < t.size := by rw [← len_data]; exact ho
  have htl : t.data.toList.length = t.size := len_data t
  obtain ⟨bra, hbra⟩ : ∃ x, decide (na < ne) = x := ⟨_, rfl⟩
  obtain ⟨brc, hbrc⟩ : ∃ x, decide (nc ≤ ne) = x := ⟨_, rfl⟩
  have eA : decide ((na : Int) < (ne : Int)) = bra := by rw [← hbra]; exact decide_eq_decide.2 (by omega)
  have eC : decide ((nc : Int) ≤ (ne : Int)) = brc := by rw [← hbrc]; exact decide_eq_decide.2 (by omega)
  rw [hbra, hbrc] at hl ⊢
  have HSa := hid (fun W' bs' (h : Bd W0 W' b bs') (hl' : bs'.length + (brk bra Ta).length ≤ 100000) => side_any a Ta ha W0 W' b bs' _ bra hg h HKa.out.rd hl')
  have HSc := hid (fun W' bs' (h : Bd W0 W' b bs') (hl' : bs'.length + (brk brc Tc).length ≤ 100000) => side_any c Tc hc W0 W' b bs' _ brc hg h HKc.out.rd hl')
  have HB := hid hb
  generalize brk bra Ta = TA at HSa hl ⊢
  generalize brk brc Tc = TC at HSc hl ⊢
  have HGL : Hid (((bs ++ TA) ++ t.data.toList) ++ TC = bs ++ (TA ++ t.data.toList ++ TC)) := by show _ = _; simp
  rw [← HGL.out]
  clear HGL lA lC hk0 hk1 hr hp hkl ho ha hc hg hb hna hnc hne hkta hktc ht
  go_enter Tryz.func28, Tryz.ntmps28
  go_upto_region 1 with fail
  have H1 := hid (heap_alloc_new W (.cells #[.int .i64 8, .int .i64 0, .string t, .bool false, .int .i64 0, .slice a1 0 c1, .slice (some ⟨kb, ko, none⟩) 2 kc] 26))
  have B1 := hid (HB.out.on ((Q.refl W).alloc (.cells #[.int .i64 8, .int .i64 0, .string t, .bool false, .int .i64 0, .slice a1 0 c1, .slice (some ⟨kb, ko, none⟩) 2 kc] 26)))
  have K1 := hid (Kp.of ((Q.refl W).alloc (.cells #[.int .i64 8, .int .i64 0, .string t, .bool false, .int .i64 0, .slice a1 0 c1, .slice (some ⟨kb, ko, none⟩) 2 kc] 26)))
  generalize W.alloc (.cells #[.int .i64 8, .int .i64 0, .string t, .bool false, .int .i64 0, .slice a1 0 c1, .slice (some ⟨kb, ko, none⟩) 2 kc] 26) = W1 at H1 B1 K1 ⊢
  generalize W.heap.size = b1 at H1 ⊢
  have s1 := hid (Svt.start (W0 := W0) (W1 := W1) B1.out.2 (Q.refl W1))
  have s10 := hid (Svt.start (W0 := W0) (W1 := W1) B1.out.2 (Q.refl W1).drew)
  have e0 : ∀ V, Svt W0 W1 V → V.cell? ⟨b1, 0, none⟩ = some (.int .i64 8) := fun V h => h.own (cs := [.int .i64 8, .int .i64 0, .string t, .bool false, .int .i64 0, .slice a1 0 c1, .slice (some ⟨kb, ko, none⟩) 2 kc]) H1.out rfl
  have e1 : ∀ V, Svt W0 W1 V → V.cell? ⟨b1, 1, none⟩ = some (.int .i64 0) := fun V h => h.own (cs := [.int .i64 8, .int .i64 0, .string t, .bool false, .int .i64 0, .slice a1 0 c1, .slice (some ⟨kb, ko, none⟩) 2 kc]) H1.out rfl
  have e2 : ∀ V, Svt W0 W1 V → V.cell? ⟨b1, 2, none⟩ = some (.string t) := fun V h => h.own (cs := [.int .i64 8, .int .i64 0, .string t, .bool false, .int .i64 0, .slice a1 0 c1, .slice (some ⟨kb, ko, none⟩) 2 kc]) H1.out rfl
  have e3 : ∀ V, Svt W0 W1 V → V.cell? ⟨b1, 3, none⟩ = some (.bool false) := fun V h => h.own (cs := [.int .i64 8, .int .i64 0, .string t, .bool false, .int .i64 0, .slice a1 0 c1, .slice (some ⟨kb, ko, none⟩) 2 kc]) H1.out rfl
  have e4 : ∀ V, Svt W0 W1 V → V.cell? ⟨b1, 4, none⟩ = some (.int .i64 0) := fun V h => h.own (cs := [.int .i64 8, .int .i64 0, .string t, .bool false, .int .i64 0, .slice a1 0 c1, .slice (some ⟨kb, ko, none⟩) 2 kc]) H1.out rfl
  have e5 : ∀ V, Svt W0 W1 V → V.cell? ⟨b1, 5, none⟩ = some (.slice a1 0 c1) := fun V h => h.own (cs := [.int .i64 8, .int .i64 0, .string t, .bool false, .int .i64 0, .slice a1 0 c1, .slice (some ⟨kb, ko, none⟩) 2 kc]) H1.out rfl
  have e6 : ∀ V, Svt W0 W1 V → V.cell? ⟨b1, 6, none⟩ = some (.slice (some ⟨kb, ko, none⟩) 2 kc) := fun V h => h.own (cs := [.int .i64 8, .int .i64 0, .string t, .bool false, .int .i64 0, .slice a1 0 c1, .slice (some ⟨kb, ko, none⟩) 2 kc]) H1.out rfl
  have f0 : ∀ V, Svt W0 W1 V → V.cell? ⟨kb, ko, none⟩ = some (.int .i64 ak) := fun V h => h.old HKa.out.g0
  have f1 : ∀ V, Svt W0 W1 V → V.cell? ⟨kb, ko + 1, none⟩ = some (.int .i64 am) := fun V h => h.old HKa.out.g1
  have f2 : ∀ V, Svt W0 W1 V → V.cell? ⟨kb, ko + 2, none⟩ = some (.string at') := fun V h => h.old HKa.out.g2
  have f3 : ∀ V, Svt W0 W1 V → V.cell? ⟨kb, ko + 3, none⟩ = some (.bool ab) := fun V h => h.old HKa.out.g3
  have f4 : ∀ V, Svt W0 W1 V → V.cell? ⟨kb, ko + 4, none⟩ = some (.int .i64 ae) := fun V h => h.old HKa.out.g4
  have f5 : ∀ V, Svt W0 W1 V → V.cell? ⟨kb, ko + 5, none⟩ = some (.slice aa1 al1 ac1) := fun V h => h.old HKa.out.g5
  have f6 : ∀ V, Svt W0 W1 V → V.cell? ⟨kb, ko + 6, none⟩ = some (.slice aa2 al2 ac2) := fun V h => h.old HKa.out.g6
  have g0 : ∀ V, Svt W0 W1 V → V.cell? ⟨kb, ko + 7, none⟩ = some (.int .i64 ck) := fun V h => h.old HKc.out.g0
  have g1 : ∀ V, Svt W0 W1 V → V.cell? ⟨kb, ko + 7 + 1, none⟩ = some (.int .i64 cm) := fun V h => h.old HKc.out.g1
  have g2 : ∀ V, Svt W0 W1 V → V.cell? ⟨kb, ko + 7 + 2, none⟩ = some (.string ct') := fun V h => h.old HKc.out.g2
  have g3 : ∀ V, Svt W0 W1 V → V.cell? ⟨kb, ko + 7 + 3, none⟩ = some (.bool cb) := fun V h => h.old HKc.out.g3
  have g4 : ∀ V, Svt W0 W1 V → V.cell? ⟨kb, ko + 7 + 4, none⟩ = some (.int .i64 ce) := fun V h => h.old HKc.out.g4
  have g5 : ∀ V, Svt W0 W1 V → V.cell? ⟨kb, ko + 7 + 5, none⟩ = some (.slice ca1 cl1 cc1) := fun V h => h.old HKc.out.g5
  have g6 : ∀ V, Svt W0 W1 V → V.cell? ⟨kb, ko + 7 + 6, none⟩ = some (.slice ca2 cl2 cc2) := fun V h => h.old HKc.out.g6
  have d0 := e0 W1 s1.out
  go_upto_region 13 with fail
  clear d0
  go_region_held3 (Svt W0 W1) (with_reducible (first | exact s10.out | exact s11.out | exact s12.out | exact s13.out)) (first | (go_at_call 61; refine (HSa.out w12 bs (B1.out.on q12.out) (by omega)).mono ?_; rintro e9 w13 ⟨⟨u3, rfl⟩, b13, k13⟩; have B13 := hid b13; have s13 : Hid (Svt W0 W1 w13) := hid ⟨(Kp.of q12.out).trans k13, b13.2⟩; clear b13 k13) | (go_at_call_of 62 t; refine (h62e.out w11).mono ?_; rintro e9 w12 ⟨rfl, q⟩; have q12 : Hid (Q W1 w12) := hid (q11.out.trans q); have s12 := hid (s11.out.q q); clear q) | (go_at_call_of 62 at'; refine (h62a.out W1.drew).mono ?_; rintro e9 w11 ⟨rfl, q⟩; have q11 : Hid (Q W1 w11) := hid ((Q.refl W1).drew.trans q); have s11 := hid (s10.out.q q); clear q))
  have d2 := e2 w13 s13.out
  go_upto_region 15 with (go_at_call 58; refine (bd_write B13.out t hts (by rw [List.length_append]; omega)).mono ?_; rintro e9 w2 ⟨⟨u, rfl⟩, b2, k2⟩; have B2 := hid b2; have s2 : Hid (Svt W0 W1 w2) := hid ⟨s13.out.1.trans k2, b2.2⟩; have s20 := hid (s2.out.q (Q.refl w2).drew); clear b2 k2)
  clear d2 f0 f1 f2 f3 f4 f5 f6
  go_region_held3 (Svt W0 W1) (with_reducible (first | exact s20.out | exact s21.out | exact s22.out | exact s23.out)) (first | (go_at_call 61; refine (HSc.out w22 _ (B2.out.on q22.out) (by rw [List.length_append, List.length_append]; omega)).mono ?_; rintro e9 w23 ⟨⟨u4, rfl⟩, b23, k23⟩; have B23 := hid b23; have s23 : Hid (Svt W0 W1 w23) := hid ⟨s22.out.1.trans k23, b23.2⟩; clear b23 k23) | (go_at_call_of 62 t; refine (h62e.out w21).mono ?_; rintro e9 w22 ⟨rfl, q⟩; have q22 : Hid (Q w2 w22) := hid (q21.out.trans q); have s22 := hid (s21.out.q q); clear q) | (go_at_call_of 62 ct'; refine (h62c.out w2.drew).mono ?_; rintro e9 w21 ⟨rfl, q⟩; have q21 : Hid (Q w2 w21) := hid ((Q.refl w2).drew.trans q); have s21 := hid (s20.out.q q); clear q))
  go_wp2_with fail
  go_end0
  exact ⟨⟨_, rfl⟩, B23.out, K1.out.trans s23.out.1⟩
set_option maxHeartbeats 2000000 in
theorem veq_same (k n : Int) (t : ByteArray) (b : Bool) (e : Int) (w : World) : Calls Tryz.prog 51 #[vx k n t b e, vx k n t b e] w fun x w' => x = .returned (.bool true) ∧ Q w w' := by
  unfold vx
  have e0 : (k == k) = true := by simp
  have e1 : (n == n) = true := by simp
  have e2 : (t.toList == t.toList) = true := by simp
  have e3 : (b == b) = true := by simp
  have e4 : (e == e) = true := by simp
  go_enter Tryz.func51, Tryz.ntmps51
  go_wp2_with fail
  go_ret
  exact ⟨rfl, ((Q.refl _).alloc _).alloc _⟩
set_option maxHeartbeats 2000000 in
theorem veq_kind (k n : Int) (t : ByteArray) (b : Bool) (e : Int) (k' n' : Int) (t' : ByteArray) (b' : Bool) (e' : Int) (w : World) (h : k ≠ k') : Calls Tryz.prog 51 #[vx k n t b e, vx k' n' t' b' e'] w fun x w' => x = .returned (.bool false) ∧ Q w w' := by
  unfold vx
  have e0 : (k == k') = false := by simpa using h
  clear h
  go_enter Tryz.func51, Tryz.ntmps51
  go_wp2_with fail
  go_ret
  exact ⟨rfl, ((Q.refl _).alloc _).alloc _⟩
theorem toL' (s : ByteArray) : s.toList = s.data.toList := Lib.toList_data s
def eqRf : List Rf → List Rf → Bool
  | [], [] => true
  | x :: l, y :: l' => decide (x = y) && eqRf l l'
  | [], _ :: _ => false
  | _ :: _, [] => false
theorem eqRf_iff : ∀ {l l' : List Rf}, eqRf l l' = true ↔ l = l'
  | [], [] => by simp [eqRf]
  | [], _ :: _ => by simp [eqRf]
  | _ :: _, [] => by simp [eqRf]
  | x :: l, y :: l' => by
    simp only [eqRf, Bool.and_eq_true, decide_eq_true_eq, eqRf_iff, List.cons.injEq]
theorem eqRf_len {l l' : List Rf} (h : l.length ≠ l'.length) : eqRf l l' = false := by
  cases e : eqRf l l' with
  | false => rfl
  | true => exact absurd (congrArg List.length (eqRf_iff.1 e)) h
theorem eqRf_dec (l l' : List Rf) : eqRf l l' = decide (l = l') := by
  cases e : eqRf l l' with
  | false => exact (decide_eq_false (fun h => by rw [eqRf_iff.2 h] at e; cases e)).symm
  | true => exact (decide_eq_true (eqRf_iff.1 e)).symm
theorem neq59 (xs : List UInt8) (xr xc : Int) (xa xb : Bool) (ys : List UInt8) (yr yc : Int) (ya yb : Bool) (w : World) : Sem.run Tryz.prog (binOp .neq 63 (.agg #[.string ⟨xs.toArray⟩, .int .i64 xr, .int .i64 xc, .bool xa, .bool xb]) (.agg #[.string ⟨ys.toArray⟩, .int .i64 yr, .int .i64 yc, .bool ya, .bool yb])) w = .ok (.bool (!(decide (((xs, xr, xc, xa, xb) : Rf) = (ys, yr, yc, ya, yb))))) w := by
  have u2 := Tryz.underlying2
  have u4 := Tryz.underlying4
  have u9 := Tryz.underlying9
  have hS : Tryz.prog.underlying 63 = some (.struct (Tryz.prog.fieldsOf 63)) := by kernel_rfl
  have hp : Tryz.prog.stoodInHeld 63 = false := by kernel_rfl
  have hf : (Tryz.prog.fieldsOf 63).toList.map (fun f => (f.name == "_", f.type, f.offset)) = [(false, 9, 0), (false, 2, 1), (false, 2, 2), (false, 4, 3), (false, 4, 4)] := by kernel_rfl
  have q1 : ∀ a b c d e : Value, (part 9 #[a, b, c, d, e] 0).run Tryz.prog w = .ok a w := fun _ _ _ _ _ => by kernel_rfl
  have q2 : ∀ a b c d e : Value, (part 2 #[a, b, c, d, e] 1).run Tryz.prog w = .ok b w := fun _ _ _ _ _ => by kernel_rfl
  have q3 : ∀ a b c d e : Value, (part 2 #[a, b, c, d, e] 2).run Tryz.prog w = .ok c w := fun _ _ _ _ _ => by kernel_rfl
  have q4 : ∀ a b c d e : Value, (part 4 #[a, b, c, d, e] 3).run Tryz.prog w = .ok d w := fun _ _ _ _ _ => by kernel_rfl
  have q5 : ∀ a b c d e : Value, (part 4 #[a, b, c, d, e] 4).run Tryz.prog w = .ok e w := fun _ _ _ _ _ => by kernel_rfl
  have e1 : (Op.equalIn 9999 9 (.string ⟨xs.toArray⟩) (.string ⟨ys.toArray⟩)).run Tryz.prog w = .ok (xs == ys) w := by
    have := run_equalIn_string (P := Tryz.prog) w 9998 9 ⟨xs.toArray⟩ ⟨ys.toArray⟩ u9
    rw [toL', toL'] at this
    exact this
  have e2 : (Op.equalIn 9999 2 (.int .i64 xr) (.int .i64 yr)).run Tryz.prog w = .ok (xr == yr) w := run_equalIn_int (P := Tryz.prog) w 9998 2 .i64 .i64 xr yr u2
  have e3 : (Op.equalIn 9999 2 (.int .i64 xc) (.int .i64 yc)).run Tryz.prog w = .ok (xc == yc) w := run_equalIn_int (P := Tryz.prog) w 9998 2 .i64 .i64 xc yc u2
  have e4 : (Op.equalIn 9999 4 (.bool xa) (.bool ya)).run Tryz.prog w = .ok (xa == ya) w := run_equalIn_bool' (P := Tryz.prog) w 9998 4 xa ya u4
  have e5 : (Op.equalIn 9999 4 (.bool xb) (.bool yb)).run Tryz.prog w = .ok (xb == yb) w := run_equalIn_bool' (P := Tryz.prog) w 9998 4 xb yb u4
  rw [run_neq_struct, show (10000 : Nat) = 9999 + 1 from rfl, run_equalIn_struct w 9999 63 _ _ hS hp]
  generalize (Tryz.prog.fieldsOf 63).toList = fs at hf ⊢
  obtain ⟨f1, r1, rfl, h1, hf⟩ := List.map_eq_cons_iff.1 hf
  obtain ⟨f2, r2, rfl, h2, hf⟩ := List.map_eq_cons_iff.1 hf
  obtain ⟨f3, r3, rfl, h3, hf⟩ := List.map_eq_cons_iff.1 hf
  obtain ⟨f4, r4, rfl, h4, hf⟩ := List.map_eq_cons_iff.1 hf
  obtain ⟨f5, r5, rfl, h5, hf⟩ := List.map_eq_cons_iff.1 hf
  obtain rfl := List.map_eq_nil_iff.1 hf
  simp only [Prod.mk.injEq, beq_eq_false_iff_ne, ne_eq] at h1 h2 h3 h4 h5
  obtain ⟨n1, t1, p1⟩ := h1
  obtain ⟨n2, t2, p2⟩ := h2
  obtain ⟨n3, t3, p3⟩ := h3
  obtain ⟨n4, t4, p4⟩ := h4
  obtain ⟨n5, t5, p5⟩ := h5
  simp only [Op.eqFields, ne_eq, n1, n2, n3, n4, n5, not_false_eq_true, if_true, t1, t2, t3, t4, t5, p1, p2, p3, p4, p5, Sem.run_bind, Sem.run_ite, Sem.run_pure, q1, q2, q3, q4, q5, e1, e2, e3, e4, e5, Result.andThen_ok]
  by_cases h1 : xs = ys
  · by_cases h2 : xr = yr
    · by_cases h3 : xc = yc
      · by_cases h4 : xa = ya
        · by_cases h5 : xb = yb <;> simp [h1, h2, h3, h4, h5]
        · simp [h1, h2, h3, h4]
      · simp [h1, h2, h3]
    · simp [h1, h2]
  · simp [h1]
theorem guard59 (op : BinOp) (a b : Operand) (X Y : Array Value) (w : World) : Sem.run Tryz.prog (eqGuard op 63 a b (.agg X) (.agg Y)) w = .ok () w := run_eqGuard_agg w op 63 a b X Y (by kernel_rfl)
set_option maxHeartbeats 4000000 in
theorem eqrf_any_q (va vb : Value) (A B : List Rf) (w : World) (ha : Sl rf 5 w va A) (hb : Sl rf 5 w vb B) : Calls Tryz.prog 118 #[va, vb] w fun e w' => e = .returned (.bool (eqRf A B)) ∧ ∃ m, w' = w.drewN m := by
  have HA := hid ha
  have HB := hid hb
  obtain ⟨ao, cap, rfl, la, ma⟩ := ha.len
  obtain ⟨ao2, cap2, rfl, lb, mb⟩ := hb.len
  have hA : A.length ≤ 9223372036854775807 := by unfold maxLen at ma; omega
  clear ha hb la ma lb mb
  generalize hT : eqRf A B = T
  have HT := hid hT
  clear hT
  by_cases hl : A.length = B.length
  · have hl' : ((A.length : Int) != (B.length : Int)) = false := by simp [hl]
    go_enter Tryz.func118, Tryz.ntmps118
    go_wp2
    go_loopw [4, 13] (fun _ s W => ∃ (n : Nat), n ≤ A.length ∧ s = .int .i64 n ∧ Hid (∃ q, W = w.drewN q) ∧ Hid (eqRf (A.drop n) (B.drop n) = T)) (fun _ s _ => A.length - (intOf s).toNat)
    case atStart => exact ⟨0, Nat.zero_le _, rfl, ⟨0, rfl⟩, by rw [List.drop_zero, List.drop_zero]; exact HT.out⟩
    case round =>
      obtain ⟨n, hn, rfl, hq, HZ⟩ := hrel
      obtain ⟨q, hwq⟩ := hq.out
      have HW := hid hwq
      have HQ : Hid (Q w wr) := by rw [hwq]; exact (Q.refl _).drewN _
      clear hq hwq
      by_cases hlt : n < A.length
      · have hlt' : (n : Int) < (A.length : Int) := by omega
        have hlt2 : (n : Int) < (B.length : Int) := by omega
        obtain ⟨g, off, cap', e, _, _, hc⟩ := (HA.out.on HQ.out).at hlt
        cases e
        obtain ⟨g2, off2, cap3, e, _, _, hc2⟩ := (HB.out.on HQ.out).at (i := n) (by omega)
        cases e
        rw [List.drop_eq_getElem_cons hlt, List.drop_eq_getElem_cons (show n < B.length by omega), eqRf] at HZ
        generalize A[n] = x at *
        generalize B[n]'(by omega) = y at *
        obtain ⟨xs, xr, xc, xa, xb⟩ := x
        obtain ⟨ys, yr, yc, ya, yb⟩ := y
        have c0 : wr.cell? ⟨g, off + n * 5, none⟩ = some (.string ⟨xs.toArray⟩) := hc 0 _ rfl
        have c1 : wr.cell? ⟨g, off + n * 5 + 1, none⟩ = some (.int .i64 xr) := hc 1 _ rfl
        have c2 : wr.cell? ⟨g, off + n * 5 + 2, none⟩ = some (.int .i64 xc) := hc 2 _ rfl
        have c3 : wr.cell? ⟨g, off + n * 5 + 3, none⟩ = some (.bool xa) := hc 3 _ rfl
        have c4 : wr.cell? ⟨g, off + n * 5 + 4, none⟩ = some (.bool xb) := hc 4 _ rfl
        have d0 : wr.cell? ⟨g2, off2 + n * 5, none⟩ = some (.string ⟨ys.toArray⟩) := hc2 0 _ rfl
        have d1 : wr.cell? ⟨g2, off2 + n * 5 + 1, none⟩ = some (.int .i64 yr) := hc2 1 _ rfl
        have d2 : wr.cell? ⟨g2, off2 + n * 5 + 2, none⟩ = some (.int .i64 yc) := hc2 2 _ rfl
        have d3 : wr.cell? ⟨g2, off2 + n * 5 + 3, none⟩ = some (.bool ya) := hc2 3 _ rfl
        have d4 : wr.cell? ⟨g2, off2 + n * 5 + 4, none⟩ = some (.bool yb) := hc2 4 _ rfl
        clear hc hc2
        have hgd' : ∀ (op : BinOp) (a b : Operand) (w : World), Sem.run Tryz.prog (eqGuard op 63 a b (.agg #[.string ⟨xs.toArray⟩, .int .i64 xr, .int .i64 xc, .bool xa, .bool xb]) (.agg #[.string ⟨ys.toArray⟩, .int .i64 yr, .int .i64 yc, .bool ya, .bool yb])) w = .ok () w := fun op a b w => guard59 op a b _ _ w
        cases hd : decide (((xs, xr, xc, xa, xb) : Rf) = (ys, yr, yc, ya, yb))
        · have HR : Hid (false = T) := by
            have := HZ.out
            simp only [hd, Bool.false_and] at this
            exact this
          clear HZ
          have hne' : ∀ w, Sem.run Tryz.prog (binOp .neq 63 (.agg #[.string ⟨xs.toArray⟩, .int .i64 xr, .int .i64 xc, .bool xa, .bool xb]) (.agg #[.string ⟨ys.toArray⟩, .int .i64 yr, .int .i64 yc, .bool ya, .bool yb])) w = .ok (.bool true) w := fun w => by
            have := neq59 xs xr xc xa xb ys yr yc ya yb w
            rw [hd] at this
            exact this
          clear hd
          go_wp2_with fail
          go_quiet (fail)
          go_wp2_with fail
          go_ret
          exact ⟨ret_bool HR.out, _, by rw [HW.out, World.drewN_drewN]⟩
        · have HZ2 : Hid (eqRf (A.drop (n + 1)) (B.drop (n + 1)) = T) := by
            have := HZ.out
            simp only [hd, Bool.true_and] at this
            exact this
          clear HZ
          have hne' : ∀ w, Sem.run Tryz.prog (binOp .neq 63 (.agg #[.string ⟨xs.toArray⟩, .int .i64 xr, .int .i64 xc, .bool xa, .bool xb]) (.agg #[.string ⟨ys.toArray⟩, .int .i64 yr, .int .i64 yc, .bool ya, .bool yb])) w = .ok (.bool false) w := fun w => by
            have := neq59 xs xr xc xa xb ys yr yc ya yb w
            rw [hd] at this
            exact this
          clear hd
          go_wp2_with fail
          go_quiet (fail)
          go_wp2_with fail
          go_roundw
          case rel => exact ⟨n + 1, by omega, by go_num, ⟨_, by rw [HW.out, World.drewN_drewN]⟩, HZ2⟩
          case measure => simp [intOf]; omega
      · have hlt' : ¬ (n : Int) < (A.length : Int) := by omega
        have HR : Hid (true = T) := by
          have := HZ.out
          rw [List.drop_eq_nil_of_le (by omega), List.drop_eq_nil_of_le (by omega)] at this
          exact this
        clear HZ
        go_wp2_with fail
        go_ret
        exact ⟨ret_bool HR.out, q, HW.out⟩
  · have hl' : ((A.length : Int) != (B.length : Int)) = true := by simp; omega
    have HR : Hid (false = T) := by show _ = _; rw [← HT.out, eqRf_len hl]
    go_enter Tryz.func118, Tryz.ntmps118
    go_wp2
    go_ret
    exact ⟨ret_bool HR.out, 0, rfl⟩
end Go.Proofs.YtgheopdadfnilaaGreatDoor
namespace Go.Proofs.YtgheopdadfnilaaGreatDoor
def hd : Ex → Int × Int × List UInt8 × Bool × Int × List Rf
  | .mk k n t b e rs _ => (k, n, t, b, e, rs)
def kd : Ex → List Ex
  | .mk _ _ _ _ _ _ ks => ks
theorem ex_eq {x y : Ex} : x = y ↔ hd x = hd y ∧ kd x = kd y := by
  cases x with
  | mk k n t b e rs ks =>
    cases y with
    | mk k' n' t' b' e' rs' ks' =>
      simp only [hd, kd, Ex.mk.injEq, Prod.mk.injEq]
      constructor
      · rintro ⟨h1, h2, h3, h4, h5, h6, h7⟩
        exact ⟨⟨h1, h2, h3, h4, h5, h6⟩, h7⟩
      · rintro ⟨⟨h1, h2, h3, h4, h5, h6⟩, h7⟩
        exact ⟨h1, h2, h3, h4, h5, h6, h7⟩
theorem nodes_kd (x : Ex) : nodes x = 1 + nodes.nodesL (kd x) := by
  cases x with
  | mk k n t b e rs ks => rw [nodes]; rfl
abbrev Pr := List Ex × List Ex
structure Eqv (R : Prop) (L K : List Pr) : Prop where
  all : R ↔ ∀ p ∈ L, p.1 = p.2
  bgn : ∀ k ∈ K, (∀ p ∈ L, nodes.nodesL p.1 ≤ nodes.nodesL k.1 → p.1 = p.2) → k.1 = k.2
theorem eqv_start (x y : Ex) : Eqv (x = y) [([x], [y])] [] := by
  refine ⟨?_, fun k hk => absurd hk (by simp)⟩
  constructor
  · intro h p hp
    simp at hp
    subst hp h
    rfl
  · intro h
    have := h ([x], [y]) (by simp)
    simpa using this
theorem Eqv.done {R : Prop} {K : List Pr} (h : Eqv R [] K) : R := h.all.2 (fun p hp => absurd hp (by simp))
theorem Eqv.pop {R : Prop} {L K : List Pr} (h : Eqv R (([], []) :: L) K) : Eqv R L K := by
  refine ⟨?_, fun k hk hl => h.bgn k hk (fun p hp hs => ?_)⟩
  · rw [h.all]
    constructor
    · intro g p hp
      exact g p (by simp [hp])
    · intro g p hp
      simp at hp
      rcases hp with rfl | hp
      · rfl
      · exact g p hp
  · simp at hp
    rcases hp with rfl | hp
    · rfl
    · exact hl p hp hs
theorem Eqv.no {R : Prop} {L K : List Pr} {x y : Ex} {xs ys : List Ex} (h : Eqv R ((x :: xs, y :: ys) :: L) K) (hn : ¬ (hd x = hd y ∧ (kd x).length = (kd y).length)) : ¬ R := by
  intro r
  have := h.all.1 r (x :: xs, y :: ys) (by simp)
  simp at this
  rw [this.1] at hn
  exact hn ⟨rfl, rfl⟩
theorem Eqv.step {R : Prop} {L K : List Pr} {x y : Ex} {xs ys : List Ex} {L' K' : List Pr} (h : Eqv R ((x :: xs, y :: ys) :: L) K) (hh : hd x = hd y)
    (hk : (∀ p ∈ (xs, ys) :: L, nodes.nodesL p.1 ≤ nodes.nodesL (kd x) → p.1 = p.2) → (∀ p ∈ L', nodes.nodesL p.1 ≤ nodes.nodesL (kd x) → p.1 = p.2) → kd x = kd y)
    (hL : ∀ p, p ∈ L' → p ∈ (xs, ys) :: L ∨ p = (kd x, kd y)) (hL' : ∀ p ∈ (xs, ys) :: L, p ∈ L') (hK : ∀ k ∈ K', k ∈ K ∨ (k = (kd x, kd y) ∧ (kd x, kd y) ∈ L')) : Eqv R L' K' := by
  have hs : nodes.nodesL (x :: xs) = 1 + nodes.nodesL (kd x) + nodes.nodesL xs := by rw [nodes.nodesL, nodes_kd]
  have cur : ∀ m, nodes.nodesL (x :: xs) ≤ m → (∀ p ∈ L', nodes.nodesL p.1 ≤ m → p.1 = p.2) → x :: xs = y :: ys := by
    intro m hm hl
    have h1 : xs = ys := hl (xs, ys) (hL' _ (by simp)) (by simp; omega)
    have h2 : kd x = kd y := hk (fun p hp hs' => hl p (hL' _ hp) (by omega)) (fun p hp hs' => hl p hp (by omega))
    rw [h1, ex_eq.2 ⟨hh, h2⟩]
  refine ⟨?_, fun k hk' hl => ?_⟩
  · rw [h.all]
    constructor
    · intro g p hp
      have g0 := g (x :: xs, y :: ys) (by simp)
      simp at g0
      rcases hL p hp with hp | rfl
      · simp at hp
        rcases hp with rfl | hp
        · exact g0.2
        · exact g p (by simp [hp])
      · rw [g0.1]
    · intro g p hp
      simp at hp
      rcases hp with rfl | hp
      · exact cur _ (Nat.le_refl _) (fun p hp _ => g p hp)
      · exact g p (hL' _ (by simp [hp]))
  · rcases hK k hk' with hk' | ⟨rfl, hm⟩
    · refine h.bgn k hk' (fun p hp hs' => ?_)
      simp at hp
      rcases hp with rfl | hp
      · exact cur _ hs' (fun p hp hs' => hl p hp hs')
      · exact hl p (hL' _ (by simp [hp])) hs'
    · exact hl _ hm (Nat.le_refl _)
theorem Eqv.leaf {R : Prop} {L K : List Pr} {x y : Ex} {xs ys : List Ex} (h : Eqv R ((x :: xs, y :: ys) :: L) K) (hh : hd x = hd y) (hx : kd x = []) (hy : (kd x).length = (kd y).length) : Eqv R ((xs, ys) :: L) K :=
  h.step hh (fun _ _ => by
    rw [hx] at hy ⊢
    exact (List.eq_nil_of_length_eq_zero hy.symm).symm) (fun p hp => .inl hp) (fun p hp => hp) (fun k hk => .inl hk)
theorem Eqv.old {R : Prop} {L K : List Pr} {x y : Ex} {xs ys : List Ex} (h : Eqv R ((x :: xs, y :: ys) :: L) K) (hh : hd x = hd y) (hb : (kd x, kd y) ∈ K) : Eqv R ((xs, ys) :: L) K :=
  h.step hh (fun g _ => h.bgn _ hb (fun p hp hs => by
    simp at hp
    rcases hp with rfl | hp
    · rw [nodes.nodesL, nodes_kd] at hs
      simp at hs
      omega
    · exact g p (by simp [hp]) hs)) (fun p hp => .inl hp) (fun p hp => hp) (fun k hk => .inl hk)
theorem Eqv.new {R : Prop} {L K : List Pr} {x y : Ex} {xs ys : List Ex} (h : Eqv R ((x :: xs, y :: ys) :: L) K) (hh : hd x = hd y) : Eqv R ((xs, ys) :: (kd x, kd y) :: L) ((kd x, kd y) :: K) :=
  h.step hh (fun _ g => g (kd x, kd y) (by simp) (Nat.le_refl _)) (fun p hp => by
    simp at hp ⊢
    rcases hp with h | h | h
    · exact .inl (.inl h)
    · exact .inr h
    · exact .inl (.inr h)) (fun p hp => by
    simp at hp ⊢
    rcases hp with h | h
    · exact .inl h
    · exact .inr (.inr h)) (fun k hk => by
    simp at hk
    rcases hk with h | h
    · exact .inr ⟨h, by simp⟩
    · exact .inl h)
def wgt (L : List Pr) : Nat := (L.map fun p => nodes.nodesL p.1).sum
theorem wgt_cons (p : Pr) (L : List Pr) : wgt (p :: L) = nodes.nodesL p.1 + wgt L := by simp [wgt]
theorem nodesL_cons' (x : Ex) (xs : List Ex) : nodes.nodesL (x :: xs) = 1 + nodes.nodesL (kd x) + nodes.nodesL xs := by rw [nodes.nodesL, nodes_kd]
end Go.Proofs.YtgheopdadfnilaaGreatDoor
