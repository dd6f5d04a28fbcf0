/- The law RefPrint: true. -/
import Derived.Test.YtjadlkmjahcepaaDoorK0
import Derived.Test.YtjadlkmjahcepaaDoorZb
namespace Go.Proofs.YtjadlkmjahcepaaDoor
open Go.RowKit
set_option linter.unusedVariables false
set_option linter.unusedSimpArgs false

theorem print_core (t T : ByteArray) (row col n : Int) (ra ca : Bool) (w : World) (hw : Std w) (hT : (T.size : Int) ≤ 40)
    (HS : ∀ W, Calls Tryd.prog 7 #[.string t, .int .i64 40] W fun e w' => e = .returned (.string T) ∧ w' = W) :
    Calls Tryd.prog 4 #[rv t row col ra ca, .int .i64 n] w fun e w' => e = .returned (.bool true) ∧ Q w w' := by
  have HB := fun W (q : Q w W) => begun_any W (hw.on q)
  have HR := fun W (q : Q w W) => print_any T row col ra ca W (hw.on q) (by omega)
  have HR2 := fun W => rprint_any T row col ra ca W (by omega)
  have HN := fun W => name_any n W
  have HN2 := fun W => rname_any n W
  have HM := fun W => rmay_any T row col ra ca W (by omega)
  have HC0 := fun W => col_any ⟨(cnL n).toArray⟩ W (by rw [size_mk]; have := cn_len n; omega)
  have hcr := col_read n
  have HC : ∀ W, Calls Tryd.prog 10 #[.string ⟨(cnL n).toArray⟩] W fun e w' => e = .returned (.tuple #[.int .i64 (colK (cnL n)), .bool (colF (cnL n))]) ∧ w' = W := HC0
  clear HC0
  have hlen : (prR T.data.toList row col ra ca).length ≤ 1000 := by
    unfold prR
    split
    · rename_i hm
      unfold mayR at hm
      simp only [Bool.and_eq_true, decide_eq_true_eq] at hm
      unfold prL
      have a1 := shX_len T.data.toList
      have a2 := sg_len ca
      have a3 := sg_len ra
      have a4 := cn_len col
      have a5 := dec_len (row + 1).toNat (by omega)
      rw [len_data] at a1
      simp only [List.length_append]
      omega
    · simp
  have HP0 : ∀ W, Q w W → Calls Tryd.prog 8 #[.string ⟨(prR T.data.toList row col ra ca).toArray⟩] W fun e w' => e = .returned (.tuple #[refA (refT (prR T.data.toList row col ra ca)), .bool (refF (prR T.data.toList row col ra ca))]) ∧ Q W w' :=
    fun W q => parse_any ⟨(prR T.data.toList row col ra ca).toArray⟩ W (hw.on q) (by rw [size_mk]; omega)
  rw [hcr.1] at HC
  cases hM : mayR T.data.toList row col
  · rw [hM] at HM
    have hr := read_no T.data.toList row col ra ca hM
    rw [hr.1] at HP0 HR HR2
    have HP : ∀ W, Q w W → Calls Tryd.prog 8 #[.string ⟨([] : List UInt8).toArray⟩] W fun e w' => e = .returned (.tuple #[rv ⟨#[]⟩ 0 0 false false, .bool false]) ∧ Q W w' := fun W q => by
      have h := HP0 W q
      rw [hr.2, show refT [] = ([], 0, 0, false, false) by decide +kernel] at h
      exact h
    by_cases h0 : 0 ≤ n
    · by_cases h1 : n < 2199023255552
      · rw [decide_eq_true ⟨h0, h1⟩, hcr.2 ⟨h0, h1⟩] at HC
        exact print_f0 t T _ _ row col n n ra ca w h0 h1 HB HS HR HR2 HN HN2 HP HC HM
      · rw [decide_eq_false (fun h => h1 h.2)] at HC
        replace h1 : 2199023255552 ≤ n := by omega
        exact print_f2 t T _ _ row col n _ ra ca w h0 h1 HB HS HR HR2 HN HN2 HP HC HM
    · rw [decide_eq_false (fun h => h0 h.1)] at HC
      replace h0 : n < 0 := by omega
      exact print_f1 t T _ _ row col n _ ra ca w h0 HB HS HR HR2 HN HN2 HP HC HM
  · rw [hM] at HM
    have hr := read_yes T.data.toList row col ra ca hM
    have HP : ∀ W, Q w W → Calls Tryd.prog 8 #[.string ⟨(prR T.data.toList row col ra ca).toArray⟩] W fun e w' => e = .returned (.tuple #[rv T row col ra ca, .bool true]) ∧ Q W w' := fun W q => by
      have h := HP0 W q
      rw [hr.1, hr.2] at h
      exact h
    by_cases h0 : 0 ≤ n
    · by_cases h1 : n < 2199023255552
      · rw [decide_eq_true ⟨h0, h1⟩, hcr.2 ⟨h0, h1⟩] at HC
        exact print_t0 t T _ _ row col n n ra ca w h0 h1 HB HS HR HR2 HN HN2 HP HC HM
      · rw [decide_eq_false (fun h => h1 h.2)] at HC
        replace h1 : 2199023255552 ≤ n := by omega
        exact print_t2 t T _ _ row col n _ ra ca w h0 h1 HB HS HR HR2 HN HN2 HP HC HM
    · rw [decide_eq_false (fun h => h0 h.1)] at HC
      replace h0 : n < 0 := by omega
      exact print_t1 t T _ _ row col n _ ra ca w h0 HB HS HR HR2 HN HN2 HP HC HM
theorem print_walk (t : ByteArray) (row col : Int) (ra ca : Bool) (n : Int) (w : World) (hw : Std w) (h : True) :
    Calls Tryd.prog 4 #[rv t row col ra ca, .int .i64 n] w fun e w' => e = .returned (.bool true) ∧ Q w w' := by
  by_cases h : (40 : Int) < (t.size : Int)
  · refine print_core t (t.extract 0 40) row col n ra ca w hw (by simp only [ByteArray.size_extract]; omega) (fun W => ?_)
    have g := short_any t 40 W (by omega) (by omega)
    rw [if_pos h] at g
    exact g
  · refine print_core t t row col n ra ca w hw (by omega) (fun W => ?_)
    have g := short_any t 40 W (by omega) (by omega)
    rw [if_neg h] at g
    exact g
end Go.Proofs.YtjadlkmjahcepaaDoor
