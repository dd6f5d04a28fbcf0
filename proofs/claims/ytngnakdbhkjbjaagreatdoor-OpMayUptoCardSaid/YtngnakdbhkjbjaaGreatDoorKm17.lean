/- op.mayRects: which rectangles . -/
import Derived.Test.YtngnakdbhkjbjaaGreatDoorKm10
import Derived.Test.YtngnakdbhkjbjaaGreatDoorKm16
import Derived.Test.YtngnakdbhkjbjaaGreatDoorKm04
set_option linter.unusedVariables false
set_option linter.unusedSimpArgs false
set_option maxRecDepth 100000
set_option maxHeartbeats 8000000
namespace Go.Proofs.YtngnakdbhkjbjaaGreatDoor
open Go.RowKit
def MR(L:List R.Rg.Rc)(b:Bool):Prop:=b=true↔(1≤L.length∧L.length≤256∧R.Rg.Nf (R.Rg.dif (R.Rg.cnted L) []) L∧R.Rg.ar 257 0 L≤256∧inB 2199023255552 L=true)
theorem mr_ex(L:List R.Rg.Rc):∃ b,MR L b:=by
 by_cases h:(1≤L.length∧L.length≤256∧R.Rg.Nf (R.Rg.dif (R.Rg.cnted L) []) L∧R.Rg.ar 257 0 L≤256∧inB 2199023255552 L=true)
 ·exact ⟨true,fun _=>h,fun _=>rfl⟩
 ·exact ⟨false,fun e=>absurd e Bool.false_ne_true,fun e=>absurd e h⟩
theorem mr_no{L:List R.Rg.Rc}{b:Bool}(hb:MR L b)(h:¬ (1≤L.length∧L.length≤256∧R.Rg.Nf (R.Rg.dif (R.Rg.cnted L) []) L∧R.Rg.ar 257 0 L≤256∧inB 2199023255552 L=true)):b=false:=by
 cases b with
 |false=>rfl
 |true=>exact absurd (hb.1 rfl) h
theorem nf_ex{v:Value}{L:List R.Rg.Rc}{w:World}(h:R.Sl R.rc 4 w v L):∃ l,R.Rg.Nf (R.Rg.dif (R.Rg.cnted L) []) l∧l.length≤1000000000000:=by
 obtain ⟨e,w',fr,⟨v',_,l,_,_,h3,h4,_⟩,_⟩:=R.norm_any v L w h [];exact ⟨l,h3,h4⟩
theorem mayRects_any(v:Value)(L:List R.Rg.Rc)(b:Bool)(w:World)(h:R.Sl R.rc 4 w v L)(hb:MR L b):Calls Tryz.prog 22 #[v] w fun e w'=>e=.returned (.bool b)∧Q w w':=by
 have HS:=hid h;obtain ⟨l,hl,hll⟩:=nf_ex h;obtain ⟨ao,cap,rfl,h1,h2⟩:=h.len;have h3:L.length≤9223372036854775807:=Nat.le_trans h1 (by unfold maxLen at h2;omega)
 by_cases h0:L.length=0
 ·have HR:=hid (mr_no hb (fun x=>by omega))
  have e0:((L.length:Int) == 0)=true:=by rw [h0];rfl
  clear h hb hl h0;go_enter Tryz.func22,Tryz.ntmps22
  go_wp2_with fail
  go_ret
  exact ⟨ret_bool HR.out.symm,Q.refl _⟩
 ·have e0:((L.length:Int) == 0)=false:=by rw [beq_eq_false_iff_ne];omega
  by_cases h256:(256:Int)<(L.length:Int)
  ·have HR:=hid (mr_no hb (fun x=>by omega))
   clear h hb hl h0;go_enter Tryz.func22,Tryz.ntmps22
   go_wp2_with fail
   go_ret
   exact ⟨ret_bool HR.out.symm,Q.refl _⟩
  ·have HN:=hid (R.norm_known _ L l w h hl)
   have HA:=hid (fun W (q:Q w W) (e:l=L)=>R.area_any _ L L 257 257 W (h.on q) (e ▸ hl) (by omega) (by omega) rfl)
   have HE:=hid (fun W (q:Q w W)=>ends_any _ L 2199023255552 W (h.on q))
   have HQ:=hid (fun W (q:Q w W) (v1:Value) (h1:R.Sl R.rc 4 W v1 l)=>R.eqR_any v1 _ l L W h1 (h.on q) hll (by omega))
   cases he:R.eqRc l L
   ·rw [he]at HQ
    have HR:=hid (mr_no hb (fun x=>by rw [R.Rg.nf_uniq hl x.2.2.1,R.eqRc_iff.2 rfl]at he;cases he))
    clear h hb hl h0 he HS;go_enter Tryz.func22,Tryz.ntmps22
    go_wp2_with (first
     |(go_at_call 47;refine HN.out.mono ?_;rintro e9 w1 ⟨v1,rfl,own1,q1⟩;have HS1:=hid (own1.sl R.rc_len (by decide));have Q1:Hid (Q w w1):=hid q1;clear own1 q1;obtain ⟨ao1,cap1,rfl,_,_⟩:=HS1.out.len)
     |(go_at_call 35;refine (HQ.out _ Q1.out _ HS1.out).mono ?_;rintro e9 w2 ⟨rfl,q2⟩;have Q2:Hid (Q w w2):=hid (Q1.out.trans q2);clear q2))
    go_ret
    exact ⟨ret_bool HR.out.symm,Q2.out⟩
   ·rw [he]at HQ
    have hlL:=R.eqRc_iff.1 he;by_cases ha:R.Rg.ar 257 0 L≤256
    ·have HR:Hid (inB 2199023255552 L=b):=hid (by
      cases hi:inB 2199023255552 L
      ·exact (mr_no hb (fun x=>by rw [hi]at x;cases x.2.2.2.2)).symm
      ·exact (hb.2 ⟨by omega,by omega,hlL ▸ hl,ha,hi⟩).symm)
     have HA2:=hid (fun W q=>HA.out W q hlL)
     generalize R.Rg.ar 257 0 L=na at *;clear h hb hl h0 he HS HA hlL;go_enter Tryz.func22,Tryz.ntmps22
     go_wp2_with (first
      |(go_at_call 47;refine HN.out.mono ?_;rintro e9 w1 ⟨v1,rfl,own1,q1⟩;have HS1:=hid (own1.sl R.rc_len (by decide));have Q1:Hid (Q w w1):=hid q1;clear own1 q1;obtain ⟨ao1,cap1,rfl,_,_⟩:=HS1.out.len)
      |(go_at_call 35;refine (HQ.out _ Q1.out _ HS1.out).mono ?_;rintro e9 w2 ⟨rfl,q2⟩;have Q2:Hid (Q w w2):=hid (Q1.out.trans q2);clear q2)
      |(go_at_call 48;refine (HA2.out _ Q2.out).mono ?_;rintro e9 w3 ⟨rfl,q3⟩;have Q3:Hid (Q w w3):=hid (Q2.out.trans q3);clear q3)
      |(go_at_call 49;refine (HE.out _ Q3.out).mono ?_;rintro e9 w4 ⟨rfl,q4⟩;have Q4:Hid (Q w w4):=hid (Q3.out.trans q4);clear q4))
     go_ret
     exact ⟨ret_bool HR.out,Q4.out⟩
    ·have HR:=hid (mr_no hb (fun x=>ha x.2.2.2.1))
     have HA2:=hid (fun W q=>HA.out W q hlL)
     generalize R.Rg.ar 257 0 L=na at *;clear h hb hl h0 he HS HA hlL;go_enter Tryz.func22,Tryz.ntmps22
     go_wp2_with (first
      |(go_at_call 47;refine HN.out.mono ?_;rintro e9 w1 ⟨v1,rfl,own1,q1⟩;have HS1:=hid (own1.sl R.rc_len (by decide));have Q1:Hid (Q w w1):=hid q1;clear own1 q1;obtain ⟨ao1,cap1,rfl,_,_⟩:=HS1.out.len)
      |(go_at_call 35;refine (HQ.out _ Q1.out _ HS1.out).mono ?_;rintro e9 w2 ⟨rfl,q2⟩;have Q2:Hid (Q w w2):=hid (Q1.out.trans q2);clear q2)
      |(go_at_call 48;refine (HA2.out _ Q2.out).mono ?_;rintro e9 w3 ⟨rfl,q3⟩;have Q3:Hid (Q w w3):=hid (Q2.out.trans q3);clear q3))
     go_ret
     exact ⟨ret_bool HR.out.symm,Q3.out⟩
theorem eo_7(k:Int)(sh:ByteArray)(sh':ByteArray)(row:Int)(col:Int)(x4:Value)(x4':Value)(x5:Value)(x5':Value)(x6:Value)(x6':Value)(x7:Value)(x7':Value)(x8:Value)(x8':Value)(x9:Value)(x9':Value)(x10:Value)(x10':Value)(x11:Value)(x11':Value)(x12:Value)(x12':Value)(x13:Value)(x13':Value)(x14:Value)(x14':Value)(x15:Value)(x15':Value)(x16:Value)(x16':Value)(lk:Int)(la:Int)(lt:Int)(lt':Int)(ra:Option Addr)(rl rc:Nat)(ra':Option Addr)(rl' rc':Nat)(fm:Int)(fm':Int)(nm:ByteArray)(nm':ByteArray)(w:World)(e1:(sh.toList == sh'.toList)=true)(e19:(lt == lt')=false)(HC:Hid (∀ V,Q w V→Calls Tryz.prog 27 #[.agg #[x4,x5,x6,x7,x8,x9,x10,x11,x12,x13,x14,x15,x16],.agg #[x4',x5',x6',x7',x8',x9',x10',x11',x12',x13',x14',x15',x16']] V fun e V'=>e=.returned (.bool true)∧Q V V')):Calls Tryz.prog 11 #[.agg #[.int .i64 k,.string sh,.int .i64 row,.int .i64 col,x4,x5,x6,x7,x8,x9,x10,x11,x12,x13,x14,x15,x16,.int .i64 lk,.int .i64 la,.int .i64 lt,.slice ra rl rc,.int .i64 fm,.string nm],.agg #[.int .i64 k,.string sh',.int .i64 row,.int .i64 col,x4',x5',x6',x7',x8',x9',x10',x11',x12',x13',x14',x15',x16',.int .i64 lk,.int .i64 la,.int .i64 lt',.slice ra' rl' rc',.int .i64 fm',.string nm']] w fun e W'=>e=.returned (.bool false)∧Q w W':=by
 have T0:Hid True:=hid trivial
 go_enter Tryz.func11,Tryz.ntmps11
 go_upto_region 1 with (first
  |(with_reducible refine wpl_boxq _ (by with_unfolding_all rfl) (by with_unfolding_all rfl) [.int .i64 k,.string sh,.int .i64 row,.int .i64 col,x4,x5,x6,x7,x8,x9,x10,x11,x12,x13,x14,x15,x16,.int .i64 lk,.int .i64 la,.int .i64 lt,.slice ra rl rc,.int .i64 fm,.string nm] (by with_unfolding_all rfl) ?_;intro w1 b0 hZ hQ;have Z1:=hid hZ;have Q1:=hid hQ;have T1:Hid True:=hid trivial;clear hZ hQ T0)
  |(clear T1;with_reducible refine wpl_boxq _ (by with_unfolding_all rfl) (by with_unfolding_all rfl) [.int .i64 k,.string sh',.int .i64 row,.int .i64 col,x4',x5',x6',x7',x8',x9',x10',x11',x12',x13',x14',x15',x16',.int .i64 lk,.int .i64 la,.int .i64 lt',.slice ra' rl' rc',.int .i64 fm',.string nm'] (by with_unfolding_all rfl) ?_;intro w2 b1 hZ hQ;have Z1b:=hid (Z1.out.on hQ);have Z2:=hid hZ;have Q2:=hid (Q1.out.trans hQ);clear hZ hQ Z1;have d0:=Z1b.out.c 0 _ rfl;have d1:=Z1b.out.c 1 _ rfl;have d2:=Z1b.out.c 2 _ rfl;have d3:=Z1b.out.c 3 _ rfl;have d4:=Z1b.out.c 4 _ rfl;have d5:=Z1b.out.c 5 _ rfl;have d6:=Z1b.out.c 6 _ rfl;have d7:=Z1b.out.c 7 _ rfl;have d8:=Z1b.out.c 8 _ rfl;have d9:=Z1b.out.c 9 _ rfl;have d10:=Z1b.out.c 10 _ rfl;have d11:=Z1b.out.c 11 _ rfl;have d12:=Z1b.out.c 12 _ rfl;have d13:=Z1b.out.c 13 _ rfl;have d14:=Z1b.out.c 14 _ rfl;have d15:=Z1b.out.c 15 _ rfl;have d16:=Z1b.out.c 16 _ rfl;have d17:=Z1b.out.c 17 _ rfl;have d18:=Z1b.out.c 18 _ rfl;have d19:=Z1b.out.c 19 _ rfl;have d20:=Z1b.out.c 20 _ rfl;have d21:=Z1b.out.c 21 _ rfl;have d22:=Z1b.out.c 22 _ rfl;have n0:=Z2.out.c 0 _ rfl;have n1:=Z2.out.c 1 _ rfl;have n2:=Z2.out.c 2 _ rfl;have n3:=Z2.out.c 3 _ rfl;have n4:=Z2.out.c 4 _ rfl;have n5:=Z2.out.c 5 _ rfl;have n6:=Z2.out.c 6 _ rfl;have n7:=Z2.out.c 7 _ rfl;have n8:=Z2.out.c 8 _ rfl;have n9:=Z2.out.c 9 _ rfl;have n10:=Z2.out.c 10 _ rfl;have n11:=Z2.out.c 11 _ rfl;have n12:=Z2.out.c 12 _ rfl;have n13:=Z2.out.c 13 _ rfl;have n14:=Z2.out.c 14 _ rfl;have n15:=Z2.out.c 15 _ rfl;have n16:=Z2.out.c 16 _ rfl;have n17:=Z2.out.c 17 _ rfl;have n18:=Z2.out.c 18 _ rfl;have n19:=Z2.out.c 19 _ rfl;have n20:=Z2.out.c 20 _ rfl;have n21:=Z2.out.c 21 _ rfl;have n22:=Z2.out.c 22 _ rfl))
 refine wp_region_lit ?_
 dsimp only [List.append]
 go_wp2_with (first
  |(go_at_call 27;refine (HC.out _ Q2.out).mono ?_;rintro e9 w3 ⟨rfl,q9⟩;have Q3:=hid (Q2.out.trans q9);have Z1c:=hid (Z1b.out.on q9);have Z2c:=hid (Z2.out.on q9);clear q9;have dd17:=Z1c.out.c 17 _ rfl;have dd18:=Z1c.out.c 18 _ rfl;have dd19:=Z1c.out.c 19 _ rfl;have dd20:=Z1c.out.c 20 _ rfl;have dd21:=Z1c.out.c 21 _ rfl;have dd22:=Z1c.out.c 22 _ rfl;have nn17:=Z2c.out.c 17 _ rfl;have nn18:=Z2c.out.c 18 _ rfl;have nn19:=Z2c.out.c 19 _ rfl;have nn20:=Z2c.out.c 20 _ rfl;have nn21:=Z2c.out.c 21 _ rfl;have nn22:=Z2c.out.c 22 _ rfl))
 go_ret
 exact ⟨rfl,Q3.out⟩
theorem eo_8(k:Int)(sh:ByteArray)(sh':ByteArray)(row:Int)(col:Int)(x4:Value)(x4':Value)(x5:Value)(x5':Value)(x6:Value)(x6':Value)(x7:Value)(x7':Value)(x8:Value)(x8':Value)(x9:Value)(x9':Value)(x10:Value)(x10':Value)(x11:Value)(x11':Value)(x12:Value)(x12':Value)(x13:Value)(x13':Value)(x14:Value)(x14':Value)(x15:Value)(x15':Value)(x16:Value)(x16':Value)(lk:Int)(la:Int)(lt:Int)(ra:Option Addr)(rl rc:Nat)(ra':Option Addr)(rl' rc':Nat)(fm:Int)(fm':Int)(nm:ByteArray)(nm':ByteArray)(w:World)(e1:(sh.toList == sh'.toList)=true)(HC:Hid (∀ V,Q w V→Calls Tryz.prog 27 #[.agg #[x4,x5,x6,x7,x8,x9,x10,x11,x12,x13,x14,x15,x16],.agg #[x4',x5',x6',x7',x8',x9',x10',x11',x12',x13',x14',x15',x16']] V fun e V'=>e=.returned (.bool true)∧Q V V'))(HR:Hid (∀ V,Q w V→Calls Tryz.prog 30 #[.slice ra rl rc,.slice ra' rl' rc'] V fun e V'=>e=.returned (.bool false)∧Q V V')):Calls Tryz.prog 11 #[.agg #[.int .i64 k,.string sh,.int .i64 row,.int .i64 col,x4,x5,x6,x7,x8,x9,x10,x11,x12,x13,x14,x15,x16,.int .i64 lk,.int .i64 la,.int .i64 lt,.slice ra rl rc,.int .i64 fm,.string nm],.agg #[.int .i64 k,.string sh',.int .i64 row,.int .i64 col,x4',x5',x6',x7',x8',x9',x10',x11',x12',x13',x14',x15',x16',.int .i64 lk,.int .i64 la,.int .i64 lt,.slice ra' rl' rc',.int .i64 fm',.string nm']] w fun e W'=>e=.returned (.bool false)∧Q w W':=by
 have T0:Hid True:=hid trivial
 go_enter Tryz.func11,Tryz.ntmps11
 go_upto_region 1 with (first
  |(with_reducible refine wpl_boxq _ (by with_unfolding_all rfl) (by with_unfolding_all rfl) [.int .i64 k,.string sh,.int .i64 row,.int .i64 col,x4,x5,x6,x7,x8,x9,x10,x11,x12,x13,x14,x15,x16,.int .i64 lk,.int .i64 la,.int .i64 lt,.slice ra rl rc,.int .i64 fm,.string nm] (by with_unfolding_all rfl) ?_;intro w1 b0 hZ hQ;have Z1:=hid hZ;have Q1:=hid hQ;have T1:Hid True:=hid trivial;clear hZ hQ T0)
  |(clear T1;with_reducible refine wpl_boxq _ (by with_unfolding_all rfl) (by with_unfolding_all rfl) [.int .i64 k,.string sh',.int .i64 row,.int .i64 col,x4',x5',x6',x7',x8',x9',x10',x11',x12',x13',x14',x15',x16',.int .i64 lk,.int .i64 la,.int .i64 lt,.slice ra' rl' rc',.int .i64 fm',.string nm'] (by with_unfolding_all rfl) ?_;intro w2 b1 hZ hQ;have Z1b:=hid (Z1.out.on hQ);have Z2:=hid hZ;have Q2:=hid (Q1.out.trans hQ);clear hZ hQ Z1;have d0:=Z1b.out.c 0 _ rfl;have d1:=Z1b.out.c 1 _ rfl;have d2:=Z1b.out.c 2 _ rfl;have d3:=Z1b.out.c 3 _ rfl;have d4:=Z1b.out.c 4 _ rfl;have d5:=Z1b.out.c 5 _ rfl;have d6:=Z1b.out.c 6 _ rfl;have d7:=Z1b.out.c 7 _ rfl;have d8:=Z1b.out.c 8 _ rfl;have d9:=Z1b.out.c 9 _ rfl;have d10:=Z1b.out.c 10 _ rfl;have d11:=Z1b.out.c 11 _ rfl;have d12:=Z1b.out.c 12 _ rfl;have d13:=Z1b.out.c 13 _ rfl;have d14:=Z1b.out.c 14 _ rfl;have d15:=Z1b.out.c 15 _ rfl;have d16:=Z1b.out.c 16 _ rfl;have d17:=Z1b.out.c 17 _ rfl;have d18:=Z1b.out.c 18 _ rfl;have d19:=Z1b.out.c 19 _ rfl;have d20:=Z1b.out.c 20 _ rfl;have d21:=Z1b.out.c 21 _ rfl;have d22:=Z1b.out.c 22 _ rfl;have n0:=Z2.out.c 0 _ rfl;have n1:=Z2.out.c 1 _ rfl;have n2:=Z2.out.c 2 _ rfl;have n3:=Z2.out.c 3 _ rfl;have n4:=Z2.out.c 4 _ rfl;have n5:=Z2.out.c 5 _ rfl;have n6:=Z2.out.c 6 _ rfl;have n7:=Z2.out.c 7 _ rfl;have n8:=Z2.out.c 8 _ rfl;have n9:=Z2.out.c 9 _ rfl;have n10:=Z2.out.c 10 _ rfl;have n11:=Z2.out.c 11 _ rfl;have n12:=Z2.out.c 12 _ rfl;have n13:=Z2.out.c 13 _ rfl;have n14:=Z2.out.c 14 _ rfl;have n15:=Z2.out.c 15 _ rfl;have n16:=Z2.out.c 16 _ rfl;have n17:=Z2.out.c 17 _ rfl;have n18:=Z2.out.c 18 _ rfl;have n19:=Z2.out.c 19 _ rfl;have n20:=Z2.out.c 20 _ rfl;have n21:=Z2.out.c 21 _ rfl;have n22:=Z2.out.c 22 _ rfl))
 refine wp_region_lit ?_
 dsimp only [List.append]
 go_wp2_with (first
  |(go_at_call 27;refine (HC.out _ Q2.out).mono ?_;rintro e9 w3 ⟨rfl,q9⟩;have Q3:=hid (Q2.out.trans q9);have Z1c:=hid (Z1b.out.on q9);have Z2c:=hid (Z2.out.on q9);clear q9;have dd17:=Z1c.out.c 17 _ rfl;have dd18:=Z1c.out.c 18 _ rfl;have dd19:=Z1c.out.c 19 _ rfl;have dd20:=Z1c.out.c 20 _ rfl;have dd21:=Z1c.out.c 21 _ rfl;have dd22:=Z1c.out.c 22 _ rfl;have nn17:=Z2c.out.c 17 _ rfl;have nn18:=Z2c.out.c 18 _ rfl;have nn19:=Z2c.out.c 19 _ rfl;have nn20:=Z2c.out.c 20 _ rfl;have nn21:=Z2c.out.c 21 _ rfl;have nn22:=Z2c.out.c 22 _ rfl)
  |(go_at_call 30;refine (HR.out _ Q3.out).mono ?_;rintro e9 w4 ⟨rfl,q9⟩;have Q4:=hid (Q3.out.trans q9);have Z1d:=hid (Z1c.out.on q9);have Z2d:=hid (Z2c.out.on q9);clear q9;have dr21:=Z1d.out.c 21 _ rfl;have dr22:=Z1d.out.c 22 _ rfl;have nr21:=Z2d.out.c 21 _ rfl;have nr22:=Z2d.out.c 22 _ rfl))
 go_ret
 exact ⟨rfl,Q4.out⟩
end Go.Proofs.YtngnakdbhkjbjaaGreatDoor
