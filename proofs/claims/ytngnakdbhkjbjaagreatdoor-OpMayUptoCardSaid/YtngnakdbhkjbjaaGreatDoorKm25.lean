/- The reference's Area; counterp. -/
import Derived.Test.YtngnakdbhkjbjaaGreatDoorKm16
import Derived.Test.YtngnakdbhkjbjaaGreatDoorKm07
import Derived.Test.YtngnakdbhkjbjaaGreatDoorKm03
import Derived.Deep.RegionHeld3
import Derived.Deep.DrawnRows
set_option linter.unusedVariables false
set_option linter.unusedSimpArgs false
set_option maxRecDepth 100000
set_option maxHeartbeats 8000000
namespace Go.Proofs.YtngnakdbhkjbjaaGreatDoor.R
open Go.RowKit
set_option linter.unusedVariables false
set_option linter.unusedSimpArgs false
attribute [local go_sem ↓] Go.wp_at_zero Go.wp_at_succ
def RN:Prop:=∀ (v:Value) (L l:List Rg.Rc) (w:World),Sl rc 4 w v L→Rg.Nf (Rg.dif (Rg.cnted L) []) l→Calls Tryz.prog 31 #[v] w fun e w'=>∃ v',e=.returned v'∧Own rc 49 4 w.heap.size w' v' l∧Q w w'
theorem rarea_any(HN:RN)(v:Value)(L l:List Rg.Rc)(most mx:Int)(w:World)(h:Sl rc 4 w v L)(hl:Rg.Nf (Rg.dif (Rg.cnted L) []) l)(hll:l.length≤1000000000000)(hm1:most≤9223372036854775807)(hmx:max most 0=mx) :
  Calls Tryz.prog 32 #[v,.int .i64 most] w fun e w'=>e=.returned (.int .i64 (Rg.ar mx 0 l))∧Q w w':=by
 have HNN:=hid (HN v L l w h hl);have HMA:=hid (Rg.nf_mays hl (Rg.dif_inn (Rg.cnted_mays L)));have hm0:0≤mx:=by omega
 have hm2:mx≤9223372036854775807:=by omega
 clear h hl;by_cases hneg:most<0
 ·have HR:Hid (0=Rg.ar mx 0 l):=by
   have:=Rg.ar_bound mx l 0 HMA.out.ok (Int.le_refl _) hm0
   show _=_
   omega
  clear hmx;go_enter Tryz.func32,Tryz.ntmps32
  go_wp2_with (go_at_call 31;refine HNN.out.mono ?_;rintro e w1 ⟨v1,rfl,own1,q1⟩;have HQ1:=hid q1;clear own1 q1)
  go_ret
  exact ⟨ret_int HR.out,HQ1.out⟩
 ·obtain rfl:mx=most:=by omega
  clear hmx;generalize hT:Rg.ar mx 0 l=T;have HT:=hid hT;clear hT;go_enter Tryz.func32,Tryz.ntmps32
  go_wp2_with (go_at_call 31;refine HNN.out.mono ?_;rintro e w1 ⟨v1,rfl,own1,q1⟩;have HS:=hid (own1.sl rc_len (by decide));have HQ1:=hid q1;clear own1 q1;obtain ⟨ao,cap,rfl,_,_⟩:=HS.out.len)
  go_loopw [5,7,8,9] (fun r s _ _ W=>∃ (i:Nat) (nn:Int),i≤l.length∧s=.int .i64 i∧r=.int .i64 nn∧0≤nn∧nn≤mx∧Q w1 W∧Hid (Rg.ar mx nn (l.drop i)=T)) (fun _ s _ _ _=>l.length-(intOf s).toNat)
  case atStart=>exact ⟨0,0,Nat.zero_le _,rfl,rfl,Int.le_refl _,hm0,Q.refl _,by rw [List.drop_zero];exact HT.out⟩
  case round=>
   obtain ⟨i,nn,hi,rfl,rfl,hr0,hr1,hq,HZ⟩:=hrel;have HQ:=hid hq;clear hq;by_cases hlt:i<l.length
   ·have hlt':(i:Int)<(l.length:Int):=by omega
    obtain ⟨g,off,cap',e,_,_,hc⟩:=(HS.out.on HQ.out).at hlt;cases e
    rw [List.drop_eq_getElem_cons hlt]at HZ;have hmay:=HMA.out l[i] (List.getElem_mem _);generalize l[i]=x at *;obtain ⟨xa,xb,xc,xd⟩:=x;obtain ⟨m1,m2,m3,m4,m5,m6⟩:=hmay;simp only at m1 m2 m3 m4 m5 m6
    have c0:wr.cell? ⟨g,off+i*4,none⟩=some (.int .i64 xa):=hc 0 _ rfl
    have c1:wr.cell? ⟨g,off+i*4+1,none⟩=some (.int .i64 xb):=hc 1 _ rfl
    have c2:wr.cell? ⟨g,off+i*4+2,none⟩=some (.int .i64 xc):=hc 2 _ rfl
    have c3:wr.cell? ⟨g,off+i*4+3,none⟩=some (.int .i64 xd):=hc 3 _ rfl
    clear hc;obtain ⟨hh,e1⟩:∃ hh,xc-xa=hh:=⟨_,rfl⟩;obtain ⟨ww,e2⟩:∃ ww,xd-xb=ww:=⟨_,rfl⟩;obtain ⟨rm,e0⟩:∃ rm,mx-nn=rm:=⟨_,rfl⟩;have p0:0≤rm:=by omega
    have p1:0<hh:=by omega
    have p2:hh≤4398046511104:=by omega
    have p3:0<ww:=by omega
    have p4:ww≤4398046511104:=by omega
    have p5:(ww == 0)=false:=by simp;omega
    have p6:rm≤9223372036854775807:=by omega
    have hdv0:0≤Int.tdiv rm ww:=Int.tdiv_nonneg p0 (by omega)
    have hdv1:Int.tdiv rm ww≤rm:=by rw [Int.tdiv_eq_ediv_of_nonneg p0];exact Int.ediv_le_self _ p0
    by_cases hd:Int.tdiv rm ww<hh
    ·have HR:Hid (mx=T):=by
      have:=HZ.out
      rw [ar_stop (by simp only;rw [e1,e2,e0];exact hd)]at this
      exact this
     clear HZ;go_wp2_with fail
     go_quiet (fail)
     go_wp2_with fail
     go_ret
     exact ⟨ret_int HR.out,HQ1.out.trans (HQ.out.drewN _)⟩
    ·have HM:=hid ((Rg.tdiv_lt (h:=hh) p0 p3))
     have hle:hh*ww≤rm:=by
      have h9:=hd;rw [HM.out]at h9;omega
     have hge:0≤hh*ww:=Int.mul_nonneg (by omega) (by omega)
     have HZ2:Hid (Rg.ar mx (nn+hh*ww) (l.drop (i+1))=T):=by
      have:=HZ.out
      rw [ar_go (by simp only;rw [e1,e2,e0];exact hd)]at this
      simp only at this
      rw [e1,e2]at this;exact this
     clear HZ HM;obtain ⟨pp,e3⟩:∃ pp,hh*ww=pp:=⟨_,rfl⟩;rw [e3]at hle hge HZ2;go_wp2_with fail
     go_quiet (fail)
     go_wp2_with fail
     exact ⟨⟨i+1,nn+pp,by omega,by go_num,by go_num,by omega,by omega,HQ.out.drewN _,HZ2⟩,by simp [intOf];omega⟩
   ·have hlt':¬ (i:Int)<(l.length:Int):=by omega
    have HR:Hid (nn=T):=by
     have:=HZ.out
     rw [List.drop_eq_nil_of_le (by omega)]at this
     exact this
    clear HZ;go_wp2_with fail
    go_ret
    exact ⟨ret_int HR.out,HQ1.out.trans HQ.out⟩
end Go.Proofs.YtngnakdbhkjbjaaGreatDoor.R
