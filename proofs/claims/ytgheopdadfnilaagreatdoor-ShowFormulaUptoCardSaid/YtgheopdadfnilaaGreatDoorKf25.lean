/- P.first of the reference, walk. -/
import Derived.Test.YtgheopdadfnilaaGreatDoorKf14
set_option linter.unusedVariables false
set_option linter.unusedSimpArgs false
set_option maxRecDepth 100000
set_option maxHeartbeats 8000000
namespace Go.Proofs.YtgheopdadfnilaaGreatDoor
open Go.RowKit
theorem first_other(L:List Wd)(p b off cap:Nat)(s:St)(W:World)(h:PS W p L b off cap s.i s.bd s.n)(hi:s.i<L.length)(hr:L.length≤50000)(hn:s.n≤s.i)(hw:isW L s.i [40]=false)(hk:kAt L s.i=6∨kAt L s.i=7) :
  Calls Tryz.prog 105 #[.pointer (some ⟨p,0,none⟩)] W fun e W'=>Rep p L b off cap W (zeroE,s.bad) e W':=by
 have hlt:=h.lt;have hbW:=h.blk hi;obtain ⟨T,q,hT,kw⟩:=h.kw hi;have HTT:=hid hT;have HK:=hid kw;have hpW:p≠W.heap.size:=by omega
 have k1:((kAt L s.i:Int) == 1)=false:=by rw [beq_eq_false_iff_ne];omega
 have k2:((kAt L s.i:Int) == 2)=false:=by rw [beq_eq_false_iff_ne];omega
 have k5:((kAt L s.i:Int) == 5)=false:=by rw [beq_eq_false_iff_ne];omega
 have k3:((kAt L s.i:Int) == 3)=false:=by rw [beq_eq_false_iff_ne];omega
 have k4:((kAt L s.i:Int) == 4)=false:=by rw [beq_eq_false_iff_ne];omega
 generalize hkk:(kAt L s.i:Int)=kk at HK k1 k2 k3 k4 k5;clear hk;have HP:=hid h;have hroom:(s.i:Int)+1≤9223372036854775807:=by omega
 have HZ:=hid ((tb_new W (.int .i64 0) (.int .i64 0) (.string ⟨#[]⟩) (.bool false) (.int .i64 0) (.slice none 0 0) (.slice none 0 0) 26).on (((Qx.refl p _).alloc (.cells #[.int .i64 kk,.string T,.int .i64 q] 74)).drew) (by omega))
 have HB:=hid ((wb_new (W.alloc (.cells #[.int .i64 0,.int .i64 0,.string ⟨#[]⟩,.bool false,.int .i64 0,.slice none 0 0,.slice none 0 0] 26)) (.int .i64 kk) (.string T) (.int .i64 q) 74).on ((Qx.refl p _).drew) (by simp;omega))
 rw [show (W.alloc (.cells #[.int .i64 0,.int .i64 0,.string ⟨#[]⟩,.bool false,.int .i64 0,.slice none 0 0,.slice none 0 0] 26)).heap.size=W.heap.size+1 by simp]at HB
 have hc:=hid (fun W1 (g:PS W1 p L b off cap s.i s.bd s.n)=>take_any W1 p L b off cap s.i s.bd s.n ⟨#[40]⟩ g hi)
 rw [show (⟨#[40]⟩:ByteArray).data.toList=[40] from rfl,hw]at hc
 clear h kw hT;go_enter Tryz.func105,Tryz.ntmps105
 go_wp2_with fail
 go_region_held3 (fun V=>V.cell? ⟨p,0,none⟩=some (.slice (some ⟨b,off,none⟩) L.length cap)∧V.cell? ⟨p,1,none⟩=some (.int .i64 (s.i:Int))∧V.cell? ⟨b,off+s.i*3,none⟩=some (.int .i64 kk)∧V.cell? ⟨b,off+s.i*3+1,none⟩=some (.string T)∧V.cell? ⟨b,off+s.i*3+2,none⟩=some (.int .i64 q)) (exact HK.out.on (by repeat (first|exact Q.refl _|refine Q.drewN ?_ _|refine Q.drew ?_|refine Q.alloc ?_ _|refine Q.setCell ?_ (by simp) _))) (fail)
 go_wp2_with (go_at_call 104;refine (hc.out _ (HP.out.on (by repeat (first|exact Q.refl _|refine Q.drewN ?_ _|refine Q.drew ?_|refine Q.alloc ?_ _|refine Q.setCell ?_ (by simp) _)))).mono ?_;rintro e w1 ⟨rfl,q1,p1⟩;have Q1:Hid (Qx p W w1):=hid (Qx.trans (by repeat (first|with_reducible exact Qx.refl _ _|with_reducible refine Qx.drewN ?_ _|with_reducible refine Qx.drew ?_|with_reducible refine Qx.alloc ?_ _|with_reducible refine Qx.own ?_ _ _|with_reducible refine Qx.new ?_ (by simp) _ _)) q1);have P1:=hid p1;have Z1:=hid (HZ.out.on q1 (by omega));have B1:=hid (HB.out.on q1 (by omega));clear q1 p1;have x1:=P1.out.c1;have z1:=P1.out.f1;have x2:=P1.out.c2;have z2:=P1.out.f2;have d0:=Z1.out.g0;have d1:=Z1.out.g1;have d2:=Z1.out.g2;have d3:=Z1.out.g3;have d4:=Z1.out.g4;have d5:=Z1.out.g5;have d6:=Z1.out.g6;have y0:=Z1.out.f 0;have y1:=Z1.out.f 1;have y2:=Z1.out.f 2;have y3:=Z1.out.f 3;have y4:=Z1.out.f 4;have y5:=Z1.out.f 5;have y6:=Z1.out.f 6;have b0:=B1.out.g0;have b1:=B1.out.g1;have b2:=B1.out.g2)
 refine bodyPost_ret (v:=.agg #[.int .i64 0,.int .i64 0,.string ⟨#[]⟩,.bool false,.int .i64 0,.slice none 0 0,.slice none 0 0]) (by simp [results,Tryz.results105,go_sem,d0,d1,d2,d3,d4,d5,d6,hpW]) rfl ?_
 have hq:Qx p W _:=((Q1.out.own 1 (.int .i64 ((s.i:Int)+1))).own 1 (.int .i64 (s.i:Int))).own 2 (.bool true)
 have PY:=((P1.out.set1 (s.i+1) ((s.i:Int)+1) (by omega)).set1 s.i (s.i:Int) rfl).set2 true
 exact fin7 (s':=s.bad) 0 0 ⟨#[]⟩ false 0 none 0 0 none 0 0 hlt hbW hq (rdg_zero _ _) PY
end Go.Proofs.YtgheopdadfnilaaGreatDoor
