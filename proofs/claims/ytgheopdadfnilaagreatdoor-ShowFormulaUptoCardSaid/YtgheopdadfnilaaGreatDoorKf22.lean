/- P.call of the reference, walke. -/
import Derived.Test.YtgheopdadfnilaaGreatDoorKf14
import Derived.Maps.AppendAt
set_option linter.unusedVariables false
set_option linter.unusedSimpArgs false
set_option maxRecDepth 100000
set_option maxHeartbeats 8000000
namespace Go.Proofs.YtgheopdadfnilaaGreatDoor
open Go.RowKit
theorem fin7g{p:Nat}{L:List Wd}{b off cap:Nat}{W w3:World}{x:Ex}{s':St}(RB:Nat)(k m:Int)(t:ByteArray)(bb:Bool)(er:Int)(a1:Option Addr)(l1 c1:Nat)(a2:Option Addr)(l2 c2:Nat)(hRB:W.heap.size≤RB)(hp:p<W.heap.size)(hb:b<W.heap.size)(hq:Qx p W w3)(hr:Rdg (fun b=>W.heap.size≤b∧b≠RB) w3 x (.agg #[.int .i64 k,.int .i64 m,.string t,.bool bb,.int .i64 er,.slice a1 l1 c1,.slice a2 l2 c2]))(h:PS w3 p L b off cap s'.i s'.bd s'.n) :
  Rep p L b off cap W (x,s') (.returned (.agg #[.int .i64 k,.int .i64 m,.string t,.bool bb,.int .i64 er,.slice a1 l1 c1,.slice a2 l2 c2])) (((((((w3.setCell ⟨RB,0,none⟩ (.int .i64 k)).setCell ⟨RB,1,none⟩ (.int .i64 m)).setCell ⟨RB,2,none⟩ (.string t)).setCell ⟨RB,3,none⟩ (.bool bb)).setCell ⟨RB,4,none⟩ (.int .i64 er)).setCell ⟨RB,5,none⟩ (.slice a1 l1 c1)).setCell ⟨RB,6,none⟩ (.slice a2 l2 c2)):=by
 have QF:Qx RB w3 (((((((w3.setCell ⟨RB,0,none⟩ (.int .i64 k)).setCell ⟨RB,1,none⟩ (.int .i64 m)).setCell ⟨RB,2,none⟩ (.string t)).setCell ⟨RB,3,none⟩ (.bool bb)).setCell ⟨RB,4,none⟩ (.int .i64 er)).setCell ⟨RB,5,none⟩ (.slice a1 l1 c1)).setCell ⟨RB,6,none⟩ (.slice a2 l2 c2)):=(((((((Qx.refl _ _).own _ _).own _ _).own _ _).own _ _).own _ _).own _ _).own _ _
 refine ⟨_,rfl,Rdg.mono (fun b hb=>hb.1) _ _ (Rdg.on QF (fun b hb=>hb.2) _ _ hr),?_,h.onx QF (by omega) (by omega)⟩
 exact ((((((hq.new hRB _ _).new hRB _ _).new hRB _ _).new hRB _ _).new hRB _ _).new hRB _ _).new hRB _ _
theorem call_true(L:List Wd)(p b off cap:Nat)(s:St)(W:World)(T:ByteArray)(q:Int)(t:List UInt8)(hT:T.data.toList=t)(h:PS W p L b off cap s.i s.bd s.n)(hi:s.i<L.length)(hr:L.length≤50000)(hn:s.n≤s.i)(ht:t=truW) :
  Calls Tryz.prog 139 #[.pointer (some ⟨p,0,none⟩),.agg #[.int .i64 4,.string T,.int .i64 q]] W fun e W'=>Rep p L b off cap W (boolE (decide (t=truW)),s.node) e W':=by
 have hlt:=h.lt;have hbW:=h.blk hi;have HTT:=hid hT;have et:=hid (toL T);have HP:=hid h;have HB:=hid ((wb_new W (.int .i64 4) (.string T) (.int .i64 q) 74).on ((Qx.refl p _).alloc (.cells #[.int .i64 0,.int .i64 0,.string ⟨#[]⟩,.bool false,.int .i64 0,.slice none 0 0,.slice none 0 0] 26)) (by omega))
 have HZ:=hid (tb_new (W.alloc (.cells #[.int .i64 4,.string T,.int .i64 q] 74)) (.int .i64 0) (.int .i64 0) (.string ⟨#[]⟩) (.bool false) (.int .i64 0) (.slice none 0 0) (.slice none 0 0) 26);rw [show (W.alloc (.cells #[.int .i64 4,.string T,.int .i64 q] 74)).heap.size=W.heap.size+1 by simp]at HZ
 have f1:(T.toList == [84,82,85,69])=true:=by rw [et.out,hT,ht];rfl
 have HD:Hid (decide (t=truW)=true):=by show _=_;rw [ht];decide
 clear hT ht et;clear h;go_enter Tryz.func139,Tryz.ntmps139
 go_wp2_with (go_at_call 74;refine (node_any _ p L b off cap _ _ _ (HP.out.on (by repeat (first|with_reducible exact Q.refl _|with_reducible refine Q.drewN ?_ _|with_reducible refine Q.drew ?_|with_reducible refine Q.alloc ?_ _|with_reducible refine Q.setCell ?_ (by simp) _))) (by omega) 3 0 ⟨#[]⟩ true 0 none 0 0 none 0 0).mono ?_;rintro e w3 ⟨rfl,q3,p3⟩;have Q3:Hid (Qx p W w3):=hid (Qx.trans (by repeat (first|with_reducible exact Qx.refl _ _|with_reducible refine Qx.drewN ?_ _|with_reducible refine Qx.drew ?_|with_reducible refine Qx.alloc ?_ _|with_reducible refine Qx.own ?_ _ _|with_reducible refine Qx.new ?_ (by simp) _ _)) q3);have P3:=hid p3;have Z3:=hid (HZ.out.on (Qx.trans (by repeat (first|with_reducible exact Qx.refl _ _|with_reducible refine Qx.drewN ?_ _|with_reducible refine Qx.drew ?_|with_reducible refine Qx.alloc ?_ _|with_reducible refine Qx.own ?_ _ _|with_reducible refine Qx.new ?_ (by simp) _ _)) q3) (by omega));clear q3 p3;have d0:=Z3.out.g0;have d1:=Z3.out.g1;have d2:=Z3.out.g2;have d3:=Z3.out.g3;have d4:=Z3.out.g4;have d5:=Z3.out.g5;have d6:=Z3.out.g6;have y0:=Z3.out.f 0;have y1:=Z3.out.f 1;have y2:=Z3.out.f 2;have y3:=Z3.out.f 3;have y4:=Z3.out.f 4;have y5:=Z3.out.f 5;have y6:=Z3.out.f 6)
 refine bodyPost_ret (v:=.agg #[.int .i64 3,.int .i64 0,.string ⟨#[]⟩,.bool true,.int .i64 0,.slice none 0 0,.slice none 0 0]) (by simp [results,Tryz.results139,go_sem,d0,d1,d2,d3,d4,d5,d6]) rfl ?_
 rw [HD.out];exact fin7g (s':=s.node) (W.heap.size+1) 3 0 ⟨#[]⟩ true 0 none 0 0 none 0 0 (by omega) hlt hbW Q3.out (rdg_leaf 3 0 [] ⟨#[]⟩ rfl true 0) P3.out
theorem call_false(L:List Wd)(p b off cap:Nat)(s:St)(W:World)(T:ByteArray)(q:Int)(t:List UInt8)(hT:T.data.toList=t)(h:PS W p L b off cap s.i s.bd s.n)(hi:s.i<L.length)(hr:L.length≤50000)(hn:s.n≤s.i)(ht:t=flsW) :
  Calls Tryz.prog 139 #[.pointer (some ⟨p,0,none⟩),.agg #[.int .i64 4,.string T,.int .i64 q]] W fun e W'=>Rep p L b off cap W (boolE (decide (t=truW)),s.node) e W':=by
 have hlt:=h.lt;have hbW:=h.blk hi;have HTT:=hid hT;have et:=hid (toL T);have HP:=hid h;have HB:=hid ((wb_new W (.int .i64 4) (.string T) (.int .i64 q) 74).on ((Qx.refl p _).alloc (.cells #[.int .i64 0,.int .i64 0,.string ⟨#[]⟩,.bool false,.int .i64 0,.slice none 0 0,.slice none 0 0] 26)) (by omega))
 have HZ:=hid (tb_new (W.alloc (.cells #[.int .i64 4,.string T,.int .i64 q] 74)) (.int .i64 0) (.int .i64 0) (.string ⟨#[]⟩) (.bool false) (.int .i64 0) (.slice none 0 0) (.slice none 0 0) 26);rw [show (W.alloc (.cells #[.int .i64 4,.string T,.int .i64 q] 74)).heap.size=W.heap.size+1 by simp]at HZ
 have f1:(T.toList == [84,82,85,69])=false:=by rw [et.out,hT,ht];rfl
 have f2:(T.toList == [70,65,76,83,69])=true:=by rw [et.out,hT,ht];rfl
 have HD:Hid (decide (t=truW)=false):=by show _=_;rw [ht];decide
 clear hT ht et;clear h;go_enter Tryz.func139,Tryz.ntmps139
 go_wp2_with (go_at_call 74;refine (node_any _ p L b off cap _ _ _ (HP.out.on (by repeat (first|with_reducible exact Q.refl _|with_reducible refine Q.drewN ?_ _|with_reducible refine Q.drew ?_|with_reducible refine Q.alloc ?_ _|with_reducible refine Q.setCell ?_ (by simp) _))) (by omega) 3 0 ⟨#[]⟩ false 0 none 0 0 none 0 0).mono ?_;rintro e w3 ⟨rfl,q3,p3⟩;have Q3:Hid (Qx p W w3):=hid (Qx.trans (by repeat (first|with_reducible exact Qx.refl _ _|with_reducible refine Qx.drewN ?_ _|with_reducible refine Qx.drew ?_|with_reducible refine Qx.alloc ?_ _|with_reducible refine Qx.own ?_ _ _|with_reducible refine Qx.new ?_ (by simp) _ _)) q3);have P3:=hid p3;have Z3:=hid (HZ.out.on (Qx.trans (by repeat (first|with_reducible exact Qx.refl _ _|with_reducible refine Qx.drewN ?_ _|with_reducible refine Qx.drew ?_|with_reducible refine Qx.alloc ?_ _|with_reducible refine Qx.own ?_ _ _|with_reducible refine Qx.new ?_ (by simp) _ _)) q3) (by omega));clear q3 p3;have d0:=Z3.out.g0;have d1:=Z3.out.g1;have d2:=Z3.out.g2;have d3:=Z3.out.g3;have d4:=Z3.out.g4;have d5:=Z3.out.g5;have d6:=Z3.out.g6;have y0:=Z3.out.f 0;have y1:=Z3.out.f 1;have y2:=Z3.out.f 2;have y3:=Z3.out.f 3;have y4:=Z3.out.f 4;have y5:=Z3.out.f 5;have y6:=Z3.out.f 6)
 refine bodyPost_ret (v:=.agg #[.int .i64 3,.int .i64 0,.string ⟨#[]⟩,.bool false,.int .i64 0,.slice none 0 0,.slice none 0 0]) (by simp [results,Tryz.results139,go_sem,d0,d1,d2,d3,d4,d5,d6]) rfl ?_
 rw [HD.out];exact fin7g (s':=s.node) (W.heap.size+1) 3 0 ⟨#[]⟩ false 0 none 0 0 none 0 0 (by omega) hlt hbW Q3.out (rdg_leaf 3 0 [] ⟨#[]⟩ rfl false 0) P3.out
theorem call_none(L:List Wd)(p b off cap:Nat)(s:St)(W:World)(T:ByteArray)(q:Int)(t:List UInt8)(hT:T.data.toList=t)(h:PS W p L b off cap s.i s.bd s.n)(hi:s.i<L.length)(hr:L.length≤50000)(hn:s.n≤s.i)(ht:¬ (t=truW∨t=flsW))(hw:isW L s.i [40]=false) :
  Calls Tryz.prog 139 #[.pointer (some ⟨p,0,none⟩),.agg #[.int .i64 4,.string T,.int .i64 q]] W fun e W'=>Rep p L b off cap W (callE t [],s.bad) e W':=by
 have hlt:=h.lt;have hbW:=h.blk hi;have HTT:=hid hT;have et:=hid (toL T);have HP:=hid h;have HB:=hid ((wb_new W (.int .i64 4) (.string T) (.int .i64 q) 74).on ((Qx.refl p _).alloc (.cells #[.int .i64 0,.int .i64 0,.string ⟨#[]⟩,.bool false,.int .i64 0,.slice none 0 0,.slice none 0 0] 26)) (by omega))
 have HZ:=hid (tb_new (W.alloc (.cells #[.int .i64 4,.string T,.int .i64 q] 74)) (.int .i64 0) (.int .i64 0) (.string ⟨#[]⟩) (.bool false) (.int .i64 0) (.slice none 0 0) (.slice none 0 0) 26);rw [show (W.alloc (.cells #[.int .i64 4,.string T,.int .i64 q] 74)).heap.size=W.heap.size+1 by simp]at HZ
 have f1:(T.toList == [84,82,85,69])=false:=by rw [et.out,hT,beq_eq_false_iff_ne];exact fun e=>ht (.inl e)
 have f2:(T.toList == [70,65,76,83,69])=false:=by rw [et.out,hT,beq_eq_false_iff_ne];exact fun e=>ht (.inr e)
 have hc:=hid (fun W1 (g:PS W1 p L b off cap s.i s.bd s.n)=>take_any W1 p L b off cap s.i s.bd s.n ⟨#[40]⟩ g hi)
 rw [show (⟨#[40]⟩:ByteArray).data.toList=[40] from rfl,hw]at hc
 have X0:=hid (tb_new ((W.alloc (.cells #[.int .i64 4,.string T,.int .i64 q] 74)).alloc (.cells #[.int .i64 0,.int .i64 0,.string ⟨#[]⟩,.bool false,.int .i64 0,.slice none 0 0,.slice none 0 0] 26)) (.int .i64 9) (.int .i64 0) (.string T) (.bool false) (.int .i64 0) (.slice none 0 0) (.slice none 0 0) 26);rw [show ((W.alloc (.cells #[.int .i64 4,.string T,.int .i64 q] 74)).alloc (.cells #[.int .i64 0,.int .i64 0,.string ⟨#[]⟩,.bool false,.int .i64 0,.slice none 0 0,.slice none 0 0] 26)).heap.size=W.heap.size+2 by simp]at X0
 have hp0:p≠W.heap.size+1:=by omega
 have hp1:p≠W.heap.size+2:=by omega
 clear hT ht et;clear h;go_enter Tryz.func139,Tryz.ntmps139
 go_wp2_with (go_at_call 104;refine (hc.out _ (HP.out.on (by repeat (first|with_reducible exact Q.refl _|with_reducible refine Q.drewN ?_ _|with_reducible refine Q.drew ?_|with_reducible refine Q.alloc ?_ _|with_reducible refine Q.setCell ?_ (by simp) _)))).mono ?_;rintro e w1 ⟨rfl,q1,p1⟩;have Q1:Hid (Qx p W w1):=hid (Qx.trans (by repeat (first|with_reducible exact Qx.refl _ _|with_reducible refine Qx.drewN ?_ _|with_reducible refine Qx.drew ?_|with_reducible refine Qx.alloc ?_ _|with_reducible refine Qx.own ?_ _ _|with_reducible refine Qx.new ?_ (by simp) _ _)) q1);have P1:=hid p1;have Z1:=hid (HZ.out.on (Qx.trans (by repeat (first|with_reducible exact Qx.refl _ _|with_reducible refine Qx.drewN ?_ _|with_reducible refine Qx.drew ?_|with_reducible refine Qx.alloc ?_ _|with_reducible refine Qx.own ?_ _ _|with_reducible refine Qx.new ?_ (by simp) _ _)) q1) (by omega));have X1:=hid (X0.out.on q1 (by omega));have B1:=hid (HB.out.on (Qx.trans (by repeat (first|with_reducible exact Qx.refl _ _|with_reducible refine Qx.drewN ?_ _|with_reducible refine Qx.drew ?_|with_reducible refine Qx.alloc ?_ _|with_reducible refine Qx.own ?_ _ _|with_reducible refine Qx.new ?_ (by simp) _ _)) q1) (by omega));clear q1 p1;have x2:=P1.out.c2;have z2:=P1.out.f2;have bw:=B1.out.g1;have d0:=Z1.out.g0;have d1:=Z1.out.g1;have d2:=Z1.out.g2;have d3:=Z1.out.g3;have d4:=Z1.out.g4;have d5:=Z1.out.g5;have d6:=Z1.out.g6;have y0:=Z1.out.f 0;have y1:=Z1.out.f 1;have y2:=Z1.out.f 2;have y3:=Z1.out.f 3;have y4:=Z1.out.f 4;have y5:=Z1.out.f 5;have y6:=Z1.out.f 6;have n0:=X1.out.g0;have n1:=X1.out.g1;have n2:=X1.out.g2;have n3:=X1.out.g3;have n4:=X1.out.g4;have n5:=X1.out.g5;have n6:=X1.out.g6)
 refine bodyPost_ret (v:=.agg #[.int .i64 9,.int .i64 0,.string T,.bool false,.int .i64 0,.slice none 0 0,.slice none 0 0]) (by simp [results,Tryz.results139,go_sem,d0,d1,d2,d3,d4,d5,d6,n0,n1,n2,n3,n4,n5,n6,hp0]) rfl ?_
 exact fin7g (s':=s.bad) (W.heap.size+1) 9 0 T false 0 none 0 0 none 0 0 (by omega) hlt hbW (Q1.out.own 2 (.bool true)) (rdg_leaf 9 0 t T HTT.out false 0) (P1.out.set2 true)
theorem call_long(L:List Wd)(p b off cap:Nat)(s:St)(W:World)(T:ByteArray)(q:Int)(t:List UInt8)(hT:T.data.toList=t)(h:PS W p L b off cap s.i s.bd s.n)(hi:s.i<L.length)(hr:L.length≤50000)(hn:s.n≤s.i)(ht:¬ (t=truW∨t=flsW))(hw:isW L s.i [40]=true)(hl:20<t.length) :
  Calls Tryz.prog 139 #[.pointer (some ⟨p,0,none⟩),.agg #[.int .i64 4,.string T,.int .i64 q]] W fun e W'=>Rep p L b off cap W (callE t [],s.on.bad) e W':=by
 have hlt:=h.lt;have hbW:=h.blk hi;have HTT:=hid hT;have et:=hid (toL T);have HP:=hid h;have HB:=hid ((wb_new W (.int .i64 4) (.string T) (.int .i64 q) 74).on ((Qx.refl p _).alloc (.cells #[.int .i64 0,.int .i64 0,.string ⟨#[]⟩,.bool false,.int .i64 0,.slice none 0 0,.slice none 0 0] 26)) (by omega))
 have HZ:=hid (tb_new (W.alloc (.cells #[.int .i64 4,.string T,.int .i64 q] 74)) (.int .i64 0) (.int .i64 0) (.string ⟨#[]⟩) (.bool false) (.int .i64 0) (.slice none 0 0) (.slice none 0 0) 26);rw [show (W.alloc (.cells #[.int .i64 4,.string T,.int .i64 q] 74)).heap.size=W.heap.size+1 by simp]at HZ
 have f1:(T.toList == [84,82,85,69])=false:=by rw [et.out,hT,beq_eq_false_iff_ne];exact fun e=>ht (.inl e)
 have f2:(T.toList == [70,65,76,83,69])=false:=by rw [et.out,hT,beq_eq_false_iff_ne];exact fun e=>ht (.inr e)
 have hc:=hid (fun W1 (g:PS W1 p L b off cap s.i s.bd s.n)=>take_any W1 p L b off cap s.i s.bd s.n ⟨#[40]⟩ g hi)
 rw [show (⟨#[40]⟩:ByteArray).data.toList=[40] from rfl,hw]at hc
 have X0:=hid (tb_new ((W.alloc (.cells #[.int .i64 4,.string T,.int .i64 q] 74)).alloc (.cells #[.int .i64 0,.int .i64 0,.string ⟨#[]⟩,.bool false,.int .i64 0,.slice none 0 0,.slice none 0 0] 26)) (.int .i64 9) (.int .i64 0) (.string T) (.bool false) (.int .i64 0) (.slice none 0 0) (.slice none 0 0) 26);rw [show ((W.alloc (.cells #[.int .i64 4,.string T,.int .i64 q] 74)).alloc (.cells #[.int .i64 0,.int .i64 0,.string ⟨#[]⟩,.bool false,.int .i64 0,.slice none 0 0,.slice none 0 0] 26)).heap.size=W.heap.size+2 by simp]at X0
 have hp0:p≠W.heap.size+1:=by omega
 have hp1:p≠W.heap.size+2:=by omega
 have hsz:(20:Int)<(T.size:Int):=by rw [←hT]at hl;simp at hl;omega
 clear hl;clear hT ht et;clear h;go_enter Tryz.func139,Tryz.ntmps139
 go_wp2_with (go_at_call 104;refine (hc.out _ (HP.out.on (by repeat (first|with_reducible exact Q.refl _|with_reducible refine Q.drewN ?_ _|with_reducible refine Q.drew ?_|with_reducible refine Q.alloc ?_ _|with_reducible refine Q.setCell ?_ (by simp) _)))).mono ?_;rintro e w1 ⟨rfl,q1,p1⟩;have Q1:Hid (Qx p W w1):=hid (Qx.trans (by repeat (first|with_reducible exact Qx.refl _ _|with_reducible refine Qx.drewN ?_ _|with_reducible refine Qx.drew ?_|with_reducible refine Qx.alloc ?_ _|with_reducible refine Qx.own ?_ _ _|with_reducible refine Qx.new ?_ (by simp) _ _)) q1);have P1:=hid p1;have Z1:=hid (HZ.out.on (Qx.trans (by repeat (first|with_reducible exact Qx.refl _ _|with_reducible refine Qx.drewN ?_ _|with_reducible refine Qx.drew ?_|with_reducible refine Qx.alloc ?_ _|with_reducible refine Qx.own ?_ _ _|with_reducible refine Qx.new ?_ (by simp) _ _)) q1) (by omega));have X1:=hid (X0.out.on q1 (by omega));have B1:=hid (HB.out.on (Qx.trans (by repeat (first|with_reducible exact Qx.refl _ _|with_reducible refine Qx.drewN ?_ _|with_reducible refine Qx.drew ?_|with_reducible refine Qx.alloc ?_ _|with_reducible refine Qx.own ?_ _ _|with_reducible refine Qx.new ?_ (by simp) _ _)) q1) (by omega));clear q1 p1;have x2:=P1.out.c2;have z2:=P1.out.f2;have bw:=B1.out.g1;have d0:=Z1.out.g0;have d1:=Z1.out.g1;have d2:=Z1.out.g2;have d3:=Z1.out.g3;have d4:=Z1.out.g4;have d5:=Z1.out.g5;have d6:=Z1.out.g6;have y0:=Z1.out.f 0;have y1:=Z1.out.f 1;have y2:=Z1.out.f 2;have y3:=Z1.out.f 3;have y4:=Z1.out.f 4;have y5:=Z1.out.f 5;have y6:=Z1.out.f 6;have n0:=X1.out.g0;have n1:=X1.out.g1;have n2:=X1.out.g2;have n3:=X1.out.g3;have n4:=X1.out.g4;have n5:=X1.out.g5;have n6:=X1.out.g6)
 refine bodyPost_ret (v:=.agg #[.int .i64 9,.int .i64 0,.string T,.bool false,.int .i64 0,.slice none 0 0,.slice none 0 0]) (by simp [results,Tryz.results139,go_sem,d0,d1,d2,d3,d4,d5,d6,n0,n1,n2,n3,n4,n5,n6,hp0]) rfl ?_
 exact fin7g (s':=s.on.bad) (W.heap.size+1) 9 0 T false 0 none 0 0 none 0 0 (by omega) hlt hbW (Q1.out.own 2 (.bool true)) (rdg_leaf 9 0 t T HTT.out false 0) (P1.out.set2 true)
structure V7 where
 c0:Value
 c1:Value
 c2:Value
 c3:Value
 c4:Value
 c5:Value
 c6:Value
def enc7(x:V7):List Value:=[x.c0,x.c1,x.c2,x.c3,x.c4,x.c5,x.c6]
def agg7(x:V7):Value:=.agg #[x.c0,x.c1,x.c2,x.c3,x.c4,x.c5,x.c6]
theorem enc7_len(x:V7):(enc7 x).length=7:=rfl
theorem info28:(Tryz.prog.info? 26).map (fun i=>(i.zero,i.size,i.bytes))=some (some (.agg #[.int .i64 0,.int .i64 0,.string ⟨#[]⟩,.bool false,.int .i64 0,.slice none 0 0,.slice none 0 0]),7,96):=by kernel_rfl
theorem Tb.put6{W:World}{q:Nat}{c0 c1 c2 c3 c4 c5 c6:Value}(h:Tb W q c0 c1 c2 c3 c4 c5 c6)(d:Value):Tb (W.setCell ⟨q,6,none⟩ d) q c0 c1 c2 c3 c4 c5 d:=by
 obtain ⟨h0,h1,h2,h3,h4,h5,h6,hf⟩:=h;refine ⟨?_,?_,?_,?_,?_,?_,World.cell?_setCell_same _ _ _ h6,fun j=>by rw [World.frozen?_setCell];exact hf j⟩
 all_goals (rw [World.cell?_setCell_other _ _ _ _ (by simp)];assumption)
theorem grown_qx{w w':World}{v:Value}{n:Nat}(g:w.grownBy w' v.ownBlock)(hn:n≤w.heap.size)(ho:∀ j,v.ownBlock=some j→n≤j):∃ r,Qx r w w'∧n≤r∧(v.ownBlock=some r∨r=w.heap.size):=by
 cases hv:v.ownBlock with
 |none=>
  rw [hv]at g;exact ⟨w.heap.size,⟨g.os,g.tape,g.output,g.size,fun i hi _=>g.block i hi (fun e=>by cases e)⟩,hn,.inr rfl⟩
 |some j=>
  rw [hv]at g;exact ⟨j,g,ho j hv,.inl rfl⟩
theorem rdl_row{g:Nat→Prop}{W:World}{B q:Nat}:∀ (ks:List Ex) (Ls:List V7) (o:Nat),ks.length=Ls.length→(∀ i (h:i<Ls.length),Ats enc7 W q (o+i*7) Ls[i])→(∀ i (h:i<ks.length) (h':i<Ls.length),Rdg g W ks[i] (agg7 Ls[i]))→Rdg.RdLg g W ks q o:=by
 intro ks
 induction ks with
 |nil=>intro Ls o _ _ _;unfold Rdg.RdLg;trivial
 |cons x xs ih=>
  intro Ls o hl ha hr
  cases Ls with
  |nil=>simp at hl
  |cons y ys=>
   unfold Rdg.RdLg
   have h0:=ha 0 (by simp)
   simp only [List.getElem_cons_zero,Nat.zero_mul,Nat.add_zero]at h0
   refine ⟨⟨y.c0,y.c1,y.c2,y.c3,y.c4,y.c5,y.c6,h0 0 _ rfl,h0 1 _ rfl,h0 2 _ rfl,h0 3 _ rfl,h0 4 _ rfl,h0 5 _ rfl,h0 6 _ rfl,hr 0 (by simp) (by simp)⟩,?_⟩
   refine ih ys (o+7) (by simpa using hl) (fun i h=>?_) (fun i h h'=>?_)
   ·have:=ha (i+1) (by simpa using h)
    simp only [List.getElem_cons_succ]at this
    rw [show o+7+i*7=o+(i+1)*7 by omega]
    exact this
   ·exact hr (i+1) (by simpa using h) (by simpa using h')
theorem rdg_call{g:Nat→Prop}{W:World}{B:Nat}{t:List UInt8}{T:ByteArray}(hT:T.data.toList=t){ks:List Ex}{Ls:List V7}{kv:Value}(ow:Own enc7 26 7 B W kv Ls)(hl:ks.length=Ls.length)(hb:∀ j,kv.ownBlock=some j→g j)(hr:∀ i (h:i<ks.length) (h':i<Ls.length),Rdg g W ks[i] (agg7 Ls[i])) :
  Rdg g W (callE t ks) (.agg #[.int .i64 9,.int .i64 0,.string T,.bool false,.int .i64 0,.slice none 0 0,kv]):=by
 have e:T=⟨t.toArray⟩:=bytes_eq hT
 subst e;unfold callE Rdg
 refine ⟨_,_,rfl,⟨none,0,rfl,Nat.le_refl _,Nat.zero_le _,fun h=>absurd h (by simp)⟩,?_⟩
 obtain ⟨ao,cap,hv,h1,h2⟩:=(ow.sl enc7_len (by omega)).len
 refine ⟨ao,cap,by rw [hl];exact hv,by omega,h2,fun hn=>?_⟩
 have hpos:0<Ls.length:=by rw [←hl];exact List.length_pos_iff.2 hn
 obtain ⟨g',cap',hv',_,_,_,_⟩:=ow.shape hpos;refine ⟨g',0,?_,hb g' (by rw [hv'];rfl),?_,?_⟩
 ·rw [hv]at hv'
  simp only [Value.slice.injEq]at hv'
  exact hv'.1
 ·obtain ⟨_,ho⟩:=ow
  rcases ho with ⟨hv0,_⟩|⟨g0,cap0,cur0,hv0,_,hg0,_⟩
  ·rw [hv0]at hv';cases hv'
  ·rw [hv0]at hv'
   simp only [Value.slice.injEq,Option.some.injEq,Addr.mk.injEq]at hv'
   exact ⟨_,_,by rw [←hv'.1.1];exact hg0⟩
 ·rw [hv']at ow
  exact rdl_row (B:=B) ks Ls 0 hl (fun i h=>by rw [Nat.zero_add];exact ow.cell enc7_len h) hr
structure AI (L:List Wd) (p b off cap:Nat) (W:World) (T:ByteArray) (t:List UInt8) (R:Ex × St) (W':World) (f':Nat) (ks:List Ex) (s1:St) (Ls:List V7) (ao:Option Addr) (cp:Nat):Prop where
 st:PS W' p L b off cap s1.i s1.bd s1.n
 lt:s1.i<L.length
 nb:s1.n+1≤s1.i
 fe:treeF.argsF EE L f' t ks s1=some R
 xb:Tb W' (W.heap.size+2) (.int .i64 9) (.int .i64 0) (.string T) (.bool false) (.int .i64 0) (.slice none 0 0) (.slice ao Ls.length cp)
 zb:Tb W' (W.heap.size+1) (.int .i64 0) (.int .i64 0) (.string ⟨#[]⟩) (.bool false) (.int .i64 0) (.slice none 0 0) (.slice none 0 0)
 ow:Own enc7 26 7 W.heap.size W' (.slice ao Ls.length cp) Ls
 ln:ks.length=Ls.length
 ob:∀ j,(Value.slice ao Ls.length cp).ownBlock=some j→W.heap.size+3≤j
 rd:∀ i (h:i<ks.length) (h':i<Ls.length),Rdg (fun b=>W.heap.size+3≤b∧(Value.slice ao Ls.length cp).ownBlock≠some b) W' ks[i] (agg7 Ls[i])
 qx:Qx p W W'
 kl:ks.length≤31
 kb:s1.bd=false→ks.length≤30
 sz:W.heap.size+3≤W'.heap.size
def mzA(n p:Nat)(W:World):Nat:=2*(n-far p W)+(match W.cell? ⟨p,2,none⟩ with
 |some (.bool true)=>0
 |_=>1)
theorem mzA_of{W:World}{p:Nat}{L:List Wd}{b off cap i:Nat}{bd:Bool}{n:Nat}(h:PS W p L b off cap i bd n)(m:Nat):mzA m p W=2*(m-i)+(if bd then 0 else 1):=by
 unfold mzA
 rw [far_of h,h.c2];cases bd <;> rfl
theorem args_done{L:List Wd}{f:Nat}{t:List UInt8}{ks:List Ex}{s:St}{R:Ex × St}(h:s.bd=true)(e:treeF.argsF EE L f t ks s=some R):R=(callE t ks,s.node):=by
 cases f with
 |zero=>unfold treeF.argsF at e;cases e
 |succ f=>rw [treeF.argsF,if_pos h]at e;exact (Option.some.inj e).symm
theorem args_end{L:List Wd}{f:Nat}{t:List UInt8}{ks:List Ex}{s:St}{R:Ex × St}(h:s.bd=false)(hw:isW L s.i [41]=true)(e:treeF.argsF EE L f t ks s=some R):R=(callE t ks,s.on.node):=by
 cases f with
 |zero=>unfold treeF.argsF at e;cases e
 |succ f=>rw [treeF.argsF,if_neg (by rw [h];simp),if_pos hw]at e;exact (Option.some.inj e).symm
theorem args_bad{L:List Wd}{f:Nat}{t:List UInt8}{ks:List Ex}{s:St}{R:Ex × St}(h:s.bd=false)(hw:isW L s.i [41]=false)(hn:ks≠[]∧isW L s.i [44]=false)(e:treeF.argsF EE L f t ks s=some R):R=(callE t ks,s.bad):=by
 cases f with
 |zero=>unfold treeF.argsF at e;cases e
 |succ f=>rw [treeF.argsF,if_neg (by rw [h];simp),if_neg (by rw [hw];simp),if_pos hn]at e;exact (Option.some.inj e).symm
theorem args_more{L:List Wd}{f:Nat}{t:List UInt8}{ks:List Ex}{s:St}{R:Ex × St}(h:s.bd=false)(hw:isW L s.i [41]=false)(hn:¬ (ks≠[]∧isW L s.i [44]=false))(e:treeF.argsF EE L f t ks s=some R):∃ g r,f=g+1∧treeF EE L g 1 (if ks=[] then s else s.on)=some r∧treeF.argsF EE L g t (ks++[r.1]) (argS ks r.2)=some R:=by
 cases f with
 |zero=>unfold treeF.argsF at e;cases e
 |succ f=>
  rw [treeF.argsF,if_neg (by rw [h];simp),if_neg (by rw [hw];simp),if_neg hn]at e
  obtain ⟨r,h1,h2⟩:=Option.bind_eq_some_iff.1 e;exact ⟨f,r,rfl,h1,h2⟩
end Go.Proofs.YtgheopdadfnilaaGreatDoor
