/- counterpaneref5.Parse, walked;. -/
import Derived.Test.YtgheopdadfnilaaGreatDoorKf24
import Derived.Test.YtgheopdadfnilaaGreatDoorKf28
import Derived.Test.YtgheopdadfnilaaGreatDoorKf33
import Derived.Test.YtgheopdadfnilaaGreatDoorKf21
import Derived.Test.YtgheopdadfnilaaGreatDoorKf20
import Derived.Deep.RegionHeld3
set_option linter.unusedVariables false
set_option linter.unusedSimpArgs false
set_option maxRecDepth 100000
set_option maxHeartbeats 8000000
namespace Go.Proofs.YtgheopdadfnilaaGreatDoor
open Go.RowKit
theorem ps_new(w:World)(L:List Wd)(b off cap:Nat)(h:Sw w L (.slice (some ⟨b,off,none⟩) L.length cap) b off cap)(hpos:0<L.length):PS (w.alloc (.cells #[.slice (some ⟨b,off,none⟩) L.length cap,.int .i64 0,.bool false,.int .i64 0] 71)) w.heap.size L b off cap 0 false 0:=by
 have hb:b<w.heap.size:=World.block_lt_of_cell? w ⟨b,off+0*3,none⟩ (h.k 0 hpos)
 have sv:Sv w L (.slice (some ⟨b,off,none⟩) L.length cap) b off cap:=⟨rfl,h.le,h.mx,h.k,h.t,h.p⟩
 refine ⟨?_,?_,?_,?_,?_,?_,?_,sv.on (p:=w.heap.size) ((Qx.refl _ _).alloc _) (by omega),by omega⟩
 all_goals simp [World.cell?_alloc_new,World.frozen?_alloc_new]
theorem rparse_scan(s:ByteArray)(W:World)(hs:s.size≤100000)(n:Nat)(hn:scanL s.data.toList=(none,n)) :
  Calls Tryz.prog 13 #[.string s] W fun e W'=>RepR W (zeroE,2) e W':=by
 have HZ:=hid (tb_new W (.int .i64 0) (.int .i64 0) (.string ⟨#[]⟩) (.bool false) (.int .i64 0) (.slice none 0 0) (.slice none 0 0) 26);have HSc:=hid (fun W1=>rscan_any s W1 hs)
 have HN:=hid hn;clear hn;go_enter Tryz.func13,Tryz.ntmps13
 go_wp2_with (go_at_call 37;refine (HSc.out _).mono ?_;rintro e w1 ⟨h1,q1⟩;rw [HN.out]at h1;have h1':=ScanRet.none h1;subst h1';have Q1:Hid (Q W w1):=hid (Q.trans (by repeat (first|with_reducible exact Q.refl _|with_reducible refine Q.drewN ?_ _|with_reducible refine Q.drew ?_|with_reducible refine Q.alloc ?_ _|with_reducible refine Q.setCell ?_ (by simp) _)) q1);have Z1:=hid (HZ.out.on (p:=W.heap.size+1) (Qx.of q1) (by omega));clear q1 h1;have d0:=Z1.out.g0;have d1:=Z1.out.g1;have d2:=Z1.out.g2;have d3:=Z1.out.g3;have d4:=Z1.out.g4;have d5:=Z1.out.g5;have d6:=Z1.out.g6;have y0:=Z1.out.f 0;have y1:=Z1.out.f 1;have y2:=Z1.out.f 2;have y3:=Z1.out.f 3;have y4:=Z1.out.f 4;have y5:=Z1.out.f 5;have y6:=Z1.out.f 6)
 refine bodyPost_ret (v:=.tuple #[.agg #[.int .i64 0,.int .i64 0,.string ⟨#[]⟩,.bool false,.int .i64 0,.slice none 0 0,.slice none 0 0],.int .i64 2]) (by simp [results,Tryz.results13,go_sem,d0,d1,d2,d3,d4,d5,d6]) rfl ?_
 exact ⟨_,rfl,rdz _ _,Q.setCell (Q.setCell (Q.setCell (Q.setCell (Q.setCell (Q.setCell (Q.setCell Q1.out (Nat.le_refl _) _) (Nat.le_refl _) _) (Nat.le_refl _) _) (Nat.le_refl _) _) (Nat.le_refl _) _) (Nat.le_refl _) _) (Nat.le_refl _) _⟩
theorem rparse_many(s:ByteArray)(W:World)(hs:s.size≤100000)(L:List Wd)(n f:Nat)(r:Ex × St)(hn:scanL s.data.toList=(some L,n))(hpt:treeF EE L f 1 ⟨0,false,0⟩=some r)(hb:r.2.bd=false)(hk:kAt L r.2.i=7)(hn2:200<r.2.n) :
  Calls Tryz.prog 13 #[.string s] W fun e W'=>RepR W (zeroE,3) e W':=by
 have HZ:=hid (tb_new W (.int .i64 0) (.int .i64 0) (.string ⟨#[]⟩) (.bool false) (.int .i64 0) (.slice none 0 0) (.slice none 0 0) 26);have HSc:=hid (fun W1=>rscan_any s W1 hs)
 have HN:=hid hn;obtain ⟨hpos,hr,hE,hG,hK,hz⟩:=scan_good hn;have HPr:=hid (fun W1 p b off cap (g:PS W1 p L b off cap 0 false 0)=>(ref_all L hE hG hK hr hz p b off cap f).1 1 ⟨0,false,0⟩ r W1 (by omega) (by omega) hpt g hpos (Nat.le_refl _))
 have hF:=((fwd_all EE L hE f).1 _ _ _ (by omega) hpt hpos).1
 have hil:r.2.i<L.length:=hF.lt
 have hnl:r.2.n≤50000:=by have h1:=hF.nd;have h2:=hF.lt;simp at h1;omega
 have HDp:=hid (fun W1 v (h:Rd W1 r.1 v)=>depth_any 51 r.1 v W1 51 rfl (by omega) h)
 have hdl:=dp_le 51 r.1;have hkg:=kAt_get hil;clear hn hF;go_enter Tryz.func13,Tryz.ntmps13
 go_upto_region 6 with (first|(go_at_call 37;refine (HSc.out _).mono ?_;rintro e w1 ⟨h1,q1⟩;rw [HN.out]at h1;obtain ⟨sv,h1',hsl⟩:=ScanRet.some h1;subst h1';obtain ⟨b,off,cap,hsw⟩:=sw_of hsl hpos;obtain rfl:=hsw.ev;have Q1:Hid (Q W w1):=hid (Q.trans (by repeat (first|with_reducible exact Q.refl _|with_reducible refine Q.drewN ?_ _|with_reducible refine Q.drew ?_|with_reducible refine Q.alloc ?_ _|with_reducible refine Q.setCell ?_ (by simp) _)) q1);have hs1:W.heap.size<w1.heap.size:=(by have:=q1.size;simp at this;omega);have Z1:=hid (HZ.out.on (p:=W.heap.size+1) (Qx.of q1) (by omega));have P1:Hid (PS (w1.alloc (.cells #[.slice (some ⟨b,off,none⟩) L.length cap,.int .i64 0,.bool false,.int .i64 0] 71)) w1.heap.size L b off cap 0 false 0):=hid (ps_new w1 L b off cap hsw hpos);clear q1 h1 hsl hsw)|(go_at_call 38;refine (HPr.out _ _ _ _ _ P1.out).mono ?_;rintro e w2 ⟨v,rfl,hr2,q2,p2⟩;obtain ⟨k,m,t,bb,er,a1,l1,c1,a2,l2,c2,rfl⟩:=hr2.shape;have R2:=hid hr2;have Q2:=hid q2;have P2:=hid (p2.on ((Q.refl _).alloc (.cells #[.int .i64 k,.int .i64 m,.string t,.bool bb,.int .i64 er,.slice a1 l1 c1,.slice a2 l2 c2] 26)));have Z2:=hid (((Z1.out.on (p:=w1.heap.size) ((Qx.refl _ _).alloc _) (by omega)).on q2 (by omega)).on (p:=w1.heap.size) ((Qx.refl _ _).alloc (.cells #[.int .i64 k,.int .i64 m,.string t,.bool bb,.int .i64 er,.slice a1 l1 c1,.slice a2 l2 c2] 26)) (by omega));have X2:=hid (tb_new w2 (.int .i64 k) (.int .i64 m) (.string t) (.bool bb) (.int .i64 er) (.slice a1 l1 c1) (.slice a2 l2 c2) 26);have hs2:w1.heap.size<w2.heap.size:=(by have:=q2.size;simp at this;omega);have QW:Hid (Q W (w2.alloc (.cells #[.int .i64 k,.int .i64 m,.string t,.bool bb,.int .i64 er,.slice a1 l1 c1,.slice a2 l2 c2] 26))):=hid (((Q1.out.alloc _).viax q2 (by omega)).alloc _);clear hr2 q2 p2))
 obtain ⟨V2,hV2,P2v,Z2v,X2v,QWv,RV,hsv⟩:∃ V2,V2=w2.alloc (.cells #[.int .i64 k,.int .i64 m,.string t,.bool bb,.int .i64 er,.slice a1 l1 c1,.slice a2 l2 c2] 26)∧PS V2 w1.heap.size L b off cap r.2.i r.2.bd r.2.n∧Tb V2 W.heap.size (.int .i64 0) (.int .i64 0) (.string ⟨#[]⟩) (.bool false) (.int .i64 0) (.slice none 0 0) (.slice none 0 0)∧Tb V2 w2.heap.size (.int .i64 k) (.int .i64 m) (.string t) (.bool bb) (.int .i64 er) (.slice a1 l1 c1) (.slice a2 l2 c2)∧Q W V2∧Rdg (fun b=>W.heap.size+1≤b) V2 r.1 (.agg #[.int .i64 k,.int .i64 m,.string t,.bool bb,.int .i64 er,.slice a1 l1 c1,.slice a2 l2 c2])∧w2.heap.size<V2.heap.size:=
  ⟨_,rfl,P2.out,Z2.out,X2.out,QW.out,Rdg.on (p:=W.heap.size) ((Qx.refl _ _).alloc _) (fun b hb=>by omega) _ _ (Rdg.mono (fun b hb=>by simp at hb;omega) _ _ R2.out),by simp⟩
 rw [←hV2];have P2h:=hid P2v;have Z2h:=hid Z2v;have X2h:=hid X2v;have QWh:=hid QWv;have RVh:=hid RV;have c0:=P2v.c0;have c1':=P2v.c1;have c2':=P2v.c2;have c3:=P2v.c3;have v0:=P2v.sw.k r.2.i hil;rw [←hkg.1]at v0;have n0:=X2v.g0;have n1:=X2v.g1;have n2:=X2v.g2;have n3:=X2v.g3;have n4:=X2v.g4;have n5:=X2v.g5;have n6:=X2v.g6;have d0:=Z2v.g0;have d1:=Z2v.g1;have d2:=Z2v.g2;have d3:=Z2v.g3;have d4:=Z2v.g4;have d5:=Z2v.g5;have d6:=Z2v.g6;have y0:=Z2v.f 0;have y1:=Z2v.f 1;have y2:=Z2v.f 2;have y3:=Z2v.f 3;have y4:=Z2v.f 4;have y5:=Z2v.f 5;have y6:=Z2v.f 6;clear hV2 P2v Z2v X2v QWv RV P2 Z2 X2 QW R2 hkg;rw [hb]at c2';rw [hk]at v0;have c200:(200:Int)<(r.2.n:Int):=by omega
 go_quiet (fail)
 go_wp2_with fail
 refine bodyPost_ret (v:=.tuple #[.agg #[.int .i64 0,.int .i64 0,.string ⟨#[]⟩,.bool false,.int .i64 0,.slice none 0 0,.slice none 0 0],.int .i64 3]) (by simp [results,Tryz.results13,go_sem,d0,d1,d2,d3,d4,d5,d6]) rfl ?_
 exact ⟨_,rfl,rdz _ _,Q.setCell (Q.setCell (Q.setCell (Q.setCell (Q.setCell (Q.setCell (Q.setCell (QWh.out.drewN _) (Nat.le_refl _) _) (Nat.le_refl _) _) (Nat.le_refl _) _) (Nat.le_refl _) _) (Nat.le_refl _) _) (Nat.le_refl _) _) (Nat.le_refl _) _⟩
theorem rparse_deep(s:ByteArray)(W:World)(hs:s.size≤100000)(L:List Wd)(n f:Nat)(r:Ex × St)(hn:scanL s.data.toList=(some L,n))(hpt:treeF EE L f 1 ⟨0,false,0⟩=some r)(hb:r.2.bd=false)(hk:kAt L r.2.i=7)(hn2:¬ 200<r.2.n)(hd:50<dp 51 r.1) :
  Calls Tryz.prog 13 #[.string s] W fun e W'=>RepR W (zeroE,3) e W':=by
 have HZ:=hid (tb_new W (.int .i64 0) (.int .i64 0) (.string ⟨#[]⟩) (.bool false) (.int .i64 0) (.slice none 0 0) (.slice none 0 0) 26);have HSc:=hid (fun W1=>rscan_any s W1 hs)
 have HN:=hid hn;obtain ⟨hpos,hr,hE,hG,hK,hz⟩:=scan_good hn;have HPr:=hid (fun W1 p b off cap (g:PS W1 p L b off cap 0 false 0)=>(ref_all L hE hG hK hr hz p b off cap f).1 1 ⟨0,false,0⟩ r W1 (by omega) (by omega) hpt g hpos (Nat.le_refl _))
 have hF:=((fwd_all EE L hE f).1 _ _ _ (by omega) hpt hpos).1
 have hil:r.2.i<L.length:=hF.lt
 have hnl:r.2.n≤50000:=by have h1:=hF.nd;have h2:=hF.lt;simp at h1;omega
 have HDp:=hid (fun W1 v (h:Rd W1 r.1 v)=>depth_any 51 r.1 v W1 51 rfl (by omega) h)
 have hdl:=dp_le 51 r.1;have hkg:=kAt_get hil;clear hn hF;go_enter Tryz.func13,Tryz.ntmps13
 go_upto_region 6 with (first|(go_at_call 37;refine (HSc.out _).mono ?_;rintro e w1 ⟨h1,q1⟩;rw [HN.out]at h1;obtain ⟨sv,h1',hsl⟩:=ScanRet.some h1;subst h1';obtain ⟨b,off,cap,hsw⟩:=sw_of hsl hpos;obtain rfl:=hsw.ev;have Q1:Hid (Q W w1):=hid (Q.trans (by repeat (first|with_reducible exact Q.refl _|with_reducible refine Q.drewN ?_ _|with_reducible refine Q.drew ?_|with_reducible refine Q.alloc ?_ _|with_reducible refine Q.setCell ?_ (by simp) _)) q1);have hs1:W.heap.size<w1.heap.size:=(by have:=q1.size;simp at this;omega);have Z1:=hid (HZ.out.on (p:=W.heap.size+1) (Qx.of q1) (by omega));have P1:Hid (PS (w1.alloc (.cells #[.slice (some ⟨b,off,none⟩) L.length cap,.int .i64 0,.bool false,.int .i64 0] 71)) w1.heap.size L b off cap 0 false 0):=hid (ps_new w1 L b off cap hsw hpos);clear q1 h1 hsl hsw)|(go_at_call 38;refine (HPr.out _ _ _ _ _ P1.out).mono ?_;rintro e w2 ⟨v,rfl,hr2,q2,p2⟩;obtain ⟨k,m,t,bb,er,a1,l1,c1,a2,l2,c2,rfl⟩:=hr2.shape;have R2:=hid hr2;have Q2:=hid q2;have P2:=hid (p2.on ((Q.refl _).alloc (.cells #[.int .i64 k,.int .i64 m,.string t,.bool bb,.int .i64 er,.slice a1 l1 c1,.slice a2 l2 c2] 26)));have Z2:=hid (((Z1.out.on (p:=w1.heap.size) ((Qx.refl _ _).alloc _) (by omega)).on q2 (by omega)).on (p:=w1.heap.size) ((Qx.refl _ _).alloc (.cells #[.int .i64 k,.int .i64 m,.string t,.bool bb,.int .i64 er,.slice a1 l1 c1,.slice a2 l2 c2] 26)) (by omega));have X2:=hid (tb_new w2 (.int .i64 k) (.int .i64 m) (.string t) (.bool bb) (.int .i64 er) (.slice a1 l1 c1) (.slice a2 l2 c2) 26);have hs2:w1.heap.size<w2.heap.size:=(by have:=q2.size;simp at this;omega);have QW:Hid (Q W (w2.alloc (.cells #[.int .i64 k,.int .i64 m,.string t,.bool bb,.int .i64 er,.slice a1 l1 c1,.slice a2 l2 c2] 26))):=hid (((Q1.out.alloc _).viax q2 (by omega)).alloc _);clear hr2 q2 p2))
 obtain ⟨V2,hV2,P2v,Z2v,X2v,QWv,RV,hsv⟩:∃ V2,V2=w2.alloc (.cells #[.int .i64 k,.int .i64 m,.string t,.bool bb,.int .i64 er,.slice a1 l1 c1,.slice a2 l2 c2] 26)∧PS V2 w1.heap.size L b off cap r.2.i r.2.bd r.2.n∧Tb V2 W.heap.size (.int .i64 0) (.int .i64 0) (.string ⟨#[]⟩) (.bool false) (.int .i64 0) (.slice none 0 0) (.slice none 0 0)∧Tb V2 w2.heap.size (.int .i64 k) (.int .i64 m) (.string t) (.bool bb) (.int .i64 er) (.slice a1 l1 c1) (.slice a2 l2 c2)∧Q W V2∧Rdg (fun b=>W.heap.size+1≤b) V2 r.1 (.agg #[.int .i64 k,.int .i64 m,.string t,.bool bb,.int .i64 er,.slice a1 l1 c1,.slice a2 l2 c2])∧w2.heap.size<V2.heap.size:=
  ⟨_,rfl,P2.out,Z2.out,X2.out,QW.out,Rdg.on (p:=W.heap.size) ((Qx.refl _ _).alloc _) (fun b hb=>by omega) _ _ (Rdg.mono (fun b hb=>by simp at hb;omega) _ _ R2.out),by simp⟩
 rw [←hV2];have P2h:=hid P2v;have Z2h:=hid Z2v;have X2h:=hid X2v;have QWh:=hid QWv;have RVh:=hid RV;have c0:=P2v.c0;have c1':=P2v.c1;have c2':=P2v.c2;have c3:=P2v.c3;have v0:=P2v.sw.k r.2.i hil;rw [←hkg.1]at v0;have n0:=X2v.g0;have n1:=X2v.g1;have n2:=X2v.g2;have n3:=X2v.g3;have n4:=X2v.g4;have n5:=X2v.g5;have n6:=X2v.g6;have d0:=Z2v.g0;have d1:=Z2v.g1;have d2:=Z2v.g2;have d3:=Z2v.g3;have d4:=Z2v.g4;have d5:=Z2v.g5;have d6:=Z2v.g6;have y0:=Z2v.f 0;have y1:=Z2v.f 1;have y2:=Z2v.f 2;have y3:=Z2v.f 3;have y4:=Z2v.f 4;have y5:=Z2v.f 5;have y6:=Z2v.f 6;clear hV2 P2v Z2v X2v QWv RV P2 Z2 X2 QW R2 hkg;rw [hb]at c2';rw [hk]at v0;have c200:¬ (200:Int)<(r.2.n:Int):=by omega
 have cd:(50:Int)<(dp 51 r.1:Int):=by omega
 generalize dp 51 r.1=dd at HDp cd hdl hd;go_quiet (fail)
 go_wp2_with (go_at_call 39;refine (HDp.out _ _ (Rd.on ((Q.refl _).drewN _) _ _ (Rdg.rd _ _ RVh.out))).mono ?_;rintro e w4 ⟨rfl,q4⟩;have Q4:Hid (Q V2 w4):=hid (((Q.refl _).drewN _).trans q4);have X4:=hid (X2h.out.on (p:=w1.heap.size) (Qx.of Q4.out) (by omega));have Z4:=hid (Z2h.out.on (p:=w1.heap.size) (Qx.of Q4.out) (by omega));clear q4;have e0:=Z4.out.g0;have e1:=Z4.out.g1;have e2:=Z4.out.g2;have e3:=Z4.out.g3;have e4:=Z4.out.g4;have e5:=Z4.out.g5;have e6:=Z4.out.g6;have f0:=Z4.out.f 0;have f1:=Z4.out.f 1;have f2:=Z4.out.f 2;have f3:=Z4.out.f 3;have f4:=Z4.out.f 4;have f5:=Z4.out.f 5;have f6:=Z4.out.f 6)
 refine bodyPost_ret (v:=.tuple #[.agg #[.int .i64 0,.int .i64 0,.string ⟨#[]⟩,.bool false,.int .i64 0,.slice none 0 0,.slice none 0 0],.int .i64 3]) (by simp [results,Tryz.results13,go_sem,e0,e1,e2,e3,e4,e5,e6]) rfl ?_
 exact ⟨_,rfl,rdz _ _,Q.setCell (Q.setCell (Q.setCell (Q.setCell (Q.setCell (Q.setCell (Q.setCell (QWh.out.trans Q4.out) (Nat.le_refl _) _) (Nat.le_refl _) _) (Nat.le_refl _) _) (Nat.le_refl _) _) (Nat.le_refl _) _) (Nat.le_refl _) _) (Nat.le_refl _) _⟩
theorem rparse_ok(s:ByteArray)(W:World)(hs:s.size≤100000)(L:List Wd)(n f:Nat)(r:Ex × St)(hn:scanL s.data.toList=(some L,n))(hpt:treeF EE L f 1 ⟨0,false,0⟩=some r)(hb:r.2.bd=false)(hk:kAt L r.2.i=7)(hn2:¬ 200<r.2.n)(hd:¬ 50<dp 51 r.1) :
  Calls Tryz.prog 13 #[.string s] W fun e W'=>RepR W (r.1,0) e W':=by
 have HZ:=hid (tb_new W (.int .i64 0) (.int .i64 0) (.string ⟨#[]⟩) (.bool false) (.int .i64 0) (.slice none 0 0) (.slice none 0 0) 26);have HSc:=hid (fun W1=>rscan_any s W1 hs)
 have HN:=hid hn;obtain ⟨hpos,hr,hE,hG,hK,hz⟩:=scan_good hn;have HPr:=hid (fun W1 p b off cap (g:PS W1 p L b off cap 0 false 0)=>(ref_all L hE hG hK hr hz p b off cap f).1 1 ⟨0,false,0⟩ r W1 (by omega) (by omega) hpt g hpos (Nat.le_refl _))
 have hF:=((fwd_all EE L hE f).1 _ _ _ (by omega) hpt hpos).1
 have hil:r.2.i<L.length:=hF.lt
 have hnl:r.2.n≤50000:=by have h1:=hF.nd;have h2:=hF.lt;simp at h1;omega
 have HDp:=hid (fun W1 v (h:Rd W1 r.1 v)=>depth_any 51 r.1 v W1 51 rfl (by omega) h)
 have hdl:=dp_le 51 r.1;have hkg:=kAt_get hil;clear hn hF;go_enter Tryz.func13,Tryz.ntmps13
 go_upto_region 6 with (first|(go_at_call 37;refine (HSc.out _).mono ?_;rintro e w1 ⟨h1,q1⟩;rw [HN.out]at h1;obtain ⟨sv,h1',hsl⟩:=ScanRet.some h1;subst h1';obtain ⟨b,off,cap,hsw⟩:=sw_of hsl hpos;obtain rfl:=hsw.ev;have Q1:Hid (Q W w1):=hid (Q.trans (by repeat (first|with_reducible exact Q.refl _|with_reducible refine Q.drewN ?_ _|with_reducible refine Q.drew ?_|with_reducible refine Q.alloc ?_ _|with_reducible refine Q.setCell ?_ (by simp) _)) q1);have hs1:W.heap.size<w1.heap.size:=(by have:=q1.size;simp at this;omega);have Z1:=hid (HZ.out.on (p:=W.heap.size+1) (Qx.of q1) (by omega));have P1:Hid (PS (w1.alloc (.cells #[.slice (some ⟨b,off,none⟩) L.length cap,.int .i64 0,.bool false,.int .i64 0] 71)) w1.heap.size L b off cap 0 false 0):=hid (ps_new w1 L b off cap hsw hpos);clear q1 h1 hsl hsw)|(go_at_call 38;refine (HPr.out _ _ _ _ _ P1.out).mono ?_;rintro e w2 ⟨v,rfl,hr2,q2,p2⟩;obtain ⟨k,m,t,bb,er,a1,l1,c1,a2,l2,c2,rfl⟩:=hr2.shape;have R2:=hid hr2;have Q2:=hid q2;have P2:=hid (p2.on ((Q.refl _).alloc (.cells #[.int .i64 k,.int .i64 m,.string t,.bool bb,.int .i64 er,.slice a1 l1 c1,.slice a2 l2 c2] 26)));have Z2:=hid (((Z1.out.on (p:=w1.heap.size) ((Qx.refl _ _).alloc _) (by omega)).on q2 (by omega)).on (p:=w1.heap.size) ((Qx.refl _ _).alloc (.cells #[.int .i64 k,.int .i64 m,.string t,.bool bb,.int .i64 er,.slice a1 l1 c1,.slice a2 l2 c2] 26)) (by omega));have X2:=hid (tb_new w2 (.int .i64 k) (.int .i64 m) (.string t) (.bool bb) (.int .i64 er) (.slice a1 l1 c1) (.slice a2 l2 c2) 26);have hs2:w1.heap.size<w2.heap.size:=(by have:=q2.size;simp at this;omega);have QW:Hid (Q W (w2.alloc (.cells #[.int .i64 k,.int .i64 m,.string t,.bool bb,.int .i64 er,.slice a1 l1 c1,.slice a2 l2 c2] 26))):=hid (((Q1.out.alloc _).viax q2 (by omega)).alloc _);clear hr2 q2 p2))
 obtain ⟨V2,hV2,P2v,Z2v,X2v,QWv,RV,hsv⟩:∃ V2,V2=w2.alloc (.cells #[.int .i64 k,.int .i64 m,.string t,.bool bb,.int .i64 er,.slice a1 l1 c1,.slice a2 l2 c2] 26)∧PS V2 w1.heap.size L b off cap r.2.i r.2.bd r.2.n∧Tb V2 W.heap.size (.int .i64 0) (.int .i64 0) (.string ⟨#[]⟩) (.bool false) (.int .i64 0) (.slice none 0 0) (.slice none 0 0)∧Tb V2 w2.heap.size (.int .i64 k) (.int .i64 m) (.string t) (.bool bb) (.int .i64 er) (.slice a1 l1 c1) (.slice a2 l2 c2)∧Q W V2∧Rdg (fun b=>W.heap.size+1≤b) V2 r.1 (.agg #[.int .i64 k,.int .i64 m,.string t,.bool bb,.int .i64 er,.slice a1 l1 c1,.slice a2 l2 c2])∧w2.heap.size<V2.heap.size:=
  ⟨_,rfl,P2.out,Z2.out,X2.out,QW.out,Rdg.on (p:=W.heap.size) ((Qx.refl _ _).alloc _) (fun b hb=>by omega) _ _ (Rdg.mono (fun b hb=>by simp at hb;omega) _ _ R2.out),by simp⟩
 rw [←hV2];have P2h:=hid P2v;have Z2h:=hid Z2v;have X2h:=hid X2v;have QWh:=hid QWv;have RVh:=hid RV;have c0:=P2v.c0;have c1':=P2v.c1;have c2':=P2v.c2;have c3:=P2v.c3;have v0:=P2v.sw.k r.2.i hil;rw [←hkg.1]at v0;have n0:=X2v.g0;have n1:=X2v.g1;have n2:=X2v.g2;have n3:=X2v.g3;have n4:=X2v.g4;have n5:=X2v.g5;have n6:=X2v.g6;have d0:=Z2v.g0;have d1:=Z2v.g1;have d2:=Z2v.g2;have d3:=Z2v.g3;have d4:=Z2v.g4;have d5:=Z2v.g5;have d6:=Z2v.g6;have y0:=Z2v.f 0;have y1:=Z2v.f 1;have y2:=Z2v.f 2;have y3:=Z2v.f 3;have y4:=Z2v.f 4;have y5:=Z2v.f 5;have y6:=Z2v.f 6;clear hV2 P2v Z2v X2v QWv RV P2 Z2 X2 QW R2 hkg;rw [hb]at c2';rw [hk]at v0;have c200:¬ (200:Int)<(r.2.n:Int):=by omega
 have cd:¬ (50:Int)<(dp 51 r.1:Int):=by omega
 generalize dp 51 r.1=dd at HDp cd hdl hd;go_quiet (fail)
 go_wp2_with (go_at_call 39;refine (HDp.out _ _ (Rd.on ((Q.refl _).drewN _) _ _ (Rdg.rd _ _ RVh.out))).mono ?_;rintro e w4 ⟨rfl,q4⟩;have Q4:Hid (Q V2 w4):=hid (((Q.refl _).drewN _).trans q4);have X4:=hid (X2h.out.on (p:=w1.heap.size) (Qx.of Q4.out) (by omega));have Z4:=hid (Z2h.out.on (p:=w1.heap.size) (Qx.of Q4.out) (by omega));clear q4;have e0:=Z4.out.g0;have e1:=Z4.out.g1;have e2:=Z4.out.g2;have e3:=Z4.out.g3;have e4:=Z4.out.g4;have e5:=Z4.out.g5;have e6:=Z4.out.g6;have f0:=Z4.out.f 0;have f1:=Z4.out.f 1;have f2:=Z4.out.f 2;have f3:=Z4.out.f 3;have f4:=Z4.out.f 4;have f5:=Z4.out.f 5;have f6:=Z4.out.f 6;have r0:=X4.out.g0;have r1:=X4.out.g1;have r2:=X4.out.g2;have r3:=X4.out.g3;have r4:=X4.out.g4;have r5:=X4.out.g5;have r6:=X4.out.g6)
 refine bodyPost_ret (v:=.tuple #[.agg #[.int .i64 k,.int .i64 m,.string t,.bool bb,.int .i64 er,.slice a1 l1 c1,.slice a2 l2 c2],.int .i64 0]) (by simp [results,Tryz.results13,go_sem,e0,e1,e2,e3,e4,e5,e6]) rfl ?_
 have QF:∀ Vf:World,Qx W.heap.size w4 Vf→Rdg (fun b=>W.heap.size≤b) Vf r.1 (.agg #[.int .i64 k,.int .i64 m,.string t,.bool bb,.int .i64 er,.slice a1 l1 c1,.slice a2 l2 c2]):=fun Vf q=>Rdg.mono (fun b hb=>by omega) _ _ (Rdg.on q (fun b hb=>by omega) _ _ (Rdg.on (Qx.of (p:=W.heap.size) Q4.out) (fun b hb=>by omega) _ _ RVh.out))
 exact ⟨_,rfl,QF _ ((((((((Qx.refl _ _).own _ _).own _ _).own _ _).own _ _).own _ _).own _ _).own _ _),Q.setCell (Q.setCell (Q.setCell (Q.setCell (Q.setCell (Q.setCell (Q.setCell (QWh.out.trans Q4.out) (Nat.le_refl _) _) (Nat.le_refl _) _) (Nat.le_refl _) _) (Nat.le_refl _) _) (Nat.le_refl _) _) (Nat.le_refl _) _) (Nat.le_refl _) _⟩
def PzR(l:List UInt8)(r:Ex × Nat):Prop:=
 (∃ n,scanL l=(none,n)∧r=(zeroE,2))∨∃ L n f o,scanL l=(some L,n)∧ptF EE L f 1 0=some o∧r=finR L o
theorem pt_fun{E:Env}{L:List Wd}{f g lv i:Nat}{o p:Option (Ex × Nat)}(h:ptF E L f lv i=some o)(k:ptF E L g lv i=some p):o=p:=by
 have h1:=ptF_le h (Nat.le_max_left f g);have h2:=ptF_le k (Nat.le_max_right f g);rw [h1]at h2;exact Option.some.inj h2
theorem pz_fm{x:Ex}(hm:mall mayN x=true)(hr:Rn x)(hf:fitB x=true)(hl:(fmE x).length≤1000):PzR (fmE x) (x,0):=by
 obtain ⟨L,f,j,h1,h2,h3⟩:=fm_read hm hr hl;refine .inr ⟨L,0,f,_,h1,h2,?_⟩
 unfold finR
 simp only
 rw [if_pos h3,hf]
 rfl
def MX(x:Ex):Prop:=mall mayN x=true∧Rn x
theorem rd_kt{W:World}{x:Ex}{k m:Int}{t:ByteArray}{b:Bool}{e:Int}{rv kv:Value}(h:Rd W x (.agg #[.int .i64 k,.int .i64 m,.string t,.bool b,.int .i64 e,rv,kv])):x.k=k∧x.t=t.data.toList:=by
 obtain ⟨k9,n9,t9,b9,e9,rs,ks,rv',kv',ao,cap,hv,hp⟩:=h.prt;simp at hv
 obtain ⟨rfl,rfl,rfl,_⟩:=hv;rw [hp.ex];exact ⟨rfl,rfl⟩
theorem brk_len(br:Bool)(T:List UInt8):T.length≤(brk br T).length∧(brk br T).length≤T.length+2:=by
 cases br
 ·exact ⟨Nat.le_refl _,Nat.le_add_right _ _⟩
 ·unfold brk;simp;omega
def Svt(W0 W1 V:World):Prop:=Kp W1 V∧Q W0 V
theorem Svt.q{W0 W1 V V':World}(h:Svt W0 W1 V)(q:Q V V'):Svt W0 W1 V':=⟨h.1.trans (Kp.of q),h.2.trans q⟩
theorem Svt.start{W0 W1 V:World}(h:Q W0 W1)(q:Q W1 V):Svt W0 W1 V:=⟨Kp.of q,h.trans q⟩
theorem Svt.own{W0 W1 V:World}{b1:Nat}{cs:List Value}(h:Svt W0 W1 V)(H1:W1.heap[b1]?=some (.cells cs.toArray 26 (0,0))){j:Nat}{u:Value}(hu:cs[j]?=some u):V.cell? ⟨b1,j,none⟩=some u:=
 (cb_heap (cs:=cs) ((h.1 _ _ _ H1).trans H1)).c j u hu
theorem Svt.old{W0 W1 V:World}{kb o:Nat}{u:Value}(h:Svt W0 W1 V)(hk:W0.cell? ⟨kb,o,none⟩=some u):V.cell? ⟨kb,o,none⟩=some u:=
 (h.2.cell (World.block_lt_of_cell? W0 _ hk)).trans hk
theorem pr_neg(a:Ex)(Ta:List UInt8)(ha:Wri a Ta):Wri (negE a) (45::brk (decide (a.k=8)) Ta):=by
 intro W0 W b bs v hg hb hr hl
 obtain ⟨k,m,t,bb,er,rs,ks,rv',kv,ao,kc,rfl,hp⟩:=hr.prt;have hx:=hp.ex;unfold negE at hx
 simp only [Ex.mk.injEq]at hx
 obtain ⟨rfl,rfl,ht,rfl,rfl,rfl,rfl⟩:=hx;have hkl:=hp.kl;subst hkl;obtain ⟨a1,c1,hrv,_,_⟩:=hp.rl.len;subst hrv;obtain ⟨kb,ko,rfl,hkl⟩:=hp.kd (by simp)
 obtain ⟨p0,p1,p2,p3,p4,p5,p6,hk0⟩:=hkl.kid 0 (by simp)
 obtain ⟨ak,am,at',ab,ae,aa1,al1,ac1,aa2,al2,ac2,hav⟩:=hk0.rd.shape;simp only [Value.agg.injEq,Array.mk.injEq,List.cons.injEq,and_true]at hav
 obtain ⟨rfl,rfl,rfl,rfl,rfl,rfl,rfl⟩:=hav;have hkta:=rd_kt hk0.rd;simp only [List.getElem_cons_zero,List.getElem_cons_succ]at hkta
 have HKa:=hid hk0;simp only [Nat.zero_mul,Nat.add_zero,Nat.one_mul,List.getElem_cons_zero,List.getElem_cons_succ]at HKa
 rw [hkta.1]at hl ⊢;obtain ⟨bra,hbra⟩:∃ x,decide (ak=8)=x:=⟨_,rfl⟩;have eA:((ak:Int) == 8)=bra:=by rw [←hbra];rfl
 rw [hbra]at hl ⊢;have lA:=brk_len bra Ta;have HSa:=hid (fun W' bs' (h:Bd W0 W' b bs') (hl':bs'.length+(brk bra Ta).length≤100000)=>side_any a Ta ha W0 W' b bs' _ bra hg h HKa.out.rd hl')
 have HB:=hid hb;simp only [List.length_cons]at hl
 generalize brk bra Ta=TA at HSa hl ⊢;have HGL:Hid (((bs++[45])++TA)=bs++(45::TA)):=by show _=_;simp
 rw [←HGL.out];clear HGL lA hk0 hr hp hkl ha hg hb hbra hkta ht;go_enter Tryz.func28,Tryz.ntmps28
 go_upto_region 1 with fail
 have H1:=hid (heap_alloc_new W (.cells #[.int .i64 7,.int .i64 0,.string t,.bool false,.int .i64 0,.slice a1 0 c1,.slice (some ⟨kb,ko,none⟩) 1 kc] 26));have B1:=hid (HB.out.on ((Q.refl W).alloc (.cells #[.int .i64 7,.int .i64 0,.string t,.bool false,.int .i64 0,.slice a1 0 c1,.slice (some ⟨kb,ko,none⟩) 1 kc] 26)));have K1:=hid (Kp.of ((Q.refl W).alloc (.cells #[.int .i64 7,.int .i64 0,.string t,.bool false,.int .i64 0,.slice a1 0 c1,.slice (some ⟨kb,ko,none⟩) 1 kc] 26)));generalize W.alloc (.cells #[.int .i64 7,.int .i64 0,.string t,.bool false,.int .i64 0,.slice a1 0 c1,.slice (some ⟨kb,ko,none⟩) 1 kc] 26)=W1 at H1 B1 K1 ⊢;generalize W.heap.size=b1 at H1 ⊢;have s1:=hid (Svt.start (W0:=W0) (W1:=W1) B1.out.2 (Q.refl W1));have e0:∀ V,Svt W0 W1 V→V.cell? ⟨b1,0,none⟩=some (.int .i64 7):=fun V h=>h.own (cs:=[.int .i64 7,.int .i64 0,.string t,.bool false,.int .i64 0,.slice a1 0 c1,.slice (some ⟨kb,ko,none⟩) 1 kc]) H1.out rfl
 have e6:∀ V,Svt W0 W1 V→V.cell? ⟨b1,6,none⟩=some (.slice (some ⟨kb,ko,none⟩) 1 kc):=fun V h=>h.own (cs:=[.int .i64 7,.int .i64 0,.string t,.bool false,.int .i64 0,.slice a1 0 c1,.slice (some ⟨kb,ko,none⟩) 1 kc]) H1.out rfl
 have f0:∀ V,Svt W0 W1 V→V.cell? ⟨kb,ko,none⟩=some (.int .i64 ak):=fun V h=>h.old HKa.out.g0
 have f1:∀ V,Svt W0 W1 V→V.cell? ⟨kb,ko+1,none⟩=some (.int .i64 am):=fun V h=>h.old HKa.out.g1
 have f2:∀ V,Svt W0 W1 V→V.cell? ⟨kb,ko+2,none⟩=some (.string at'):=fun V h=>h.old HKa.out.g2
 have f3:∀ V,Svt W0 W1 V→V.cell? ⟨kb,ko+3,none⟩=some (.bool ab):=fun V h=>h.old HKa.out.g3
 have f4:∀ V,Svt W0 W1 V→V.cell? ⟨kb,ko+4,none⟩=some (.int .i64 ae):=fun V h=>h.old HKa.out.g4
 have f5:∀ V,Svt W0 W1 V→V.cell? ⟨kb,ko+5,none⟩=some (.slice aa1 al1 ac1):=fun V h=>h.old HKa.out.g5
 have f6:∀ V,Svt W0 W1 V→V.cell? ⟨kb,ko+6,none⟩=some (.slice aa2 al2 ac2):=fun V h=>h.old HKa.out.g6
 have d0:=e0 W1 s1.out;go_upto_region 10 with fail
 clear d0 e0;go_wp2_with (go_at_call 58;refine (bd_write B1.out ⟨#[45]⟩ (by decide) (by show bs.length+1≤1000000;omega)).mono ?_;rintro e9 w2 ⟨⟨u,rfl⟩,b2,k2⟩;have B2:=hid b2;have K2:=hid (K1.out.trans k2);have s2:Hid (Svt W0 W1 w2.drew):=hid ⟨k2.trans (Kp.of (Q.refl w2).drew),b2.2.trans (Q.refl w2).drew⟩;clear b2 k2)
 go_region_held3 (Svt W0 W1) (with_reducible (first|exact s2.out|exact s3.out)) (first|(go_at_call 61;refine (HSa.out w2.drew (bs++[45]) (B2.out.on ((Q.refl w2).drew)) (by rw [List.length_append];simp only [List.length_cons,List.length_nil];omega)).mono ?_;rintro e9 w3 ⟨⟨u3,rfl⟩,b3,k3⟩;have B3:=hid b3;have K3:=hid ((K2.out.trans (Kp.of (Q.refl w2).drew)).trans k3);have s3:Hid (Svt W0 W1 w3):=hid ⟨s2.out.1.trans k3,b3.2⟩;clear b3 k3))
 go_wp2_with fail
 go_end0
 exact ⟨⟨_,rfl⟩,B3.out,K3.out⟩
end Go.Proofs.YtgheopdadfnilaaGreatDoor
