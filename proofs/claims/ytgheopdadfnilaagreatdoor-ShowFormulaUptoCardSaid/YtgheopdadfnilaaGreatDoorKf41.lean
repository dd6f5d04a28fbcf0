/- counterpaneref5.Formula of an . -/
import Derived.Test.YtgheopdadfnilaaGreatDoorKf40
import Derived.Test.YtgheopdadfnilaaGreatDoorKf35
import Derived.Test.YtgheopdadfnilaaGreatDoorKf18
set_option linter.unusedVariables false
set_option linter.unusedSimpArgs false
set_option maxRecDepth 100000
set_option maxHeartbeats 8000000
namespace Go.Proofs.YtgheopdadfnilaaGreatDoor
open Go.RowKit
def Sq(W1 V:World):Prop:=Q W1 V
theorem Sq.q{W1 V V':World}(h:Sq W1 V)(q:Q V V'):Sq W1 V':=Q.trans h q
theorem Sq.own{W1 V:World}{b1:Nat}{cs:List Value}(h:Sq W1 V)(Z:Cb W1 b1 cs){j:Nat}{u:Value}(hu:cs[j]?=some u):V.cell? ⟨b1,j,none⟩=some u:=(Z.on h).c j u hu
theorem Sq.old{W1 V:World}{b j:Nat}{u:Value}(h:Sq W1 V)(hc:W1.cell? ⟨b,j,none⟩=some u):V.cell? ⟨b,j,none⟩=some u:=(Q.cell h (World.block_lt_of_cell? W1 _ hc)).trans hc
theorem rf_bin(o:List UInt8)(a c:Ex)(Ta Tc:List UInt8)(ho:1≤lvl o)(hTa:Ta.length≤100000)(hTc:Tc.length≤100000)(ha:RFm a Ta)(hc:RFm c Tc):RFm (binE o a c) (brk (decide (a.k=8∧lvl a.t<lvl o)) Ta++o++brk (decide (c.k=8∧lvl c.t<lvl o+1)) Tc):=by
 intro W v hr
 obtain ⟨k,m,t,bb,er,rs,ks,rv',kv,ao,kc,rfl,hp⟩:=hr.prt;have hx:=hp.ex;unfold binE at hx
 simp only [Ex.mk.injEq]at hx
 obtain ⟨rfl,rfl,ht,rfl,rfl,rfl,rfl⟩:=hx;have hkl:=hp.kl;subst hkl;obtain ⟨a1,c1,hrv,_,_⟩:=hp.rl.len;subst hrv;obtain ⟨kb,ko,rfl,hkl⟩:=hp.kd (by simp)
 obtain ⟨p0,p1,p2,p3,p4,p5,p6,hk0⟩:=hkl.kid 0 (by simp)
 obtain ⟨q0,q1,q2,q3,q4,q5,q6,hk1⟩:=hkl.kid 1 (by simp)
 obtain ⟨ak,am,at',ab,ae,aa1,al1,ac1,aa2,al2,ac2,hav⟩:=hk0.rd.shape;obtain ⟨ck,cm,ct',cb,ce,ca1,cl1,cc1,ca2,cl2,cc2,hcv⟩:=hk1.rd.shape;simp only [Value.agg.injEq,Array.mk.injEq,List.cons.injEq,and_true]at hav hcv
 obtain ⟨rfl,rfl,rfl,rfl,rfl,rfl,rfl⟩:=hav;obtain ⟨rfl,rfl,rfl,rfl,rfl,rfl,rfl⟩:=hcv;simp only [Nat.zero_mul,Nat.add_zero,Nat.one_mul,List.getElem_cons_zero,List.getElem_cons_succ]at hk0 hk1
 have hkb:kb<W.heap.size:=World.block_lt_of_cell? W _ hk0.g0
 have HKa:=hid hk0;have HKc:=hid hk1;have hol:=lvl_len ho;have hlv:=lvl_le o;have HSa:=hid (fun W' (q:Q W W')=>rside_any a Ta (by omega) ha W' _ (Rd.on q _ _ HKa.out.rd) (lvl o) (by omega))
 have HSc:=hid (fun W' (q:Q W W')=>rside_any c Tc (by omega) hc W' _ (Rd.on q _ _ HKc.out.rd) (lvl o+1) (by omega))
 rw [show ((lvl o+1:Nat):Int)=(lvl o:Int)+1 by omega]at HSc
 have HL:=hid (fun W'=>level_any t W')
 rw [←ht]at HL;have hwl:IntKind.i64.wrap ((lvl o:Int)+1)=(lvl o:Int)+1:=by rw [IntKind.wrap_i64];omega
 have hba:=brk_len (decide (a.k=8∧lvl a.t<lvl o)) Ta;have hbc:=brk_len (decide (c.k=8∧lvl c.t<lvl o+1)) Tc;generalize brk (decide (a.k=8∧lvl a.t<lvl o)) Ta=TA at HSa hba ⊢;generalize brk (decide (c.k=8∧lvl c.t<lvl o+1)) Tc=TC at HSc hbc ⊢;generalize (lvl o:Int)=lo at HSa HSc HL hwl;obtain ⟨S,hS⟩:∃ S:ByteArray,(⟨TA.toArray⟩:ByteArray)=S:=⟨_,rfl⟩;have hSl:S.data.toList=TA:=by rw [←hS]
 have hSs:S.size≤100002:=by rw [←len_data,hSl];omega
 rw [hS]at HSa;obtain ⟨U,hU⟩:∃ S:ByteArray,(⟨TC.toArray⟩:ByteArray)=S:=⟨_,rfl⟩;have hUl:U.data.toList=TC:=by rw [←hU]
 have hUs:U.size≤100002:=by rw [←len_data,hUl];omega
 rw [hU]at HSc;have hts:t.size≤2:=by rw [←len_data,←ht];exact hol
 obtain ⟨A,hA⟩:∃ B:ByteArray,S++t=B:=⟨_,rfl⟩;obtain ⟨B,hB⟩:∃ B:ByteArray,A++U=B:=⟨_,rfl⟩;have zA:A.size=S.size+t.size:=by rw [←hA,ByteArray.size_append]
 have n1:¬ (9223372036854775807<S.size+t.size):=by omega
 have n2:¬ (9223372036854775807<A.size+U.size):=by omega
 have HR:Hid (B=⟨(TA++o++TC).toArray⟩):=by
  show _=_
  rw [←hB,←hA,←hSl,←hUl,ht];apply ByteArray.ext
  apply Array.ext'
  simp
 rw [←HR.out];clear hr hp hkl hk0 hk1 ht hS hSl hU hUl HR hba hbc ha hc hol hlv zA ho;go_enter Tryz.func12,Tryz.ntmps12
 go_upto_region 1 with fail
 have Z1:=hid (cb_new W [.int .i64 8,.int .i64 0,.string t,.bool false,.int .i64 0,.slice a1 0 c1,.slice (some ⟨kb,ko,none⟩) 2 kc] 26);have Q1:=hid ((Q.refl W).alloc (.cells #[.int .i64 8,.int .i64 0,.string t,.bool false,.int .i64 0,.slice a1 0 c1,.slice (some ⟨kb,ko,none⟩) 2 kc] 26));rw [show ([.int .i64 8,.int .i64 0,.string t,.bool false,.int .i64 0,.slice a1 0 c1,.slice (some ⟨kb,ko,none⟩) 2 kc]:List Value).toArray=#[.int .i64 8,.int .i64 0,.string t,.bool false,.int .i64 0,.slice a1 0 c1,.slice (some ⟨kb,ko,none⟩) 2 kc] from rfl]at Z1
 generalize W.alloc (.cells #[.int .i64 8,.int .i64 0,.string t,.bool false,.int .i64 0,.slice a1 0 c1,.slice (some ⟨kb,ko,none⟩) 2 kc] 26)=W1 at Z1 Q1 ⊢;have p0:=hid ((Q1.out.cell hkb).trans HKa.out.g0);have p1:=hid ((Q1.out.cell hkb).trans HKa.out.g1);have p2:=hid ((Q1.out.cell hkb).trans HKa.out.g2);have p3:=hid ((Q1.out.cell hkb).trans HKa.out.g3);have p4:=hid ((Q1.out.cell hkb).trans HKa.out.g4);have p5:=hid ((Q1.out.cell hkb).trans HKa.out.g5);have p6:=hid ((Q1.out.cell hkb).trans HKa.out.g6);have r0:=hid ((Q1.out.cell hkb).trans HKc.out.g0);have r1:=hid ((Q1.out.cell hkb).trans HKc.out.g1);have r2:=hid ((Q1.out.cell hkb).trans HKc.out.g2);have r3:=hid ((Q1.out.cell hkb).trans HKc.out.g3);have r4:=hid ((Q1.out.cell hkb).trans HKc.out.g4);have r5:=hid ((Q1.out.cell hkb).trans HKc.out.g5);have r6:=hid ((Q1.out.cell hkb).trans HKc.out.g6);clear hkb;generalize W.heap.size=b1 at Z1 ⊢;have e0:∀ V,Sq W1 V→V.cell? ⟨b1,0,none⟩=some (.int .i64 8):=fun V h=>h.own Z1.out rfl
 have e2:∀ V,Sq W1 V→V.cell? ⟨b1,2,none⟩=some (.string t):=fun V h=>h.own Z1.out rfl
 have e6:∀ V,Sq W1 V→V.cell? ⟨b1,6,none⟩=some (.slice (some ⟨kb,ko,none⟩) 2 kc):=fun V h=>h.own Z1.out rfl
 have f0:∀ V,Sq W1 V→V.cell? ⟨kb,ko,none⟩=some (.int .i64 ak):=fun V h=>h.old p0.out
 have f1:∀ V,Sq W1 V→V.cell? ⟨kb,ko+1,none⟩=some (.int .i64 am):=fun V h=>h.old p1.out
 have f2:∀ V,Sq W1 V→V.cell? ⟨kb,ko+2,none⟩=some (.string at'):=fun V h=>h.old p2.out
 have f3:∀ V,Sq W1 V→V.cell? ⟨kb,ko+3,none⟩=some (.bool ab):=fun V h=>h.old p3.out
 have f4:∀ V,Sq W1 V→V.cell? ⟨kb,ko+4,none⟩=some (.int .i64 ae):=fun V h=>h.old p4.out
 have f5:∀ V,Sq W1 V→V.cell? ⟨kb,ko+5,none⟩=some (.slice aa1 al1 ac1):=fun V h=>h.old p5.out
 have f6:∀ V,Sq W1 V→V.cell? ⟨kb,ko+6,none⟩=some (.slice aa2 al2 ac2):=fun V h=>h.old p6.out
 have g0:∀ V,Sq W1 V→V.cell? ⟨kb,ko+7,none⟩=some (.int .i64 ck):=fun V h=>h.old r0.out
 have g1:∀ V,Sq W1 V→V.cell? ⟨kb,ko+7+1,none⟩=some (.int .i64 cm):=fun V h=>h.old r1.out
 have g2:∀ V,Sq W1 V→V.cell? ⟨kb,ko+7+2,none⟩=some (.string ct'):=fun V h=>h.old r2.out
 have g3:∀ V,Sq W1 V→V.cell? ⟨kb,ko+7+3,none⟩=some (.bool cb):=fun V h=>h.old r3.out
 have g4:∀ V,Sq W1 V→V.cell? ⟨kb,ko+7+4,none⟩=some (.int .i64 ce):=fun V h=>h.old r4.out
 have g5:∀ V,Sq W1 V→V.cell? ⟨kb,ko+7+5,none⟩=some (.slice ca1 cl1 cc1):=fun V h=>h.old r5.out
 have g6:∀ V,Sq W1 V→V.cell? ⟨kb,ko+7+6,none⟩=some (.slice ca2 cl2 cc2):=fun V h=>h.old r6.out
 have s1:Hid (Sq W1 W1):=hid (Q.refl W1)
 have s10:Hid (Sq W1 W1.drew):=hid (Q.refl W1).drew
 have d0:=e0 W1 s1.out;have d2:=e2 W1 s1.out;go_upto_region 27 with (go_at_call 36;refine (HL.out _).mono ?_;rintro e9 w1 ⟨rfl,h9⟩;replace h9:=h9.symm;subst h9)
 clear d0 d2;go_region_held3 (Sq W1) (with_reducible (first|exact s10.out|exact s11.out|exact s12.out)) (first|(go_at_call_of 35 ct';refine (HSc.out w11 (Q1.out.trans q11.out)).mono ?_;rintro e9 w12 ⟨rfl,q⟩;have q12:Hid (Q W1 w12):=hid (q11.out.trans q);have s12:=hid (s11.out.q q);clear q)|(go_at_call_of 35 at';refine (HSa.out W1.drew (Q1.out.trans (Q.refl W1).drew)).mono ?_;rintro e9 w11 ⟨rfl,q⟩;have q11:Hid (Q W1 w11):=hid ((Q.refl W1).drew.trans q);have s11:=hid (s10.out.q q);clear q))
 go_wp2_with fail
 go_ret
 exact ⟨rfl,Q1.out.trans q12.out⟩
theorem rf_range(r q:Rf)(hs:r.1.length≤1000)(hs':q.1.length≤1000)(lp:(prf r).length≤1000)(lp':(prf q).length≤1000):RFm (rangeE r q) (prf r++58::prf q):=by
 intro W v hr
 obtain ⟨k,m,t,bb,er,rs,ks,rv',kv,ao,cap,rfl,hp⟩:=hr.prt;have hx:=hp.ex;unfold rangeE at hx
 simp only [Ex.mk.injEq]at hx
 obtain ⟨rfl,rfl,ht,rfl,rfl,rfl,rfl⟩:=hx;have hkl:=hp.kl;subst hkl;obtain ⟨rb,ro,rc,hrv,_,hrc,hra⟩:=hp.rl.at (i:=0) (by simp)
 obtain ⟨rb',ro',rc',hrv',_,hrc',hrb⟩:=hp.rl.at (i:=1) (by simp)
 subst hrv;simp only [Value.slice.injEq,Option.some.injEq,Addr.mk.injEq,and_true]at hrv'
 obtain ⟨⟨rfl,rfl⟩,-,rfl⟩:=hrv';obtain ⟨sh,row,col,ra,ca⟩:=r;obtain ⟨sh',row',col',ra',ca'⟩:=q;simp only at hs hs'
 simp only [prf]at lp lp' ⊢
 have R0:=hid (show W.cell? ⟨rb,ro,none⟩=some (.string ⟨sh.toArray⟩) by have:=hra 0 _ rfl;simpa using this)
 have R1:=hid (show W.cell? ⟨rb,ro+1,none⟩=some (.int .i64 row) by have:=hra 1 _ rfl;simpa using this)
 have R2:=hid (show W.cell? ⟨rb,ro+2,none⟩=some (.int .i64 col) by have:=hra 2 _ rfl;simpa using this)
 have R3:=hid (show W.cell? ⟨rb,ro+3,none⟩=some (.bool ra) by have:=hra 3 _ rfl;simpa using this)
 have R4:=hid (show W.cell? ⟨rb,ro+4,none⟩=some (.bool ca) by have:=hra 4 _ rfl;simpa using this)
 have T0:=hid (show W.cell? ⟨rb,ro+5,none⟩=some (.string ⟨sh'.toArray⟩) by have:=hrb 0 _ rfl;simpa using this)
 have T1:=hid (show W.cell? ⟨rb,ro+5+1,none⟩=some (.int .i64 row') by have:=hrb 1 _ rfl;simpa using this)
 have T2:=hid (show W.cell? ⟨rb,ro+5+2,none⟩=some (.int .i64 col') by have:=hrb 2 _ rfl;simpa using this)
 have T3:=hid (show W.cell? ⟨rb,ro+5+3,none⟩=some (.bool ra') by have:=hrb 3 _ rfl;simpa using this)
 have T4:=hid (show W.cell? ⟨rb,ro+5+4,none⟩=some (.bool ca') by have:=hrb 4 _ rfl;simpa using this)
 have hlt:rb<W.heap.size:=World.block_lt_of_cell? W _ R0.out
 have HP1:=hid (fun W'=>rpref_any ⟨sh.toArray⟩ row col ra ca W' (by rw [size_mk];exact hs))
 have HP2:=hid (fun W'=>rpref_any ⟨sh'.toArray⟩ row' col' ra' ca' W' (by rw [size_mk];exact hs'))
 rw [show (⟨sh.toArray⟩:ByteArray).data.toList=sh from rfl]at HP1
 rw [show (⟨sh'.toArray⟩:ByteArray).data.toList=sh' from rfl]at HP2
 obtain ⟨P,hP⟩:∃ T:ByteArray,(⟨(prR sh row col ra ca).toArray⟩:ByteArray)=T:=⟨_,rfl⟩;obtain ⟨R,hR⟩:∃ T:ByteArray,(⟨(prR sh' row' col' ra' ca').toArray⟩:ByteArray)=T:=⟨_,rfl⟩;have hPl:P.data.toList=prR sh row col ra ca:=by rw [←hP]
 have hRl:R.data.toList=prR sh' row' col' ra' ca':=by rw [←hR]
 rw [hP]at HP1;rw [hR]at HP2;rw [←hPl]at lp ⊢;rw [←hRl]at lp' ⊢;rw [len_data]at lp lp';obtain ⟨E,hE⟩:∃ E:ByteArray,P++(⟨#[58]⟩:ByteArray)=E:=⟨_,rfl⟩;obtain ⟨F,hF⟩:∃ F:ByteArray,E++R=F:=⟨_,rfl⟩;have hEs:E.size=P.size+1:=by rw [←hE,ByteArray.size_append];rfl
 have HF:Hid (F=⟨(P.data.toList++58::R.data.toList).toArray⟩):=by
  show _=_
  rw [←hF,←hE];apply ByteArray.ext
  apply Array.ext'
  simp
 have n1:¬ (9223372036854775807<P.size+1):=by omega
 have n2:¬ (9223372036854775807<E.size+R.size):=by omega
 rw [←HF.out];generalize (⟨sh.toArray⟩:ByteArray)=S at HP1 R0;generalize (⟨sh'.toArray⟩:ByteArray)=S' at HP2 T0;unfold rv at HP1 HP2
 clear hr hp hra hrb HF hPl hRl hP hR lp lp' hs hs' ht hEs;go_enter Tryz.func12,Tryz.ntmps12
 go_upto_region 1 with fail
 have Z1:=hid (cb_new W [.int .i64 6,.int .i64 0,.string t,.bool false,.int .i64 0,.slice (some ⟨rb,ro,none⟩) 2 rc,.slice ao 0 cap] 26);have Q1:=hid ((Q.refl W).alloc (.cells #[.int .i64 6,.int .i64 0,.string t,.bool false,.int .i64 0,.slice (some ⟨rb,ro,none⟩) 2 rc,.slice ao 0 cap] 26));rw [show ([.int .i64 6,.int .i64 0,.string t,.bool false,.int .i64 0,.slice (some ⟨rb,ro,none⟩) 2 rc,.slice ao 0 cap]:List Value).toArray=#[.int .i64 6,.int .i64 0,.string t,.bool false,.int .i64 0,.slice (some ⟨rb,ro,none⟩) 2 rc,.slice ao 0 cap] from rfl]at Z1
 generalize W.alloc (.cells #[.int .i64 6,.int .i64 0,.string t,.bool false,.int .i64 0,.slice (some ⟨rb,ro,none⟩) 2 rc,.slice ao 0 cap] 26)=W1 at Z1 Q1 ⊢;have xR0:=hid ((Q1.out.cell hlt).trans R0.out);have xR1:=hid ((Q1.out.cell hlt).trans R1.out);have xR2:=hid ((Q1.out.cell hlt).trans R2.out);have xR3:=hid ((Q1.out.cell hlt).trans R3.out);have xR4:=hid ((Q1.out.cell hlt).trans R4.out);have xT0:=hid ((Q1.out.cell hlt).trans T0.out);have xT1:=hid ((Q1.out.cell hlt).trans T1.out);have xT2:=hid ((Q1.out.cell hlt).trans T2.out);have xT3:=hid ((Q1.out.cell hlt).trans T3.out);have xT4:=hid ((Q1.out.cell hlt).trans T4.out);clear hlt;generalize W.heap.size=b1 at Z1 ⊢;have e0:∀ V,Sq W1 V→V.cell? ⟨b1,0,none⟩=some (.int .i64 6):=fun V h=>h.own Z1.out rfl
 have e5:∀ V,Sq W1 V→V.cell? ⟨b1,5,none⟩=some (.slice (some ⟨rb,ro,none⟩) 2 rc):=fun V h=>h.own Z1.out rfl
 have f0:∀ V,Sq W1 V→V.cell? ⟨rb,ro,none⟩=some (.string S):=fun V h=>h.old xR0.out
 have f1:∀ V,Sq W1 V→V.cell? ⟨rb,ro+1,none⟩=some (.int .i64 row):=fun V h=>h.old xR1.out
 have f2:∀ V,Sq W1 V→V.cell? ⟨rb,ro+2,none⟩=some (.int .i64 col):=fun V h=>h.old xR2.out
 have f3:∀ V,Sq W1 V→V.cell? ⟨rb,ro+3,none⟩=some (.bool ra):=fun V h=>h.old xR3.out
 have f4:∀ V,Sq W1 V→V.cell? ⟨rb,ro+4,none⟩=some (.bool ca):=fun V h=>h.old xR4.out
 have g0:∀ V,Sq W1 V→V.cell? ⟨rb,ro+5,none⟩=some (.string S'):=fun V h=>h.old xT0.out
 have g1:∀ V,Sq W1 V→V.cell? ⟨rb,ro+5+1,none⟩=some (.int .i64 row'):=fun V h=>h.old xT1.out
 have g2:∀ V,Sq W1 V→V.cell? ⟨rb,ro+5+2,none⟩=some (.int .i64 col'):=fun V h=>h.old xT2.out
 have g3:∀ V,Sq W1 V→V.cell? ⟨rb,ro+5+3,none⟩=some (.bool ra'):=fun V h=>h.old xT3.out
 have g4:∀ V,Sq W1 V→V.cell? ⟨rb,ro+5+4,none⟩=some (.bool ca'):=fun V h=>h.old xT4.out
 have s1:Hid (Sq W1 W1):=hid (Q.refl W1)
 have s10:Hid (Sq W1 W1.drew):=hid (Q.refl W1).drew
 have d0:=e0 W1 s1.out;go_upto_region 22 with fail
 clear d0;go_region_held3 (Sq W1) (with_reducible (first|exact s10.out|exact s11.out|exact s12.out)) (first|(go_at_call_of 34 S';refine (HP2.out w11).mono ?_;rintro e9 w12 ⟨rfl,q⟩;have q12:Hid (Q W1 w12):=hid (q11.out.trans q);have s12:=hid (s11.out.q q);clear q)|(go_at_call_of 34 S;refine (HP1.out W1.drew).mono ?_;rintro e9 w11 ⟨rfl,q⟩;have q11:Hid (Q W1 w11):=hid ((Q.refl W1).drew.trans q);have s11:=hid (s10.out.q q);clear q))
 go_wp2_with fail
 go_ret
 exact ⟨rfl,Q1.out.trans q12.out⟩
theorem b_app{A B:ByteArray}{l m:List UInt8}(h:A=⟨l.toArray⟩)(h':B=⟨m.toArray⟩):A++B=⟨(l++m).toArray⟩:=by
 rw [h,h',bytes_cat]
theorem rf_call(nm:List UInt8)(ks:List Ex)(hk:∀ y∈ks,RFm y (fmE y))(hl:(nm++40::(joinT (ks.map fmE)++[41])).length≤100000):RFm (callE nm ks) (nm++40::(joinT (ks.map fmE)++[41])):=by
 intro W v hr
 obtain ⟨k,m,t,bb,er,rs,ks',rv',kv,ao,kc,rfl,hp⟩:=hr.prt;have hx:=hp.ex;unfold callE at hx
 simp only [Ex.mk.injEq]at hx
 obtain ⟨rfl,rfl,rfl,rfl,rfl,rfl,rfl⟩:=hx;have hkl:=hp.kl;subst hkl;obtain ⟨a1,c1,hrv,_,_⟩:=hp.rl.len;subst hrv;have hroom:ks.length≤9223372036854775807:=by have h1:=hp.le;have h2:=hp.mx;unfold maxLen at h2;omega
 have HP:=hid hp;have HK:=hid hk;simp only [List.length_append,List.length_cons,List.length_nil]at hl
 rw [len_data]at hl;obtain ⟨E,hE⟩:∃ E:ByteArray,t++(⟨#[40]⟩:ByteArray)=E:=⟨_,rfl⟩;have n1:¬ (9223372036854775807<t.size+1):=by omega
 have HE:Hid (E=⟨(t.data.toList++[40]++joinT ((ks.take 0).map fmE)).toArray⟩):=by
  show _=_
  rw [←hE];apply ByteArray.ext
  apply Array.ext'
  simp [joinT]
 have hlt0:t.data.toList.length=t.size:=len_data t
 obtain ⟨cur,hcur⟩:∃ cur,t.data.toList++[40]=cur:=⟨_,rfl⟩;have hcl:cur.length+(joinT (ks.map fmE)).length+1≤100000:=by rw [←hcur,List.length_append,hlt0];simp only [List.length_cons,List.length_nil];omega
 have HGL:Hid (cur++joinT (ks.map fmE)++[41]=t.data.toList++40::(joinT (ks.map fmE)++[41])):=by show _=_;rw [←hcur];simp
 rw [←HGL.out];rw [hcur]at HE;clear HGL hl hr hp hk hlt0 hcur;go_enter Tryz.func12,Tryz.ntmps12
 go_upto_region 1 with fail
 have Z1:=hid (cb_new W [.int .i64 9,.int .i64 0,.string t,.bool false,.int .i64 0,.slice a1 0 c1,.slice ao ks.length kc] 26);have Q1:=hid ((Q.refl W).alloc (.cells #[.int .i64 9,.int .i64 0,.string t,.bool false,.int .i64 0,.slice a1 0 c1,.slice ao ks.length kc] 26));rw [show ([.int .i64 9,.int .i64 0,.string t,.bool false,.int .i64 0,.slice a1 0 c1,.slice ao ks.length kc]:List Value).toArray=#[.int .i64 9,.int .i64 0,.string t,.bool false,.int .i64 0,.slice a1 0 c1,.slice ao ks.length kc] from rfl]at Z1
 generalize W.alloc (.cells #[.int .i64 9,.int .i64 0,.string t,.bool false,.int .i64 0,.slice a1 0 c1,.slice ao ks.length kc] 26)=W1 at Z1 Q1 ⊢;generalize W.heap.size=b1 at Z1 ⊢;have d0:=Z1.out.c 0 _ rfl;have d2:=Z1.out.c 2 _ rfl;go_wp2_with fail
 clear d0 d2;go_loopw [6,7] (fun a z W'=>∃ (i:Nat),i≤ks.length∧z=.int .i64 (i:Int)∧a=.string ⟨(cur++joinT ((ks.take i).map fmE)).toArray⟩∧Hid (Q W1 W')) (fun _ z _=>ks.length-(intOf z).toNat)
 case atStart=>exact ⟨0,Nat.zero_le _,rfl,congrArg Value.string HE.out,hid (Q.refl W1)⟩
 case round=>
  obtain ⟨i,hi,rfl,rfl,hQ⟩:=hrel;have Z2:=hid (Z1.out.on hQ.out);have d6:=Z2.out.c 6 _ rfl;have hM:=joinT_mono ks i;obtain ⟨P,hP⟩:∃ P:ByteArray,(⟨(cur++joinT ((ks.take i).map fmE)).toArray⟩:ByteArray)=P:=⟨_,rfl⟩;have hPs:P.size≤100000:=by rw [←hP,size_mk,List.length_append];omega
  rw [hP];have HPe:=hid hP.symm;clear hP;by_cases hlt:i<ks.length
  ·have i1:(i:Int)<(ks.length:Int):=by omega
   have hne:ks≠[]:=by intro h;rw [h]at hlt;simp at hlt
   obtain ⟨kb,ko,rfl,hkl⟩:=(HP.out.on (Q1.out.trans hQ.out)).kd hne;obtain ⟨e0,e1,e2,e3,e4,e5,e6,hKd⟩:=hkl.kid i hlt;obtain ⟨k',n',t',b1',e',a1',l1',c1',a2',l2',c2',hsh⟩:=hKd.rd.shape;simp only [Value.agg.injEq,Array.mk.injEq,List.cons.injEq,and_true]at hsh
   obtain ⟨rfl,rfl,rfl,rfl,rfl,rfl,rfl⟩:=hsh;have g0:=hKd.g0;have g1:=hKd.g1;have g2:=hKd.g2;have g3:=hKd.g3;have g4:=hKd.g4;have g5:=hKd.g5;have g6:=hKd.g6;have HR:=hid hKd.rd;have HI:=hid (HK.out ks[i] (List.getElem_mem hlt) wr _ HR.out);have HJ:Hid (joinT ((ks.take (i+1)).map fmE)=if i=0 then fmE ks[i] else joinT ((ks.take i).map fmE)++44::fmE ks[i]):=hid (joinT_take ks i hlt)
   have hM2:=joinT_mono ks (i+1);rw [HJ.out]at hM2;have hz0:Hid (i=0→joinT ((ks.take i).map fmE)=[]):=by show _→_;rintro rfl;rfl
   generalize fmE ks[i]=Tk at HI hM2 HJ;generalize joinT ((ks.take i).map fmE)=J at HPe hM hM2 HJ hz0;obtain ⟨U,hU⟩:∃ U:ByteArray,(⟨Tk.toArray⟩:ByteArray)=U:=⟨_,rfl⟩;have HU:=hid hU.symm;have hUs:U.size=Tk.length:=by rw [←hU,size_mk]
   rw [hU]at HI;clear hkl hKd hU;by_cases h0:i=0
   ·have hi0:(i:Int)=0:=by omega
    rw [if_pos h0]at hM2;obtain ⟨F,hF⟩:∃ F:ByteArray,P++U=F:=⟨_,rfl⟩;have n2:¬ (9223372036854775807<P.size+U.size):=by omega
    have HFr:Hid (F=⟨(cur++joinT ((ks.take (i+1)).map fmE)).toArray⟩):=by
     show _=_
     rw [HJ.out,if_pos h0,←hF,b_app HPe.out HU.out,hz0.out h0,List.append_nil]
    clear hUs hM hM2 hi0 HJ hz0;subst h0;simp only [Nat.zero_mul,Nat.add_zero]at g0 g1 g2 g3 g4 g5 g6
    go_wp2_with (go_at_call 12;refine HI.out.mono ?_;rintro e9 w9 ⟨rfl,q9⟩;have Q9:=hid (hQ.out.trans q9);clear q9)
    go_roundw
    case rel=>exact ⟨0+1,by omega,by rfl,congrArg Value.string HFr.out,Q9⟩
    case measure=>simp [intOf];omega
   ·have hi0:0<(i:Int):=by omega
    rw [if_neg h0,List.length_append,List.length_cons]at hM2;obtain ⟨G,hG⟩:∃ F:ByteArray,P++(⟨#[44]⟩:ByteArray)=F:=⟨_,rfl⟩;obtain ⟨F,hF⟩:∃ F:ByteArray,G++U=F:=⟨_,rfl⟩;have hGs:G.size=P.size+1:=by rw [←hG,ByteArray.size_append];rfl
    have n2:¬ (9223372036854775807<P.size+1):=by omega
    have n3:¬ (9223372036854775807<G.size+U.size):=by omega
    have HFr:Hid (F=⟨(cur++joinT ((ks.take (i+1)).map fmE)).toArray⟩):=by
     show _=_
     rw [HJ.out,if_neg h0,←hF,←hG,b_app (b_app HPe.out (show (⟨#[44]⟩:ByteArray)=⟨[44].toArray⟩ from rfl)) HU.out]
     simp
    clear hUs hM hM2 hGs;go_wp2_with (go_at_call 12;refine HI.out.mono ?_;rintro e9 w9 ⟨rfl,q9⟩;have Q9:=hid (hQ.out.trans q9);clear q9)
    go_roundw
    case rel=>exact ⟨i+1,by omega,by go_num,congrArg Value.string HFr.out,Q9⟩
    case measure=>simp [intOf];omega
  ·have i1:¬ ((i:Int)<(ks.length:Int)):=by omega
   have hall:ks.take i=ks:=List.take_of_length_le (by omega)
   rw [hall]at HPe;obtain ⟨F,hF⟩:∃ F:ByteArray,P++(⟨#[41]⟩:ByteArray)=F:=⟨_,rfl⟩;have n2:¬ (9223372036854775807<P.size+1):=by omega
   have HFr:Hid (F=⟨(cur++joinT (ks.map fmE)++[41]).toArray⟩):=by
    show _=_
    rw [←hF,b_app HPe.out (show (⟨#[41]⟩:ByteArray)=⟨[41].toArray⟩ from rfl)]
   clear hall hM;go_wp2_with fail
   go_ret
   exact ⟨ret_str (by rw [HFr.out,List.append_assoc]),Q1.out.trans hQ.out⟩
theorem side_same{x:Ex}{n:Nat}(h:x.k=8→1≤lvl x.t)(hn:n≤5):decide (sgE x.k x.t<n)=decide (x.k=8∧lvl x.t<n):=by
 refine decide_eq_decide.2 ?_
 by_cases e:x.k=8
 ·rw [e,sg_bin (h e)]
  simp
 ·rw [sg_not e]
  constructor
  ·intro h5;omega
  ·intro h5;exact absurd h5.1 e
theorem may_op{x:Ex}(h:mall mayN x=true):x.k=8→1≤lvl x.t:=by
 obtain ⟨k,n,t,b,e,rs,ks⟩:=x;intro hk
 have hk:k=8:=hk
 subst hk;have h1:=(mall_kids h).1;rw [mayN,if_neg (by decide),if_neg (by decide),if_neg (by decide),if_neg (by decide),if_neg (by decide),if_neg (by decide),if_neg (by decide),if_pos rfl]at h1
 simp only [Bool.and_eq_true,decide_eq_true_eq]at h1
 exact h1.1.1
theorem rf_all:∀ (m:Nat) (x:Ex),nodes x≤m→nodes x≤200→mall mayN x=true→Rn x→RFm x (fmE x):=by
 intro m
 induction m with
 |zero=>
  intro x h
  obtain ⟨k,n,t,b,e,rs,ks⟩:=x;rw [nodes]at h;omega
 |succ m ih=>
  intro x hm h200 hx hr
  obtain ⟨hn,hk⟩:mayN x=true∧∀ y∈x.ks,mall mayN y=true:=by
   obtain ⟨k,n,t,b,e,rs,ks⟩:=x;exact mall_kids hx
  have hkr:∀ y∈x.ks,Rn y:=by
   obtain ⟨k,n,t,b,e,rs,ks⟩:=x;rw [Rn]at hr;exact rn_kid hr.2
  have hkm:∀ y∈x.ks,nodes y≤m∧nodes y≤200:=by
   obtain ⟨k,n,t,b,e,rs,ks⟩:=x;rw [nodes]at hm h200;intro y hy
   have:=nodes_lt (show y∈ks from hy)
   omega
  have IH:∀ y∈x.ks,RFm y (fmE y):=fun y hy=>ih y (hkm y hy).1 (hkm y hy).2 (hk y hy) (hkr y hy)
  have hlen:∀ y∈x.ks,(fmE y).length≤100000:=fun y hy=>by
   have:=fm_len _ y (Nat.le_refl _) (hk y hy) (hkr y hy)
   have:=(hkm y hy).2
   omega
  have hlx:=fm_len _ x (Nat.le_refl _) hx hr
  rcases may_cases x hn with ⟨n,rfl,h0⟩|⟨t,rfl,h0⟩|⟨b,rfl⟩|⟨e,rfl,h0,h1⟩|⟨r,rfl,h0⟩|⟨r,q,rfl,h0,h1,h2⟩|⟨y,rfl⟩|⟨o,y,z,rfl,h0⟩|⟨t,ks,rfl,h0,h1⟩
  ·have hn':n≤9223372036854775807:=by unfold numE at hr;rw [Rn]at hr;exact hr.1
   rw [fm_num];exact rf_num n (decide_eq_true ⟨by omega,hn'⟩)
  ·rw [fm_text]
   exact rf_text t (mtB_len h0)
  ·rw [fm_bool]
   exact rf_bool b
  ·rw [fm_err]
   exact rf_err e
  ·rw [fm_ref]
   exact rf_ref r (by have:=sheet_len h0;omega)
  ·rw [fm_range]
   exact rf_range r q (by have:=sheet_len h0;omega) (by have:=sheet_len h1;omega) (by have:=prf_len h0;omega) (by have:=prf_len h1;omega)
  ·rw [fm_neg]
   have hy:y∈(negE y).ks:=by simp [negE]
   have e:decide (y.k=8)=decide (y.k=8∧lvl y.t<5):=decide_eq_decide.2 ⟨fun h=>⟨h,by have:=lvl_le y.t;omega⟩,fun h=>h.1⟩
   rw [e];exact rf_neg y _ (hlen y hy) (IH y hy)
  ·rw [fm_bin]
   have hy:y∈(binE o y z).ks:=by simp [binE]
   have hz:z∈(binE o y z).ks:=by simp [binE]
   have hl:=lvl_le o;have e2:decide (sgE z.k z.t≤lvl o)=decide (sgE z.k z.t<lvl o+1):=decide_eq_decide.2 (by omega)
   rw [sg_bin h0,e2,side_same (may_op (hk y hy)) (by omega),side_same (may_op (hk z hz)) (by omega)]
   exact rf_bin o y z _ _ h0 (hlen y hy) (hlen z hz) (IH y hy) (IH z hz)
  ·rw [fm_call]at hlx ⊢
   exact rf_call t ks (fun y hy=>IH y hy) (by omega)
def RdI(W:World):Ex→Value→Prop
 |.mk k n t b e rs ks,v=>∃ rv kv,v=.agg #[.int .i64 k,.int .i64 n,.string ⟨t.toArray⟩,.bool b,.int .i64 e,rv,kv]∧Sl rf 5 W rv rs ∧
   ∃ (ao:Option Addr) (cap:Nat),kv=.slice ao ks.length cap∧ks.length≤cap∧cap≤maxLen∧(ks≠[]→∃ b' off,ao=some ⟨b',off,none⟩∧RdIL W ks b' off)
 where
 RdIL (W:World):List Ex→Nat→Nat→Prop
 |[],_,_=>True
 |x::xs,b,off=>(∃ c0 c1 c2 c3 c4 c5 c6,W.cell? ⟨b,off,none⟩=some c0∧W.cell? ⟨b,off+1,none⟩=some c1∧W.cell? ⟨b,off+2,none⟩=some c2∧W.cell? ⟨b,off+3,none⟩=some c3∧W.cell? ⟨b,off+4,none⟩=some c4∧W.cell? ⟨b,off+5,none⟩=some c5∧W.cell? ⟨b,off+6,none⟩=some c6∧RdI W x (.agg #[c0,c1,c2,c3,c4,c5,c6]))∧RdIL W xs b (off+7)
structure KidI (W:World) (x:Ex) (b off:Nat) (c0 c1 c2 c3 c4 c5 c6:Value):Prop where
 g0:W.cell? ⟨b,off,none⟩=some c0
 g1:W.cell? ⟨b,off+1,none⟩=some c1
 g2:W.cell? ⟨b,off+2,none⟩=some c2
 g3:W.cell? ⟨b,off+3,none⟩=some c3
 g4:W.cell? ⟨b,off+4,none⟩=some c4
 g5:W.cell? ⟨b,off+5,none⟩=some c5
 g6:W.cell? ⟨b,off+6,none⟩=some c6
 rd:RdI W x (.agg #[c0,c1,c2,c3,c4,c5,c6])
theorem RdI.RdIL.kid{W:World}:∀ {ks:List Ex} {b off:Nat},RdI.RdIL W ks b off→∀ i (h:i<ks.length),∃ c0 c1 c2 c3 c4 c5 c6,KidI W ks[i] b (off+i*7) c0 c1 c2 c3 c4 c5 c6
 |[],_,_,_,i,h=>absurd h (by simp)
 |x::xs,b,off,hr,i,h=>by
  unfold RdI.RdIL at hr
  obtain ⟨⟨c0,c1,c2,c3,c4,c5,c6,g0,g1,g2,g3,g4,g5,g6,hx⟩,hr⟩:=hr;cases i with
  |zero=>exact ⟨c0,c1,c2,c3,c4,c5,c6,by simpa using g0,by simpa using g1,by simpa using g2,by simpa using g3,by simpa using g4,by simpa using g5,by simpa using g6,hx⟩
  |succ i=>
   obtain ⟨c0,c1,c2,c3,c4,c5,c6,hk⟩:=RdI.RdIL.kid hr i (by simpa using h)
   rw [show off+7+i*7=off+(i+1)*7 by omega]at hk
   exact ⟨c0,c1,c2,c3,c4,c5,c6,hk⟩
theorem RdI.shape{W:World}{x:Ex}{v:Value}(h:RdI W x v):∃ k n t b e a1 l1 c1 a2 l2 c2,v=.agg #[.int .i64 k,.int .i64 n,.string t,.bool b,.int .i64 e,.slice a1 l1 c1,.slice a2 l2 c2]:=by
 cases x with
 |mk k n t b e rs ks=>
  unfold RdI at h
  obtain ⟨rv,kv,hv,hr,ao,cap,hk,_⟩:=h;obtain ⟨a1,c1,hr,_⟩:=hr;subst hr hk
  exact ⟨_,_,_,_,_,_,_,_,_,_,_,hv⟩
def cutE:Ex→Nat→Nat→Ex × Nat
 |.mk k n t b e rs ks,d,l=>(.mk k n (t.take 250) b e (rs.take 4) (cutL ks d (l-1)).1,(cutL ks d (l-1)).2)
 where
 cutL:List Ex→Nat→Nat→List Ex × Nat
 |[],_,l=>([],l)
 |x::xs,d,l=>if 0<l∧d<60 then ((cutE x (d+1) l).1::(cutL xs d (cutE x (d+1) l).2).1,(cutL xs d (cutE x (d+1) l).2).2) else ([],l)
theorem cut_nodes:∀ (x:Ex) (d l:Nat),0<l→nodes (cutE x d l).1+(cutE x d l).2=l
 |.mk k n t b e rs ks,d,l,h=>by
  rw [cutE,nodes];have:=go ks d (l-1)
  simp only
  omega
 where
 go:∀ (ks:List Ex) (d l:Nat),nodes.nodesL (cutE.cutL ks d l).1+(cutE.cutL ks d l).2=l
 |[],d,l=>by rw [cutE.cutL];simp [nodes.nodesL]
 |x::xs,d,l=>by
  rw [cutE.cutL]
  split
  ·rename_i h
   have h1:=cut_nodes x (d+1) l h.1;have h2:=go xs d (cutE x (d+1) l).2;simp only [nodes.nodesL]
   omega
  ·simp [nodes.nodesL]
def Shs(B:Nat):Ex→Prop
 |.mk _ _ _ _ _ rs ks=>(∀ r∈rs,r.1.length≤B)∧ShsL B ks
 where
 ShsL (B:Nat):List Ex→Prop
 |[]=>True
 |x::xs=>Shs B x∧ShsL B xs
theorem cut_sm{B:Nat}(hB:B≤2000000):∀ (x:Ex) (d l:Nat),Shs B x→Sm (cutE x d l).1
 |.mk k n t b e rs ks,d,l,h=>by
  rw [Shs]at h;rw [cutE,Sm];refine ⟨?_,fun r hr=>Nat.le_trans (h.1 r (List.mem_of_mem_take hr)) hB,go hB ks d (l-1) h.2⟩
  rw [List.length_take];omega
 where
 go {B:Nat} (hB:B≤2000000):∀ (ks:List Ex) (d l:Nat),Shs.ShsL B ks→Sm.SmL (cutE.cutL ks d l).1
 |[],d,l,_=>by rw [cutE.cutL,Sm.SmL];trivial
 |x::xs,d,l,h=>by
  rw [Shs.ShsL]at h;rw [cutE.cutL]
  split
  ·rw [Sm.SmL]
   exact ⟨cut_sm hB x (d+1) l h.1,go hB xs d _ h.2⟩
  ·rw [Sm.SmL];trivial
def rm:Ex→Nat→Bool
 |.mk k n t b e rs ks,d=>decide (d≤50)&&(mayN (.mk k n t b e rs ks)&&rmL ks (d+1))
 where
 rmL:List Ex→Nat→Bool
 |[],_=>true
 |x::xs,d=>rm x d&&rmL xs d
theorem rmL_all(ks:List Ex)(d:Nat):rm.rmL ks d=ks.all (fun x=>rm x d):=by
 induction ks with
 |nil=>rfl
 |cons x xs ih=>rw [rm.rmL,ih];rfl
theorem rm_shl:∀ (x:Ex) (d m:Nat),d+m=51→rm x d=(shl m x&&mall mayN x)
 |.mk k n t b e rs ks,d,m,h=>by
  rw [rm,mall];cases m with
  |zero=>
   rw [decide_eq_false (by omega),Bool.false_and]
   rfl
  |succ m=>
   rw [decide_eq_true (by omega),Bool.true_and,go ks (d+1) m (by omega)]
   show _=(ks.all (shl m)&&_)
   cases mayN (.mk k n t b e rs ks) <;> cases ks.all (shl m) <;> simp
 where
 go:∀ (ks:List Ex) (d m:Nat),d+m=51→rm.rmL ks d=(ks.all (shl m)&&mall.mallL mayN ks)
 |[],_,_,_=>by rw [rm.rmL,mall.mallL];rfl
 |x::xs,d,m,h=>by
  rw [rm.rmL,rm_shl x d m h,go xs d m h,mall.mallL,List.all_cons];cases shl m x <;> cases mall mayN x <;> cases xs.all (shl m) <;> simp
theorem cnt_nodes:∀ (x:Ex) (n:Nat),n≤200→min (cnt x n) 201=min (n+nodes x) 201
 |.mk k m t b e rs ks,n,h=>by
  rw [cnt,nodes,go ks (n+1) (by omega)]
  congr 1
  omega
 where
 go:∀ (ks:List Ex) (n:Nat),n≤201→min (cnt.cntL ks n) 201=min (n+nodes.nodesL ks) 201
 |[],n,_=>by rw [cnt.cntL,nodes.nodesL,Nat.add_zero]
 |x::xs,n,h=>by
  rw [cnt.cntL,nodes.nodesL]
  split
  ·rename_i h'
   have h1:=cnt_nodes x n h';have h2:=cnt_le x n h';rw [go xs (cnt x n) h2];omega
  ·omega
end Go.Proofs.YtgheopdadfnilaaGreatDoor
