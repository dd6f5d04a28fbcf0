/- show.writeTree of an operator,. -/
import Derived.Test.YtgheopdadfnilaaGreatDoorKf34
import Derived.Test.YtgheopdadfnilaaGreatDoorKf21
import Derived.Lib.ReplaceLaws
import Derived.Test.YtgheopdadfnilaaGreatDoorKf20
import Derived.Test.YtgheopdadfnilaaGreatDoorKf02
import Derived.Laws.StructEq
set_option linter.unusedVariables false
set_option linter.unusedSimpArgs false
set_option maxRecDepth 100000
set_option maxHeartbeats 8000000
namespace Go.Proofs.YtgheopdadfnilaaGreatDoor
open Go.RowKit
theorem pr_bin(o:List UInt8)(a c:Ex)(Ta Tc:List UInt8)(ho:0<o.length)(ha:Wri a Ta)(hc:Wri c Tc):Wri (binE o a c) (brk (decide (sgE a.k a.t<sgE 8 o)) Ta++o++brk (decide (sgE c.k c.t≤sgE 8 o)) Tc):=by
 intro W0 W b bs v hg hb hr hl
 obtain ⟨k,m,t,bb,er,rs,ks,rv',kv,ao,kc,rfl,hp⟩:=hr.prt;have hx:=hp.ex;unfold binE at hx
 simp only [Ex.mk.injEq]at hx
 obtain ⟨rfl,rfl,ht,rfl,rfl,rfl,rfl⟩:=hx;have hkl:=hp.kl;subst hkl;obtain ⟨a1,c1,hrv,_,_⟩:=hp.rl.len;subst hrv;obtain ⟨kb,ko,rfl,hkl⟩:=hp.kd (by simp)
 obtain ⟨p0,p1,p2,p3,p4,p5,p6,hk0⟩:=hkl.kid 0 (by simp)
 obtain ⟨q0,q1,q2,q3,q4,q5,q6,hk1⟩:=hkl.kid 1 (by simp)
 obtain ⟨ak,am,at',ab,ae,aa1,al1,ac1,aa2,al2,ac2,hav⟩:=hk0.rd.shape;obtain ⟨ck,cm,ct',cb,ce,ca1,cl1,cc1,ca2,cl2,cc2,hcv⟩:=hk1.rd.shape;simp only [Value.agg.injEq,Array.mk.injEq,List.cons.injEq,and_true]at hav hcv
 obtain ⟨rfl,rfl,rfl,rfl,rfl,rfl,rfl⟩:=hav;obtain ⟨rfl,rfl,rfl,rfl,rfl,rfl,rfl⟩:=hcv;have hkta:=rd_kt hk0.rd;have hktc:=rd_kt hk1.rd;simp only [List.getElem_cons_zero,List.getElem_cons_succ]at hkta hktc
 have HKa:=hid hk0;have HKc:=hid hk1;simp only [Nat.zero_mul,Nat.add_zero,Nat.one_mul,List.getElem_cons_zero,List.getElem_cons_succ]at HKa HKc
 rw [hkta.1,hkta.2,hktc.1,hktc.2]at hl ⊢;rw [ht]at hl ho ⊢;obtain ⟨na,hna⟩:∃ na,sgE ak at'.data.toList=na:=⟨_,rfl⟩;obtain ⟨nc,hnc⟩:∃ nc,sgE ck ct'.data.toList=nc:=⟨_,rfl⟩;obtain ⟨ne,hne⟩:∃ ne,sgE 8 t.data.toList=ne:=⟨_,rfl⟩;rw [hna,hnc,hne]at hl ⊢;have h62a:=hid (fun W'=>strength8 ak am at' ab ae aa1 aa2 al1 ac1 al2 ac2 W')
 have h62c:=hid (fun W'=>strength8 ck cm ct' cb ce ca1 ca2 cl1 cc1 cl2 cc2 W')
 have h62e:=hid (fun W'=>strength8 8 0 t false 0 a1 (some ⟨kb,ko,none⟩) 0 c1 2 kc W')
 rw [hna]at h62a;rw [hnc]at h62c;rw [hne]at h62e;have lA:=brk_len (decide (na<ne)) Ta;have lC:=brk_len (decide (nc≤ne)) Tc;simp only [List.length_append]at hl
 have hts:0<t.size:=by rw [←len_data];exact ho
 have htl:t.data.toList.length=t.size:=len_data t
 obtain ⟨bra,hbra⟩:∃ x,decide (na<ne)=x:=⟨_,rfl⟩;obtain ⟨brc,hbrc⟩:∃ x,decide (nc≤ne)=x:=⟨_,rfl⟩;have eA:decide ((na:Int)<(ne:Int))=bra:=by rw [←hbra];exact decide_eq_decide.2 (by omega)
 have eC:decide ((nc:Int)≤(ne:Int))=brc:=by rw [←hbrc];exact decide_eq_decide.2 (by omega)
 rw [hbra,hbrc]at hl ⊢;have HSa:=hid (fun W' bs' (h:Bd W0 W' b bs') (hl':bs'.length+(brk bra Ta).length≤100000)=>side_any a Ta ha W0 W' b bs' _ bra hg h HKa.out.rd hl')
 have HSc:=hid (fun W' bs' (h:Bd W0 W' b bs') (hl':bs'.length+(brk brc Tc).length≤100000)=>side_any c Tc hc W0 W' b bs' _ brc hg h HKc.out.rd hl')
 have HB:=hid hb;generalize brk bra Ta=TA at HSa hl ⊢;generalize brk brc Tc=TC at HSc hl ⊢;have HGL:Hid (((bs++TA)++t.data.toList)++TC=bs++(TA++t.data.toList++TC)):=by show _=_;simp
 rw [←HGL.out];clear HGL lA lC hk0 hk1 hr hp hkl ho ha hc hg hb hna hnc hne hkta hktc ht;go_enter Tryz.func28,Tryz.ntmps28
 go_upto_region 1 with fail
 have H1:=hid (heap_alloc_new W (.cells #[.int .i64 8,.int .i64 0,.string t,.bool false,.int .i64 0,.slice a1 0 c1,.slice (some ⟨kb,ko,none⟩) 2 kc] 26));have B1:=hid (HB.out.on ((Q.refl W).alloc (.cells #[.int .i64 8,.int .i64 0,.string t,.bool false,.int .i64 0,.slice a1 0 c1,.slice (some ⟨kb,ko,none⟩) 2 kc] 26)));have K1:=hid (Kp.of ((Q.refl W).alloc (.cells #[.int .i64 8,.int .i64 0,.string t,.bool false,.int .i64 0,.slice a1 0 c1,.slice (some ⟨kb,ko,none⟩) 2 kc] 26)));generalize W.alloc (.cells #[.int .i64 8,.int .i64 0,.string t,.bool false,.int .i64 0,.slice a1 0 c1,.slice (some ⟨kb,ko,none⟩) 2 kc] 26)=W1 at H1 B1 K1 ⊢;generalize W.heap.size=b1 at H1 ⊢;have s1:=hid (Svt.start (W0:=W0) (W1:=W1) B1.out.2 (Q.refl W1));have s10:=hid (Svt.start (W0:=W0) (W1:=W1) B1.out.2 (Q.refl W1).drew);have e0:∀ V,Svt W0 W1 V→V.cell? ⟨b1,0,none⟩=some (.int .i64 8):=fun V h=>h.own (cs:=[.int .i64 8,.int .i64 0,.string t,.bool false,.int .i64 0,.slice a1 0 c1,.slice (some ⟨kb,ko,none⟩) 2 kc]) H1.out rfl
 have e1:∀ V,Svt W0 W1 V→V.cell? ⟨b1,1,none⟩=some (.int .i64 0):=fun V h=>h.own (cs:=[.int .i64 8,.int .i64 0,.string t,.bool false,.int .i64 0,.slice a1 0 c1,.slice (some ⟨kb,ko,none⟩) 2 kc]) H1.out rfl
 have e2:∀ V,Svt W0 W1 V→V.cell? ⟨b1,2,none⟩=some (.string t):=fun V h=>h.own (cs:=[.int .i64 8,.int .i64 0,.string t,.bool false,.int .i64 0,.slice a1 0 c1,.slice (some ⟨kb,ko,none⟩) 2 kc]) H1.out rfl
 have e3:∀ V,Svt W0 W1 V→V.cell? ⟨b1,3,none⟩=some (.bool false):=fun V h=>h.own (cs:=[.int .i64 8,.int .i64 0,.string t,.bool false,.int .i64 0,.slice a1 0 c1,.slice (some ⟨kb,ko,none⟩) 2 kc]) H1.out rfl
 have e4:∀ V,Svt W0 W1 V→V.cell? ⟨b1,4,none⟩=some (.int .i64 0):=fun V h=>h.own (cs:=[.int .i64 8,.int .i64 0,.string t,.bool false,.int .i64 0,.slice a1 0 c1,.slice (some ⟨kb,ko,none⟩) 2 kc]) H1.out rfl
 have e5:∀ V,Svt W0 W1 V→V.cell? ⟨b1,5,none⟩=some (.slice a1 0 c1):=fun V h=>h.own (cs:=[.int .i64 8,.int .i64 0,.string t,.bool false,.int .i64 0,.slice a1 0 c1,.slice (some ⟨kb,ko,none⟩) 2 kc]) H1.out rfl
 have e6:∀ V,Svt W0 W1 V→V.cell? ⟨b1,6,none⟩=some (.slice (some ⟨kb,ko,none⟩) 2 kc):=fun V h=>h.own (cs:=[.int .i64 8,.int .i64 0,.string t,.bool false,.int .i64 0,.slice a1 0 c1,.slice (some ⟨kb,ko,none⟩) 2 kc]) H1.out rfl
 have f0:∀ V,Svt W0 W1 V→V.cell? ⟨kb,ko,none⟩=some (.int .i64 ak):=fun V h=>h.old HKa.out.g0
 have f1:∀ V,Svt W0 W1 V→V.cell? ⟨kb,ko+1,none⟩=some (.int .i64 am):=fun V h=>h.old HKa.out.g1
 have f2:∀ V,Svt W0 W1 V→V.cell? ⟨kb,ko+2,none⟩=some (.string at'):=fun V h=>h.old HKa.out.g2
 have f3:∀ V,Svt W0 W1 V→V.cell? ⟨kb,ko+3,none⟩=some (.bool ab):=fun V h=>h.old HKa.out.g3
 have f4:∀ V,Svt W0 W1 V→V.cell? ⟨kb,ko+4,none⟩=some (.int .i64 ae):=fun V h=>h.old HKa.out.g4
 have f5:∀ V,Svt W0 W1 V→V.cell? ⟨kb,ko+5,none⟩=some (.slice aa1 al1 ac1):=fun V h=>h.old HKa.out.g5
 have f6:∀ V,Svt W0 W1 V→V.cell? ⟨kb,ko+6,none⟩=some (.slice aa2 al2 ac2):=fun V h=>h.old HKa.out.g6
 have g0:∀ V,Svt W0 W1 V→V.cell? ⟨kb,ko+7,none⟩=some (.int .i64 ck):=fun V h=>h.old HKc.out.g0
 have g1:∀ V,Svt W0 W1 V→V.cell? ⟨kb,ko+7+1,none⟩=some (.int .i64 cm):=fun V h=>h.old HKc.out.g1
 have g2:∀ V,Svt W0 W1 V→V.cell? ⟨kb,ko+7+2,none⟩=some (.string ct'):=fun V h=>h.old HKc.out.g2
 have g3:∀ V,Svt W0 W1 V→V.cell? ⟨kb,ko+7+3,none⟩=some (.bool cb):=fun V h=>h.old HKc.out.g3
 have g4:∀ V,Svt W0 W1 V→V.cell? ⟨kb,ko+7+4,none⟩=some (.int .i64 ce):=fun V h=>h.old HKc.out.g4
 have g5:∀ V,Svt W0 W1 V→V.cell? ⟨kb,ko+7+5,none⟩=some (.slice ca1 cl1 cc1):=fun V h=>h.old HKc.out.g5
 have g6:∀ V,Svt W0 W1 V→V.cell? ⟨kb,ko+7+6,none⟩=some (.slice ca2 cl2 cc2):=fun V h=>h.old HKc.out.g6
 have d0:=e0 W1 s1.out;go_upto_region 13 with fail
 clear d0;go_region_held3 (Svt W0 W1) (with_reducible (first|exact s10.out|exact s11.out|exact s12.out|exact s13.out)) (first|(go_at_call 61;refine (HSa.out w12 bs (B1.out.on q12.out) (by omega)).mono ?_;rintro e9 w13 ⟨⟨u3,rfl⟩,b13,k13⟩;have B13:=hid b13;have s13:Hid (Svt W0 W1 w13):=hid ⟨(Kp.of q12.out).trans k13,b13.2⟩;clear b13 k13)|(go_at_call_of 62 t;refine (h62e.out w11).mono ?_;rintro e9 w12 ⟨rfl,q⟩;have q12:Hid (Q W1 w12):=hid (q11.out.trans q);have s12:=hid (s11.out.q q);clear q)|(go_at_call_of 62 at';refine (h62a.out W1.drew).mono ?_;rintro e9 w11 ⟨rfl,q⟩;have q11:Hid (Q W1 w11):=hid ((Q.refl W1).drew.trans q);have s11:=hid (s10.out.q q);clear q))
 have d2:=e2 w13 s13.out;go_upto_region 15 with (go_at_call 58;refine (bd_write B13.out t hts (by rw [List.length_append];omega)).mono ?_;rintro e9 w2 ⟨⟨u,rfl⟩,b2,k2⟩;have B2:=hid b2;have s2:Hid (Svt W0 W1 w2):=hid ⟨s13.out.1.trans k2,b2.2⟩;have s20:=hid (s2.out.q (Q.refl w2).drew);clear b2 k2)
 clear d2 f0 f1 f2 f3 f4 f5 f6;go_region_held3 (Svt W0 W1) (with_reducible (first|exact s20.out|exact s21.out|exact s22.out|exact s23.out)) (first|(go_at_call 61;refine (HSc.out w22 _ (B2.out.on q22.out) (by rw [List.length_append,List.length_append];omega)).mono ?_;rintro e9 w23 ⟨⟨u4,rfl⟩,b23,k23⟩;have B23:=hid b23;have s23:Hid (Svt W0 W1 w23):=hid ⟨s22.out.1.trans k23,b23.2⟩;clear b23 k23)|(go_at_call_of 62 t;refine (h62e.out w21).mono ?_;rintro e9 w22 ⟨rfl,q⟩;have q22:Hid (Q w2 w22):=hid (q21.out.trans q);have s22:=hid (s21.out.q q);clear q)|(go_at_call_of 62 ct';refine (h62c.out w2.drew).mono ?_;rintro e9 w21 ⟨rfl,q⟩;have q21:Hid (Q w2 w21):=hid ((Q.refl w2).drew.trans q);have s21:=hid (s20.out.q q);clear q))
 go_wp2_with fail
 go_end0
 exact ⟨⟨_,rfl⟩,B23.out,K1.out.trans s23.out.1⟩
theorem replaceAll_any(t:ByteArray)(w:World)(hw:Std w)(ht:t.size≤1000):Calls Tryz.prog 59 #[.string t,.string ⟨#[34]⟩,.string ⟨#[34,34]⟩] w fun e w'=>e=.returned (.string ⟨(dbl t.data.toList).toArray⟩)∧Q w w':=by
 obtain ⟨m,hm⟩:=hw.len;have hc:=Lib.countB_le ⟨#[34]⟩ (by decide) t.size t (Nat.le_refl _)
 have h:=Tryz.strings_ReplaceAll t ⟨#[34]⟩ ⟨#[34,34]⟩ m w (by omega) hm (by decide) (by rw [show (⟨#[34,34]⟩:ByteArray).size=2 from rfl];omega)
 refine h.mono ?_
 rintro e w' ⟨rfl,q⟩
 rw [show (⟨#[34]⟩:ByteArray).data.toList=[34] from rfl,show (⟨#[34,34]⟩:ByteArray).data.toList=[34,34] from rfl,replace_dbl]
 exact ⟨rfl,q⟩
theorem pr_text(x:List UInt8)(hx':V.mtB x=true):Wri (textE x) (34::(dbl x++[34])):=by
 intro W0 W b bs v hg hb hr hl
 obtain ⟨k,m,t,bb,er,a1,l1,c1,a2,l2,c2,rfl⟩:=hr.shape;obtain ⟨rfl,rfl⟩:k=2∧t.data.toList=x:=by
  obtain ⟨k9,n9,t9,b9,e9,rs,ks,rv',kv,ao,cap,hv,hp⟩:=hr.prt;have hx:=hp.ex;unfold textE at hx
  simp only [Ex.mk.injEq]at hx
  simp at hv
  obtain ⟨rfl,rfl,rfl,_⟩:=hv;exact ⟨hx.1.symm,hx.2.2.1.symm⟩
 have hts:t.size≤200:=by
  unfold V.mtB at hx'
  simp only [Bool.and_eq_true,decide_eq_true_eq]at hx'
  rw [←len_data];exact hx'.1
 have HG:=hid hg;have HB:=hid hb;have HR:=hid (fun W' (g:Std W')=>replaceAll_any t W' g (by omega))
 have hdl:=dbl_len t.data.toList;rw [len_data]at hdl;generalize dbl t.data.toList=dt at HR hl hdl ⊢;obtain ⟨D,hD⟩:∃ D:ByteArray,(⟨dt.toArray⟩:ByteArray)=D:=⟨_,rfl⟩;have hDl:D.data.toList=dt:=by rw [←hD]
 rw [hD]at HR;have hDs:D.size≤400:=by rw [←len_data,hDl];omega
 obtain ⟨E,hE⟩:∃ E:ByteArray,(⟨#[34]⟩:ByteArray)++D=E:=⟨_,rfl⟩;obtain ⟨F,hF⟩:∃ F:ByteArray,E++(⟨#[34]⟩:ByteArray)=F:=⟨_,rfl⟩;have hEs:E.size=1+D.size:=by rw [←hE,ByteArray.size_append];rfl
 have hFs:F.size=E.size+1:=by rw [←hF,ByteArray.size_append];rfl
 have HF:Hid (F.data.toList=34::(dt++[34])):=by
  show _=_
  rw [←hF,←hE,←hDl];simp
 have hF0:0<F.size:=by omega
 have hFl:bs.length+F.size≤1000000:=by simp only [List.length_cons,List.length_append,List.length_nil]at hl;rw [←hDl,len_data]at hl;omega
 have n1:¬ (9223372036854775807<1+D.size):=by omega
 have n2:¬ (9223372036854775807<E.size+1):=by omega
 rw [←HF.out];clear hr hg hb hl hx' hDl hD hdl HF;go_enter Tryz.func28,Tryz.ntmps28
 go_upto_region 1 with fail
 have Z1:=hid (cb_new W [.int .i64 2,.int .i64 m,.string t,.bool bb,.int .i64 er,.slice a1 l1 c1,.slice a2 l2 c2] 26);have B1:=hid (HB.out.on ((Q.refl W).alloc (.cells #[.int .i64 2,.int .i64 m,.string t,.bool bb,.int .i64 er,.slice a1 l1 c1,.slice a2 l2 c2] 26)));rw [show ([.int .i64 2,.int .i64 m,.string t,.bool bb,.int .i64 er,.slice a1 l1 c1,.slice a2 l2 c2]:List Value).toArray=#[.int .i64 2,.int .i64 m,.string t,.bool bb,.int .i64 er,.slice a1 l1 c1,.slice a2 l2 c2] from rfl]at Z1
 have K1:=hid (Kp.of ((Q.refl W).alloc (.cells #[.int .i64 2,.int .i64 m,.string t,.bool bb,.int .i64 er,.slice a1 l1 c1,.slice a2 l2 c2] 26)));generalize W.alloc (.cells #[.int .i64 2,.int .i64 m,.string t,.bool bb,.int .i64 er,.slice a1 l1 c1,.slice a2 l2 c2] 26)=W1 at Z1 B1 K1 ⊢;generalize W.heap.size=b1 at Z1 ⊢;have d0:=Z1.out.c 0 _ rfl;have d2:=Z1.out.c 2 _ rfl;go_wp2_with (first|(go_at_call 59;refine (HR.out _ (HG.out.on B1.out.2).1).mono ?_;rintro e9 w3 ⟨rfl,q3⟩;have B3:=hid (B1.out.on q3);have K3:=hid (K1.out.trans (Kp.of q3));clear q3)|(go_at_call 58;refine (bd_write B3.out F hF0 hFl).mono ?_;rintro e9 w4 ⟨⟨u,rfl⟩,b4,k4⟩;have B4:=hid b4;have K4:=hid (K3.out.trans k4);clear b4 k4))
 go_end0
 exact ⟨⟨_,rfl⟩,B4.out,K4.out⟩
theorem pr_range(r q:Rf)(hm:mayR r.1 r.2.1 r.2.2.1=true)(hm':mayR q.1 q.2.1 q.2.2.1=true):Wri (rangeE r q) (prf r++58::prf q):=by
 intro W0 W b bs v hg hb hr hl
 obtain ⟨k,m,t,bb,er,rs,ks,rv',kv,ao,cap,rfl,hp⟩:=hr.prt;have hx:=hp.ex;unfold rangeE at hx
 simp only [Ex.mk.injEq]at hx
 obtain ⟨rfl,rfl,ht,rfl,rfl,rfl,rfl⟩:=hx;have hkl:=hp.kl;subst hkl;obtain ⟨rb,ro,rc,hrv,_,hrc,hra⟩:=hp.rl.at (i:=0) (by simp)
 obtain ⟨rb',ro',rc',hrv',_,hrc',hrb⟩:=hp.rl.at (i:=1) (by simp)
 subst hrv;simp only [Value.slice.injEq,Option.some.injEq,Addr.mk.injEq,and_true]at hrv'
 obtain ⟨⟨rfl,rfl⟩,-,rfl⟩:=hrv';have ls:=sheet_len hm;have lq:=sheet_len hm';have lp:=prf_len hm;have lp':=prf_len hm';obtain ⟨sh,row,col,ra,ca⟩:=r;obtain ⟨sh',row',col',ra',ca'⟩:=q;simp only at ls lq
 simp only [prf]at lp lp' hl ⊢
 have r0:W0.cell? ⟨rb,ro,none⟩=some (.string ⟨sh.toArray⟩):=by have:=hra 0 _ rfl;simpa using this
 have r1:W0.cell? ⟨rb,ro+1,none⟩=some (.int .i64 row):=by have:=hra 1 _ rfl;simpa using this
 have r2:W0.cell? ⟨rb,ro+2,none⟩=some (.int .i64 col):=by have:=hra 2 _ rfl;simpa using this
 have r3:W0.cell? ⟨rb,ro+3,none⟩=some (.bool ra):=by have:=hra 3 _ rfl;simpa using this
 have r4:W0.cell? ⟨rb,ro+4,none⟩=some (.bool ca):=by have:=hra 4 _ rfl;simpa using this
 have t0:W0.cell? ⟨rb,ro+5,none⟩=some (.string ⟨sh'.toArray⟩):=by have:=hrb 0 _ rfl;simpa using this
 have t1:W0.cell? ⟨rb,ro+5+1,none⟩=some (.int .i64 row'):=by have:=hrb 1 _ rfl;simpa using this
 have t2:W0.cell? ⟨rb,ro+5+2,none⟩=some (.int .i64 col'):=by have:=hrb 2 _ rfl;simpa using this
 have t3:W0.cell? ⟨rb,ro+5+3,none⟩=some (.bool ra'):=by have:=hrb 3 _ rfl;simpa using this
 have t4:W0.cell? ⟨rb,ro+5+4,none⟩=some (.bool ca'):=by have:=hrb 4 _ rfl;simpa using this
 have HG:=hid hg;have HB:=hid hb;have HP1:=hid (fun W' (g:Gd W')=>print_any ⟨sh.toArray⟩ row col ra ca W' g.1 g.2 (by rw [size_mk];omega))
 have HP2:=hid (fun W' (g:Gd W')=>print_any ⟨sh'.toArray⟩ row' col' ra' ca' W' g.1 g.2 (by rw [size_mk];omega))
 rw [show (⟨sh.toArray⟩:ByteArray).data.toList=sh from rfl]at HP1
 rw [show (⟨sh'.toArray⟩:ByteArray).data.toList=sh' from rfl]at HP2
 obtain ⟨P,hP⟩:∃ T:ByteArray,(⟨(prR sh row col ra ca).toArray⟩:ByteArray)=T:=⟨_,rfl⟩;obtain ⟨R,hR⟩:∃ T:ByteArray,(⟨(prR sh' row' col' ra' ca').toArray⟩:ByteArray)=T:=⟨_,rfl⟩;have hPl:P.data.toList=prR sh row col ra ca:=by rw [←hP]
 have hRl:R.data.toList=prR sh' row' col' ra' ca':=by rw [←hR]
 rw [hP]at HP1;rw [hR]at HP2;rw [←hPl]at lp hl ⊢;rw [←hRl]at lp' hl ⊢;rw [len_data]at lp lp';obtain ⟨E,hE⟩:∃ E:ByteArray,P++(⟨#[58]⟩:ByteArray)=E:=⟨_,rfl⟩;obtain ⟨F,hF⟩:∃ F:ByteArray,E++R=F:=⟨_,rfl⟩;have hEs:E.size=P.size+1:=by rw [←hE,ByteArray.size_append];rfl
 have hFs:F.size=E.size+R.size:=by rw [←hF,ByteArray.size_append]
 have HF:Hid (F.data.toList=P.data.toList++58::R.data.toList):=by
  show _=_
  rw [←hF,←hE];simp
 have hF0:0<F.size:=by omega
 have hFl:bs.length+F.size≤1000000:=by simp only [List.length_cons,List.length_append,len_data]at hl;omega
 have n1:¬ (9223372036854775807<P.size+1):=by omega
 have n2:¬ (9223372036854775807<E.size+R.size):=by omega
 rw [←HF.out];generalize (⟨sh.toArray⟩:ByteArray)=S at HP1 r0;generalize (⟨sh'.toArray⟩:ByteArray)=S' at HP2 t0;unfold rv at HP1 HP2
 have R0:=hid r0;have R1:=hid r1;have R2:=hid r2;have R3:=hid r3;have R4:=hid r4;have T0:=hid t0;have T1:=hid t1;have T2:=hid t2;have T3:=hid t3;have T4:=hid t4;clear ht hEs hFs hr hg hb hl hp hra hrb HF hPl hRl hP hR lp lp' ls lq hm hm' r0 r1 r2 r3 r4 t0 t1 t2 t3 t4;go_enter Tryz.func28,Tryz.ntmps28
 go_upto_region 1 with fail
 have H1:=hid (heap_alloc_new W (.cells #[.int .i64 6,.int .i64 0,.string t,.bool false,.int .i64 0,.slice (some ⟨rb,ro,none⟩) 2 rc,.slice ao 0 cap] 26));have B1:=hid (HB.out.on ((Q.refl W).alloc (.cells #[.int .i64 6,.int .i64 0,.string t,.bool false,.int .i64 0,.slice (some ⟨rb,ro,none⟩) 2 rc,.slice ao 0 cap] 26)));have K1:=hid (Kp.of ((Q.refl W).alloc (.cells #[.int .i64 6,.int .i64 0,.string t,.bool false,.int .i64 0,.slice (some ⟨rb,ro,none⟩) 2 rc,.slice ao 0 cap] 26)));generalize W.alloc (.cells #[.int .i64 6,.int .i64 0,.string t,.bool false,.int .i64 0,.slice (some ⟨rb,ro,none⟩) 2 rc,.slice ao 0 cap] 26)=W1 at H1 B1 K1 ⊢;generalize W.heap.size=b1 at H1 ⊢;have s1:=hid (Svt.start (W0:=W0) (W1:=W1) B1.out.2 (Q.refl W1));have s10:=hid (Svt.start (W0:=W0) (W1:=W1) B1.out.2 (Q.refl W1).drew);have e0:∀ V,Svt W0 W1 V→V.cell? ⟨b1,0,none⟩=some (.int .i64 6):=fun V h=>h.own (cs:=[.int .i64 6,.int .i64 0,.string t,.bool false,.int .i64 0,.slice (some ⟨rb,ro,none⟩) 2 rc,.slice ao 0 cap]) H1.out rfl
 have e5:∀ V,Svt W0 W1 V→V.cell? ⟨b1,5,none⟩=some (.slice (some ⟨rb,ro,none⟩) 2 rc):=fun V h=>h.own (cs:=[.int .i64 6,.int .i64 0,.string t,.bool false,.int .i64 0,.slice (some ⟨rb,ro,none⟩) 2 rc,.slice ao 0 cap]) H1.out rfl
 have f0:∀ V,Svt W0 W1 V→V.cell? ⟨rb,ro,none⟩=some (.string S):=fun V h=>h.old R0.out
 have f1:∀ V,Svt W0 W1 V→V.cell? ⟨rb,ro+1,none⟩=some (.int .i64 row):=fun V h=>h.old R1.out
 have f2:∀ V,Svt W0 W1 V→V.cell? ⟨rb,ro+2,none⟩=some (.int .i64 col):=fun V h=>h.old R2.out
 have f3:∀ V,Svt W0 W1 V→V.cell? ⟨rb,ro+3,none⟩=some (.bool ra):=fun V h=>h.old R3.out
 have f4:∀ V,Svt W0 W1 V→V.cell? ⟨rb,ro+4,none⟩=some (.bool ca):=fun V h=>h.old R4.out
 have g0:∀ V,Svt W0 W1 V→V.cell? ⟨rb,ro+5,none⟩=some (.string S'):=fun V h=>h.old T0.out
 have g1:∀ V,Svt W0 W1 V→V.cell? ⟨rb,ro+5+1,none⟩=some (.int .i64 row'):=fun V h=>h.old T1.out
 have g2:∀ V,Svt W0 W1 V→V.cell? ⟨rb,ro+5+2,none⟩=some (.int .i64 col'):=fun V h=>h.old T2.out
 have g3:∀ V,Svt W0 W1 V→V.cell? ⟨rb,ro+5+3,none⟩=some (.bool ra'):=fun V h=>h.old T3.out
 have g4:∀ V,Svt W0 W1 V→V.cell? ⟨rb,ro+5+4,none⟩=some (.bool ca'):=fun V h=>h.old T4.out
 have d0:=e0 W1 s1.out;go_upto_region 8 with fail
 clear d0;go_region_held3 (Svt W0 W1) (with_reducible (first|exact s10.out|exact s11.out|exact s12.out|exact s13.out)) (first|(go_at_call 58;refine (bd_write B12.out F hF0 hFl).mono ?_;rintro e9 w13 ⟨⟨u,rfl⟩,b13,k13⟩;have B13:=hid b13;have s13:Hid (Svt W0 W1 w13):=hid ⟨s12.out.1.trans k13,b13.2⟩;clear b13 k13)|(go_at_call_of 60 S';refine (HP2.out w11 (HG.out.on B11.out.2)).mono ?_;rintro e9 w12 ⟨rfl,q⟩;have B12:=hid (B11.out.on q);have s12:=hid (s11.out.q q);clear q)|(go_at_call_of 60 S;refine (HP1.out W1.drew (HG.out.on s10.out.2)).mono ?_;rintro e9 w11 ⟨rfl,q⟩;have B11:=hid (B1.out.on ((Q.refl W1).drew.trans q));have s11:=hid (s10.out.q q);clear q))
 go_wp2_with fail
 go_end0
 exact ⟨⟨_,rfl⟩,B13.out,K1.out.trans s13.out.1⟩
theorem text_numG(n:Int)(T:ByteArray)(w:World)(hg:Gd w)(HP:Hid (∀ W,Gd W→Calls Tryz.prog 120 #[.int .i64 n] W fun e w'=>e=.returned (.string T)∧Q W w')):Calls Tryz.prog 90 #[vx 1 n ⟨#[]⟩ false 0] w fun e w'=>e=.returned (.tuple #[.string T,.int .i64 0])∧Q w w':=by
 have HF:=hid (fun W' (q:Q w W')=>fault_any 1 n ⟨#[]⟩ false 0 W' (hg.1.on q) (by decide))
 have hm:V.mayB 1 n (⟨#[]⟩:ByteArray).toList false 0=true:=by rw [Lib.toList_data];simp [V.mayB]
 rw [hm,if_pos rfl]at HF;have HG:=hid hg;clear hg hm;unfold vx at HF ⊢
 go_enter Tryz.func90,Tryz.ntmps90
 go_wp2_with (first|(go_at_call 115;refine (HF.out _ ((Q.refl _).alloc _)).mono ?_;rintro e9 w1 ⟨rfl,q1⟩;have Q1:Hid (Q w w1):=hid (((Q.refl _).alloc _).trans q1);have c0:w1.cell? ⟨w.heap.size,0,none⟩=some (.int .i64 1):=(by rw [q1.cell (by simp)];simp [World.cell?_alloc_new]);have c1:w1.cell? ⟨w.heap.size,1,none⟩=some (.int .i64 n):=(by rw [q1.cell (by simp)];simp [World.cell?_alloc_new]);clear q1)|(go_at_call 120;refine (HP.out _ (HG.out.on Q1.out)).mono ?_;rintro e9 w2 ⟨rfl,q2⟩;have Q2:Hid (Q w w2):=hid (Q1.out.trans q2);clear q2))
 go_ret2
 exact ⟨rfl,Q2.out⟩
theorem truthText_any(b:Bool)(w:World):Calls Tryz.prog 121 #[.bool b] w fun e w'=>e=.returned (.string ⟨(if b then truW else flsW).toArray⟩)∧w'=w:=by
 cases b
 ·go_enter Tryz.func121,Tryz.ntmps121
  go_wp2
  go_ret
  exact ⟨rfl,rfl⟩
 ·go_enter Tryz.func121,Tryz.ntmps121
  go_wp2
  go_ret
  exact ⟨rfl,rfl⟩
theorem text_bool(b:Bool)(w:World)(hg:Gd w):Calls Tryz.prog 90 #[vx 3 0 ⟨#[]⟩ b 0] w fun e w'=>e=.returned (.tuple #[.string ⟨(if b then truW else flsW).toArray⟩,.int .i64 0])∧Q w w':=by
 have HF:=hid (fun W' (q:Q w W')=>fault_any 3 0 ⟨#[]⟩ b 0 W' (hg.1.on q) (by decide))
 have HT:=hid (fun W'=>truthText_any b W')
 have hm:V.mayB 3 0 (⟨#[]⟩:ByteArray).toList b 0=true:=by rw [Lib.toList_data];simp [V.mayB]
 rw [hm,if_pos rfl]at HF;clear hg hm;unfold vx at HF ⊢
 generalize (⟨(if b then truW else flsW).toArray⟩:ByteArray)=T at HT ⊢
 go_enter Tryz.func90,Tryz.ntmps90
 go_wp2_with (first|(go_at_call 115;refine (HF.out _ ((Q.refl _).alloc _)).mono ?_;rintro e9 w1 ⟨rfl,q1⟩;have Q1:Hid (Q w w1):=hid (((Q.refl _).alloc _).trans q1);have c0:w1.cell? ⟨w.heap.size,0,none⟩=some (.int .i64 3):=(by rw [q1.cell (by simp)];simp [World.cell?_alloc_new]);have c3:w1.cell? ⟨w.heap.size,3,none⟩=some (.bool b):=(by rw [q1.cell (by simp)];simp [World.cell?_alloc_new]);clear q1)|(go_at_call 121;refine (HT.out _).mono ?_;rintro e9 w2 ⟨rfl,h9⟩;replace h9:=h9.symm;subst h9))
 go_ret2
 exact ⟨rfl,Q1.out⟩
theorem plain_numG(n:Int)(T:ByteArray)(w:World)(hg:Gd w)(HP:Hid (∀ W,Gd W→Calls Tryz.prog 120 #[.int .i64 n] W fun e w'=>e=.returned (.string T)∧Q W w')):Calls Tryz.prog 54 #[vx 1 n ⟨#[]⟩ false 0] w fun e w'=>e=.returned (.string T)∧Q w w':=by
 have HT:=hid (fun W' (q:Q w W')=>text_numG n T W' (hg.on q) HP)
 clear hg;unfold vx at HT ⊢
 go_enter Tryz.func54,Tryz.ntmps54
 go_wp2_with (go_at_call 90;refine (HT.out _ ((Q.refl _).alloc _)).mono ?_;rintro e9 w1 ⟨rfl,q1⟩;have Q1:Hid (Q w w1):=hid (((Q.refl _).alloc _).trans q1);clear q1)
 go_ret
 exact ⟨rfl,Q1.out⟩
theorem plain_bool(b:Bool)(w:World)(hg:Gd w):Calls Tryz.prog 54 #[vx 3 0 ⟨#[]⟩ b 0] w fun e w'=>e=.returned (.string ⟨(if b then truW else flsW).toArray⟩)∧Q w w':=by
 have HT:=hid (fun W' (q:Q w W')=>text_bool b W' (hg.on q))
 clear hg;unfold vx at HT ⊢
 generalize (⟨(if b then truW else flsW).toArray⟩:ByteArray)=T at HT ⊢
 go_enter Tryz.func54,Tryz.ntmps54
 go_wp2_with (go_at_call 90;refine (HT.out _ ((Q.refl _).alloc _)).mono ?_;rintro e9 w1 ⟨rfl,q1⟩;have Q1:Hid (Q w w1):=hid (((Q.refl _).alloc _).trans q1);clear q1)
 go_ret
 exact ⟨rfl,Q1.out⟩
theorem plain_err(er:Int)(w:World)(hg:Gd w):Calls Tryz.prog 54 #[vx 4 0 ⟨#[]⟩ false er] w fun e w'=>e=.returned (.string ⟨(enL er).toArray⟩)∧Q w w':=by
 have HT:=hid (fun W' (q:Q w W')=>V.name_any er W' (hg.1.on q).nam)
 clear hg;unfold vx
 generalize (⟨(enL er).toArray⟩:ByteArray)=T at HT ⊢;go_enter Tryz.func54,Tryz.ntmps54
 go_wp2_with (go_at_call 82;refine (HT.out _ ((Q.refl _).alloc _)).mono ?_;rintro e9 w1 ⟨rfl,h9⟩;replace h9:=h9.symm;subst h9)
 go_ret
 exact ⟨rfl,(Q.refl _).alloc _⟩
theorem const_bool(n:Int)(t:ByteArray)(b:Bool)(er:Int)(a1 a2:Option Addr)(l1 c1 l2 c2:Nat)(w:World):Calls Tryz.prog 64 #[.agg #[.int .i64 3,.int .i64 n,.string t,.bool b,.int .i64 er,.slice a1 l1 c1,.slice a2 l2 c2]] w fun e w'=>e=.returned (vx 3 0 ⟨#[]⟩ b 0)∧Q w w':=by
 unfold vx
 go_enter Tryz.func64,Tryz.ntmps64
 go_wp2
 refine bodyPost_ret (v:=.agg #[.int .i64 3,.int .i64 0,.string ⟨#[]⟩,.bool b,.int .i64 0]) (by simp [results,Tryz.results64,go_sem]) rfl ?_
 exact ⟨rfl,by repeat (first|with_reducible exact Q.refl _|with_reducible refine Q.alloc ?_ _|with_reducible refine Q.setCell ?_ (by simp) _)⟩
theorem const_err(n:Int)(t:ByteArray)(b:Bool)(er:Int)(a1 a2:Option Addr)(l1 c1 l2 c2:Nat)(w:World):Calls Tryz.prog 64 #[.agg #[.int .i64 4,.int .i64 n,.string t,.bool b,.int .i64 er,.slice a1 l1 c1,.slice a2 l2 c2]] w fun e w'=>e=.returned (vx 4 0 ⟨#[]⟩ false er)∧Q w w':=by
 unfold vx
 go_enter Tryz.func64,Tryz.ntmps64
 go_wp2
 refine bodyPost_ret (v:=.agg #[.int .i64 4,.int .i64 0,.string ⟨#[]⟩,.bool false,.int .i64 er]) (by simp [results,Tryz.results64,go_sem]) rfl ?_
 exact ⟨rfl,by repeat (first|with_reducible exact Q.refl _|with_reducible refine Q.alloc ?_ _|with_reducible refine Q.setCell ?_ (by simp) _)⟩
theorem leaf_num(T:ByteArray)(hT:0<T.size)(m:Int)(t:ByteArray)(bb:Bool)(er:Int)(a1 a2:Option Addr)(l1 c1 l2 c2:Nat)(HT:Hid (∀ W,Gd W→Calls Tryz.prog 54 #[vx 1 m ⟨#[]⟩ false 0] W fun e w'=>e=.returned (.string T)∧Q W w'))(W0 W:World)(b:Nat)(bs:List UInt8)(hg:Gd W0)(hb:Bd W0 W b bs)(hl:bs.length+T.size≤1000000):Calls Tryz.prog 28 #[.pointer (some ⟨b,0,none⟩),.agg #[.int .i64 1,.int .i64 m,.string t,.bool bb,.int .i64 er,.slice a1 l1 c1,.slice a2 l2 c2]] W fun e W'=>(∃ u,e=.returned u)∧Bd W0 W' b (bs++T.data.toList)∧Kp W W':=by
 have HG:=hid hg;have HB:=hid hb;clear hg hb;go_enter Tryz.func28,Tryz.ntmps28
 go_upto_region 1 with fail
 have Z1:=hid (cb_new W [.int .i64 1,.int .i64 m,.string t,.bool bb,.int .i64 er,.slice a1 l1 c1,.slice a2 l2 c2] 26);have B1:=hid (HB.out.on ((Q.refl W).alloc (.cells #[.int .i64 1,.int .i64 m,.string t,.bool bb,.int .i64 er,.slice a1 l1 c1,.slice a2 l2 c2] 26)));rw [show ([.int .i64 1,.int .i64 m,.string t,.bool bb,.int .i64 er,.slice a1 l1 c1,.slice a2 l2 c2]:List Value).toArray=#[.int .i64 1,.int .i64 m,.string t,.bool bb,.int .i64 er,.slice a1 l1 c1,.slice a2 l2 c2] from rfl]at Z1
 have K1:=hid (Kp.of ((Q.refl W).alloc (.cells #[.int .i64 1,.int .i64 m,.string t,.bool bb,.int .i64 er,.slice a1 l1 c1,.slice a2 l2 c2] 26)));generalize W.alloc (.cells #[.int .i64 1,.int .i64 m,.string t,.bool bb,.int .i64 er,.slice a1 l1 c1,.slice a2 l2 c2] 26)=W1 at Z1 B1 K1 ⊢;generalize W.heap.size=b1 at Z1 ⊢;have d0:=Z1.out.c 0 _ rfl;have d1:=Z1.out.c 1 _ rfl;have d2:=Z1.out.c 2 _ rfl;have d3:=Z1.out.c 3 _ rfl;have d4:=Z1.out.c 4 _ rfl;have d5:=Z1.out.c 5 _ rfl;have d6:=Z1.out.c 6 _ rfl;have HC:=hid (fun W'=>const_num m t bb er a1 a2 l1 c1 l2 c2 W')
 unfold vx at HC HT
 go_wp2_with (first|(go_at_call 64;refine (HC.out _).mono ?_;rintro e9 w2 ⟨rfl,q2⟩;have B2:=hid (B1.out.on q2);have K2:=hid (K1.out.trans (Kp.of q2));clear q2)|(go_at_call 54;refine (HT.out _ (HG.out.on B2.out.2)).mono ?_;rintro e9 w3 ⟨rfl,q3⟩;have B3:=hid (B2.out.on q3);have K3:=hid (K2.out.trans (Kp.of q3));clear q3)|(go_at_call 58;refine (bd_write B3.out T hT hl).mono ?_;rintro e9 w4 ⟨⟨u,rfl⟩,b4,k4⟩;have B4:=hid b4;have K4:=hid (K3.out.trans k4);clear b4 k4))
 go_end0
 exact ⟨⟨_,rfl⟩,B4.out,K4.out⟩
theorem leaf_bool(T:ByteArray)(hT:0<T.size)(m:Int)(t:ByteArray)(bb:Bool)(er:Int)(a1 a2:Option Addr)(l1 c1 l2 c2:Nat)(HT:Hid (∀ W,Gd W→Calls Tryz.prog 54 #[vx 3 0 ⟨#[]⟩ bb 0] W fun e w'=>e=.returned (.string T)∧Q W w'))(W0 W:World)(b:Nat)(bs:List UInt8)(hg:Gd W0)(hb:Bd W0 W b bs)(hl:bs.length+T.size≤1000000):Calls Tryz.prog 28 #[.pointer (some ⟨b,0,none⟩),.agg #[.int .i64 3,.int .i64 m,.string t,.bool bb,.int .i64 er,.slice a1 l1 c1,.slice a2 l2 c2]] W fun e W'=>(∃ u,e=.returned u)∧Bd W0 W' b (bs++T.data.toList)∧Kp W W':=by
 have HG:=hid hg;have HB:=hid hb;clear hg hb;go_enter Tryz.func28,Tryz.ntmps28
 go_upto_region 1 with fail
 have Z1:=hid (cb_new W [.int .i64 3,.int .i64 m,.string t,.bool bb,.int .i64 er,.slice a1 l1 c1,.slice a2 l2 c2] 26);have B1:=hid (HB.out.on ((Q.refl W).alloc (.cells #[.int .i64 3,.int .i64 m,.string t,.bool bb,.int .i64 er,.slice a1 l1 c1,.slice a2 l2 c2] 26)));rw [show ([.int .i64 3,.int .i64 m,.string t,.bool bb,.int .i64 er,.slice a1 l1 c1,.slice a2 l2 c2]:List Value).toArray=#[.int .i64 3,.int .i64 m,.string t,.bool bb,.int .i64 er,.slice a1 l1 c1,.slice a2 l2 c2] from rfl]at Z1
 have K1:=hid (Kp.of ((Q.refl W).alloc (.cells #[.int .i64 3,.int .i64 m,.string t,.bool bb,.int .i64 er,.slice a1 l1 c1,.slice a2 l2 c2] 26)));generalize W.alloc (.cells #[.int .i64 3,.int .i64 m,.string t,.bool bb,.int .i64 er,.slice a1 l1 c1,.slice a2 l2 c2] 26)=W1 at Z1 B1 K1 ⊢;generalize W.heap.size=b1 at Z1 ⊢;have d0:=Z1.out.c 0 _ rfl;have d1:=Z1.out.c 1 _ rfl;have d2:=Z1.out.c 2 _ rfl;have d3:=Z1.out.c 3 _ rfl;have d4:=Z1.out.c 4 _ rfl;have d5:=Z1.out.c 5 _ rfl;have d6:=Z1.out.c 6 _ rfl;have HC:=hid (fun W'=>const_bool m t bb er a1 a2 l1 c1 l2 c2 W')
 unfold vx at HC HT
 go_wp2_with (first|(go_at_call 64;refine (HC.out _).mono ?_;rintro e9 w2 ⟨rfl,q2⟩;have B2:=hid (B1.out.on q2);have K2:=hid (K1.out.trans (Kp.of q2));clear q2)|(go_at_call 54;refine (HT.out _ (HG.out.on B2.out.2)).mono ?_;rintro e9 w3 ⟨rfl,q3⟩;have B3:=hid (B2.out.on q3);have K3:=hid (K2.out.trans (Kp.of q3));clear q3)|(go_at_call 58;refine (bd_write B3.out T hT hl).mono ?_;rintro e9 w4 ⟨⟨u,rfl⟩,b4,k4⟩;have B4:=hid b4;have K4:=hid (K3.out.trans k4);clear b4 k4))
 go_end0
 exact ⟨⟨_,rfl⟩,B4.out,K4.out⟩
theorem leaf_err(T:ByteArray)(hT:0<T.size)(m:Int)(t:ByteArray)(bb:Bool)(er:Int)(a1 a2:Option Addr)(l1 c1 l2 c2:Nat)(HT:Hid (∀ W,Gd W→Calls Tryz.prog 54 #[vx 4 0 ⟨#[]⟩ false er] W fun e w'=>e=.returned (.string T)∧Q W w'))(W0 W:World)(b:Nat)(bs:List UInt8)(hg:Gd W0)(hb:Bd W0 W b bs)(hl:bs.length+T.size≤1000000):Calls Tryz.prog 28 #[.pointer (some ⟨b,0,none⟩),.agg #[.int .i64 4,.int .i64 m,.string t,.bool bb,.int .i64 er,.slice a1 l1 c1,.slice a2 l2 c2]] W fun e W'=>(∃ u,e=.returned u)∧Bd W0 W' b (bs++T.data.toList)∧Kp W W':=by
 have HG:=hid hg;have HB:=hid hb;clear hg hb;go_enter Tryz.func28,Tryz.ntmps28
 go_upto_region 1 with fail
 have Z1:=hid (cb_new W [.int .i64 4,.int .i64 m,.string t,.bool bb,.int .i64 er,.slice a1 l1 c1,.slice a2 l2 c2] 26);have B1:=hid (HB.out.on ((Q.refl W).alloc (.cells #[.int .i64 4,.int .i64 m,.string t,.bool bb,.int .i64 er,.slice a1 l1 c1,.slice a2 l2 c2] 26)));rw [show ([.int .i64 4,.int .i64 m,.string t,.bool bb,.int .i64 er,.slice a1 l1 c1,.slice a2 l2 c2]:List Value).toArray=#[.int .i64 4,.int .i64 m,.string t,.bool bb,.int .i64 er,.slice a1 l1 c1,.slice a2 l2 c2] from rfl]at Z1
 have K1:=hid (Kp.of ((Q.refl W).alloc (.cells #[.int .i64 4,.int .i64 m,.string t,.bool bb,.int .i64 er,.slice a1 l1 c1,.slice a2 l2 c2] 26)));generalize W.alloc (.cells #[.int .i64 4,.int .i64 m,.string t,.bool bb,.int .i64 er,.slice a1 l1 c1,.slice a2 l2 c2] 26)=W1 at Z1 B1 K1 ⊢;generalize W.heap.size=b1 at Z1 ⊢;have d0:=Z1.out.c 0 _ rfl;have d1:=Z1.out.c 1 _ rfl;have d2:=Z1.out.c 2 _ rfl;have d3:=Z1.out.c 3 _ rfl;have d4:=Z1.out.c 4 _ rfl;have d5:=Z1.out.c 5 _ rfl;have d6:=Z1.out.c 6 _ rfl;have HC:=hid (fun W'=>const_err m t bb er a1 a2 l1 c1 l2 c2 W')
 unfold vx at HC HT
 go_wp2_with (first|(go_at_call 64;refine (HC.out _).mono ?_;rintro e9 w2 ⟨rfl,q2⟩;have B2:=hid (B1.out.on q2);have K2:=hid (K1.out.trans (Kp.of q2));clear q2)|(go_at_call 54;refine (HT.out _ (HG.out.on B2.out.2)).mono ?_;rintro e9 w3 ⟨rfl,q3⟩;have B3:=hid (B2.out.on q3);have K3:=hid (K2.out.trans (Kp.of q3));clear q3)|(go_at_call 58;refine (bd_write B3.out T hT hl).mono ?_;rintro e9 w4 ⟨⟨u,rfl⟩,b4,k4⟩;have B4:=hid b4;have K4:=hid (K3.out.trans k4);clear b4 k4))
 go_end0
 exact ⟨⟨_,rfl⟩,B4.out,K4.out⟩
theorem sz_mk(l:List UInt8)(h:l≠[]):0<(⟨l.toArray⟩:ByteArray).size:=by
 rw [size_mk];cases l with
 |nil=>exact absurd rfl h
 |cons c l=>simp
theorem pr_numG(n:Int)(h0:0≤n)(h1:n≤9223372036854775807):Wri (numE n) (V.printL n):=by
 intro W0 W b bs v hg hb hr hl
 obtain ⟨k,m,t,bb,er,a1,l1,c1,a2,l2,c2,rfl⟩:=hr.shape;obtain ⟨rfl,rfl⟩:k=1∧m=n:=by
  obtain ⟨k9,n9,t9,b9,e9,rs,ks,rv',kv,ao,cap,hv,hp⟩:=hr.prt;have hx:=hp.ex;unfold numE at hx
  simp only [Ex.mk.injEq]at hx
  simp at hv
  obtain ⟨rfl,rfl,_⟩:=hv;exact ⟨hx.1.symm,hx.2.1.symm⟩
 exact leaf_num ⟨(V.printL m).toArray⟩ (sz_mk _ (print_ne m)) m t bb er a1 a2 l1 c1 l2 c2 (hid (fun W' g=>plain_numG m _ W' g (hid (fun W2 g2=>fprint_any m W2 g2 (decide_eq_true ⟨by omega,h1⟩) (by omega))))) W0 W b bs hg hb (by rw [size_mk];omega)
theorem pr_bool(x:Bool):Wri (boolE x) (if x then truW else flsW):=by
 intro W0 W b bs v hg hb hr hl
 obtain ⟨k,m,t,bb,er,a1,l1,c1,a2,l2,c2,rfl⟩:=hr.shape;obtain ⟨rfl,rfl⟩:k=3∧bb=x:=by
  obtain ⟨k9,n9,t9,b9,e9,rs,ks,rv',kv,ao,cap,hv,hp⟩:=hr.prt;have hx:=hp.ex;unfold boolE at hx
  simp only [Ex.mk.injEq]at hx
  simp at hv
  obtain ⟨rfl,rfl,rfl,rfl,_⟩:=hv;exact ⟨hx.1.symm,hx.2.2.2.1.symm⟩
 exact leaf_bool ⟨(if bb then truW else flsW).toArray⟩ (sz_mk _ (by cases bb <;> decide)) m t bb er a1 a2 l1 c1 l2 c2 (hid (fun W' g=>plain_bool bb W' g)) W0 W b bs hg hb (by rw [size_mk];omega)
theorem pr_err(x:Nat)(h:enL x≠[]):Wri (errE x) (enL x):=by
 intro W0 W b bs v hg hb hr hl
 obtain ⟨k,m,t,bb,er,a1,l1,c1,a2,l2,c2,rfl⟩:=hr.shape;obtain ⟨rfl,rfl⟩:k=4∧er=(x:Int):=by
  obtain ⟨k9,n9,t9,b9,e9,rs,ks,rv',kv,ao,cap,hv,hp⟩:=hr.prt;have hx:=hp.ex;unfold errE at hx
  simp only [Ex.mk.injEq]at hx
  simp at hv
  obtain ⟨rfl,rfl,rfl,rfl,rfl,_⟩:=hv;exact ⟨hx.1.symm,hx.2.2.2.2.1.symm⟩
 exact leaf_err ⟨(enL x).toArray⟩ (sz_mk _ h) m t bb x a1 a2 l1 c1 l2 c2 (hid (fun W' g=>plain_err x W' g)) W0 W b bs hg hb (by rw [size_mk];omega)
theorem joinT_snoc(l:List (List UInt8))(u:List UInt8):joinT (l++[u])=if l=[] then u else joinT l++44::u:=by
 match l with
 |[]=>rfl
 |[a]=>rfl
 |a::b::l=>
  rw [if_neg (by simp)]
  have ih:=joinT_snoc (b::l) u;rw [if_neg (by simp)]at ih
  simp only [List.cons_append]at ih ⊢
  rw [joinT,ih,joinT];simp
theorem joinT_take(ks:List Ex)(i:Nat)(h:i<ks.length):joinT ((ks.take (i+1)).map fmE)=if i=0 then fmE ks[i] else joinT ((ks.take i).map fmE)++44::fmE ks[i]:=by
 rw [List.take_succ_eq_append_getElem h,List.map_append,List.map_cons,List.map_nil,joinT_snoc];by_cases h0:i=0
 ·subst h0;rfl
 ·rw [if_neg h0,if_neg]
  intro e
  have:=congrArg List.length e
  rw [List.length_map,List.length_take,List.length_nil]at this;omega
theorem joinT_mono(ks:List Ex)(i:Nat):(joinT ((ks.take i).map fmE)).length≤(joinT (ks.map fmE)).length:=by
 rcases Nat.lt_or_ge i ks.length with h|h
 ·induction hd:ks.length-i generalizing i with
  |zero=>omega
  |succ d ih=>
   have h1:(joinT ((ks.take i).map fmE)).length≤(joinT ((ks.take (i+1)).map fmE)).length:=by
    rw [joinT_take ks i h];by_cases h0:i=0
    ·subst h0;simp [joinT]
    ·rw [if_neg h0,List.length_append];omega
   rcases Nat.lt_or_ge (i+1) ks.length with h2|h2
   ·have:=ih (i+1) h2 (by omega)
    omega
   ·rw [List.take_of_length_le h2]at h1
    exact h1
 ·rw [List.take_of_length_le h]
  exact Nat.le_refl _
theorem call_any(nm:List UInt8)(ks:List Ex)(hk:∀ y∈ks,Wri y (fmE y))(W0 W:World)(b:Nat)(bs:List UInt8)(v:Value)(hg:Gd W0)(hb:Bd W0 W b bs)(hr:Rd W0 (callE nm ks) v)(hl:bs.length+(nm++40::(joinT (ks.map fmE)++[41])).length≤100000):Calls Tryz.prog 63 #[.pointer (some ⟨b,0,none⟩),v] W fun e W'=>(∃ u,e=.returned u)∧Bd W0 W' b (bs++(nm++40::(joinT (ks.map fmE)++[41])))∧Kp W W':=by
 obtain ⟨k,m,t,bb,er,rs,ks',rv',kv,ao,kc,rfl,hp⟩:=hr.prt;have hx:=hp.ex;unfold callE at hx
 simp only [Ex.mk.injEq]at hx
 obtain ⟨rfl,rfl,rfl,rfl,rfl,rfl,rfl⟩:=hx;have hkl:=hp.kl;subst hkl;obtain ⟨a1,c1,hrv,_,_⟩:=hp.rl.len;subst hrv;have hroom:ks.length≤9223372036854775807:=by have h1:=hp.le;have h2:=hp.mx;unfold maxLen at h2;omega
 have HP:=hid hp;have HG:=hid hg;have HB:=hid hb;have HK:=hid hk;simp only [List.length_append,List.length_cons,List.length_nil]at hl
 rw [len_data]at hl;obtain ⟨E,hE⟩:∃ E:ByteArray,t++(⟨#[40]⟩:ByteArray)=E:=⟨_,rfl⟩;have hEs:E.size=t.size+1:=by rw [←hE,ByteArray.size_append];rfl
 have hEl:E.data.toList=t.data.toList++[40]:=by rw [←hE];simp
 have hE0:0<E.size:=by omega
 have n1:¬ (9223372036854775807<t.size+1):=by omega
 have hEb:bs.length+E.size≤1000000:=by omega
 have hlE:bs.length+E.size+(joinT (ks.map fmE)).length+1≤100000:=by omega
 have HGL:Hid ((bs++E.data.toList)++joinT (ks.map fmE)++[41]=bs++(t.data.toList++40::(joinT (ks.map fmE)++[41]))):=by show _=_;rw [hEl];simp
 rw [←HGL.out];obtain ⟨cur,hcur⟩:∃ cur,bs++E.data.toList=cur:=⟨_,rfl⟩;rw [hcur];have hcl:cur.length+(joinT (ks.map fmE)).length+1≤100000:=by rw [←hcur,List.length_append,len_data];omega
 have HCUR:=hid hcur;clear HGL hEl hEs hl hr hp hg hb hk hcur hlE;go_enter Tryz.func63,Tryz.ntmps63
 go_upto_region 1 with fail
 have H1:=hid (heap_alloc_new W (.cells #[.int .i64 9,.int .i64 0,.string t,.bool false,.int .i64 0,.slice a1 0 c1,.slice ao ks.length kc] 26));have B1:=hid (HB.out.on ((Q.refl W).alloc (.cells #[.int .i64 9,.int .i64 0,.string t,.bool false,.int .i64 0,.slice a1 0 c1,.slice ao ks.length kc] 26)));have K1:=hid (Kp.of ((Q.refl W).alloc (.cells #[.int .i64 9,.int .i64 0,.string t,.bool false,.int .i64 0,.slice a1 0 c1,.slice ao ks.length kc] 26)));generalize W.alloc (.cells #[.int .i64 9,.int .i64 0,.string t,.bool false,.int .i64 0,.slice a1 0 c1,.slice ao ks.length kc] 26)=W1 at H1 B1 K1 ⊢;generalize W.heap.size=b1 at H1 ⊢;have Z1:=hid (cb_heap (cs:=[.int .i64 9,.int .i64 0,.string t,.bool false,.int .i64 0,.slice a1 0 c1,.slice ao ks.length kc]) H1.out);have d2:=Z1.out.c 2 _ rfl;go_upto_region 2 with (go_at_call 58;refine (bd_write B1.out E hE0 hEb).mono ?_;rintro e9 w2 ⟨⟨u,rfl⟩,b2,k2⟩;rw [HCUR.out]at b2;have B2:=hid b2;have K2:=hid (K1.out.trans k2);have Z2:=hid (cb_heap (cs:=[.int .i64 9,.int .i64 0,.string t,.bool false,.int .i64 0,.slice a1 0 c1,.slice ao ks.length kc]) ((k2 _ _ _ H1.out).trans H1.out));clear b2 k2)
 clear d2 Z1;have d6:=Z2.out.c 6 _ rfl;go_wp2_with fail
 clear d6 Z2 hEb;go_loopw [4,5,14] (fun _ _ z W'=>∃ (i:Nat),i≤ks.length∧z=.int .i64 (i:Int)∧Hid (Bd W0 W' b (cur++joinT ((ks.take i).map fmE)))∧Hid (Kp W W')) (fun _ _ z _=>ks.length-(intOf z).toNat)
 case atStart=>exact ⟨0,Nat.zero_le _,rfl,hid (by simp only [List.take_zero,List.map_nil,joinT,List.append_nil];exact B2.out),K2⟩
 case round=>
  obtain ⟨i,hi,rfl,hB,hK⟩:=hrel;by_cases hlt:i<ks.length
  ·have hne:ks≠[]:=by intro h;rw [h]at hlt;simp at hlt
   obtain ⟨kb,ko,rfl,hkl⟩:=HP.out.kd hne;obtain ⟨e0,e1,e2,e3,e4,e5,e6,hKd⟩:=hkl.kid i hlt;obtain ⟨k',n',t',b1',e',a1',l1',c1',a2',l2',c2',hsh⟩:=hKd.rd.shape;simp only [Value.agg.injEq,Array.mk.injEq,List.cons.injEq,and_true]at hsh
   obtain ⟨rfl,rfl,rfl,rfl,rfl,rfl,rfl⟩:=hsh;have hkb:kb<W0.heap.size:=World.block_lt_of_cell? W0 _ hKd.g0
   have g0:=(hB.out.2.cell hkb).trans hKd.g0;have g1:=(hB.out.2.cell hkb).trans hKd.g1;have g2:=(hB.out.2.cell hkb).trans hKd.g2;have g3:=(hB.out.2.cell hkb).trans hKd.g3;have g4:=(hB.out.2.cell hkb).trans hKd.g4;have g5:=(hB.out.2.cell hkb).trans hKd.g5;have g6:=(hB.out.2.cell hkb).trans hKd.g6;have HR:=hid hKd.rd;have HI:=hid (fun W' bs' (h:Bd W0 W' b bs') (hl':bs'.length+(fmE ks[i]).length≤100000)=>HK.out ks[i] (List.getElem_mem hlt) W0 W' b bs' _ HG.out h HR.out hl')
   have hJ:=joinT_take ks i hlt;have hM:=joinT_mono ks (i+1);have HJ:Hid (joinT ((ks.take (i+1)).map fmE)=if i=0 then fmE ks[i] else joinT ((ks.take i).map fmE)++44::fmE ks[i]):=hid hJ
   rw [hJ]at hM;generalize fmE ks[i]=Tk at HI hM HJ;have hz0:i=0→joinT ((ks.take i).map fmE)=[]:=by rintro rfl;rfl
   have HZ0:=hid hz0;clear hkl hKd hJ hz0;generalize joinT ((ks.take i).map fmE)=P at hB hM HJ HZ0;have HM:=hid hM;clear hM;go_upto_region 5 with fail
   have H2:=hid (heap_alloc_new wr (.cells #[.int .i64 k',.int .i64 n',.string t',.bool b1',.int .i64 e',.slice a1' l1' c1',.slice a2' l2' c2'] 26));have B3:=hid (hB.out.on ((Q.refl wr).alloc (.cells #[.int .i64 k',.int .i64 n',.string t',.bool b1',.int .i64 e',.slice a1' l1' c1',.slice a2' l2' c2'] 26)));have K3:=hid (hK.out.trans (Kp.of ((Q.refl wr).alloc (.cells #[.int .i64 k',.int .i64 n',.string t',.bool b1',.int .i64 e',.slice a1' l1' c1',.slice a2' l2' c2'] 26))));generalize wr.alloc (.cells #[.int .i64 k',.int .i64 n',.string t',.bool b1',.int .i64 e',.slice a1' l1' c1',.slice a2' l2' c2'] 26)=W2 at H2 B3 K3 ⊢;generalize wr.heap.size=b2 at H2 ⊢;clear g0 g1 g2 g3 g4 g5 g6 hB hK;by_cases h0:i=0
   ·have hP:=HZ0.out h0
    subst hP;have HM2:=hid (show Tk.length≤(joinT (ks.map fmE)).length by have:=HM.out;rw [if_pos h0]at this;exact this)
    have HJ2:=hid (show joinT ((ks.take (i+1)).map fmE)=Tk by have:=HJ.out;rw [if_pos h0]at this;exact this)
    have hi0:(i:Int)=0:=by omega
    have Z2:=hid (cb_heap (cs:=[.int .i64 k',.int .i64 n',.string t',.bool b1',.int .i64 e',.slice a1' l1' c1',.slice a2' l2' c2']) H2.out);have d0:=Z2.out.c 0 _ rfl;have d1:=Z2.out.c 1 _ rfl;have d2:=Z2.out.c 2 _ rfl;have d3:=Z2.out.c 3 _ rfl;have d4:=Z2.out.c 4 _ rfl;have d5:=Z2.out.c 5 _ rfl;have d6:=Z2.out.c 6 _ rfl;go_wp2_with (go_at_call 28;refine (HI.out _ _ B3.out (by rw [List.append_nil];have:=HM2.out;omega)).mono ?_;rintro e9 w9 ⟨⟨u9,rfl⟩,b9,k9⟩;have B9:=hid b9;have K9:=hid (K3.out.trans k9);clear b9 k9)
    go_roundw
    case rel=>exact ⟨i+1,by omega,by go_num,hid (by rw [HJ2.out];have:=B9.out;rw [List.append_nil]at this;exact this),K9⟩
    case measure=>simp [intOf];omega
   ·have HM2:=hid (show P.length+1+Tk.length≤(joinT (ks.map fmE)).length by have:=HM.out;rw [if_neg h0,List.length_append,List.length_cons]at this;omega)
    have HJ2:=hid (show joinT ((ks.take (i+1)).map fmE)=P++44::Tk by have:=HJ.out;rw [if_neg h0]at this;exact this)
    have hi0:0<(i:Int):=by omega
    go_wp2_with (first|(go_at_call 28;refine (HI.out _ _ B4.out (by simp only [List.length_append,List.length_cons,List.length_nil];have:=HM2.out;omega)).mono ?_;rintro e9 w9 ⟨⟨u9,rfl⟩,b9,k9⟩;have B9:=hid b9;have K9:=hid (K4.out.trans k9);clear b9 k9)|(go_at_call 58;refine (bd_write B3.out ⟨#[44]⟩ (by decide) (by show _+1≤1000000;simp only [List.length_append];have:=HM2.out;omega)).mono ?_;rintro e9 w4 ⟨⟨u4,rfl⟩,b4,k4⟩;have B4:=hid b4;have K4:=hid (K3.out.trans k4);have Z2:=hid (cb_heap (cs:=[.int .i64 k',.int .i64 n',.string t',.bool b1',.int .i64 e',.slice a1' l1' c1',.slice a2' l2' c2']) ((k4 _ _ _ H2.out).trans H2.out));clear b4 k4;have d0:=Z2.out.c 0 _ rfl;have d1:=Z2.out.c 1 _ rfl;have d2:=Z2.out.c 2 _ rfl;have d3:=Z2.out.c 3 _ rfl;have d4:=Z2.out.c 4 _ rfl;have d5:=Z2.out.c 5 _ rfl;have d6:=Z2.out.c 6 _ rfl))
    go_roundw
    case rel=>exact ⟨i+1,by omega,by go_num,hid (by rw [HJ2.out];have:=B9.out;rw [List.append_assoc,List.append_assoc]at this;exact this),K9⟩
    case measure=>simp [intOf];omega
  ·have hall:ks.take i=ks:=List.take_of_length_le (by omega)
   rw [hall]at hB;go_wp2_with (go_at_call 58;refine (bd_write hB.out ⟨#[41]⟩ (by decide) (by show _+1≤1000000;rw [List.length_append];omega)).mono ?_;rintro e9 w4 ⟨⟨u4,rfl⟩,b4,k4⟩;have B4:=hid b4;have K4:=hid (hK.out.trans k4);clear b4 k4)
   go_end0
   exact ⟨⟨_,rfl⟩,B4.out,K4.out⟩
theorem pr_call(nm:List UInt8)(ks:List Ex)(hk:∀ y∈ks,Wri y (fmE y)):Wri (callE nm ks) (nm++40::(joinT (ks.map fmE)++[41])):=by
 intro W0 W b bs v hg hb hr hl
 have HC:=hid (fun W' (h:Bd W0 W' b bs)=>call_any nm ks hk W0 W' b bs v hg h hr hl)
 obtain ⟨k,m,t,bb,er,a1,l1,c1,a2,l2,c2,rfl⟩:=hr.shape;obtain ⟨rfl⟩:k=9:=by
  obtain ⟨k9,n9,t9,b9,e9,rs,ks9,rv',kv,ao,cap,hv,hp⟩:=hr.prt;have hx:=hp.ex;unfold callE at hx
  simp only [Ex.mk.injEq]at hx
  simp at hv
  obtain ⟨rfl,_⟩:=hv;exact hx.1.symm
 have HB:=hid hb;generalize nm++40::(joinT (ks.map fmE)++[41])=T at HC ⊢;clear hr hg hb hl;go_enter Tryz.func28,Tryz.ntmps28
 go_upto_region 1 with fail
 have H1:=hid (heap_alloc_new W (.cells #[.int .i64 9,.int .i64 m,.string t,.bool bb,.int .i64 er,.slice a1 l1 c1,.slice a2 l2 c2] 26));have B1:=hid (HB.out.on ((Q.refl W).alloc (.cells #[.int .i64 9,.int .i64 m,.string t,.bool bb,.int .i64 er,.slice a1 l1 c1,.slice a2 l2 c2] 26)));have K1:=hid (Kp.of ((Q.refl W).alloc (.cells #[.int .i64 9,.int .i64 m,.string t,.bool bb,.int .i64 er,.slice a1 l1 c1,.slice a2 l2 c2] 26)));generalize W.alloc (.cells #[.int .i64 9,.int .i64 m,.string t,.bool bb,.int .i64 er,.slice a1 l1 c1,.slice a2 l2 c2] 26)=W1 at H1 B1 K1 ⊢;generalize W.heap.size=b1 at H1 ⊢;have Z1:=hid (cb_heap (cs:=[.int .i64 9,.int .i64 m,.string t,.bool bb,.int .i64 er,.slice a1 l1 c1,.slice a2 l2 c2]) H1.out);have d0:=Z1.out.c 0 _ rfl;have d1:=Z1.out.c 1 _ rfl;have d2:=Z1.out.c 2 _ rfl;have d3:=Z1.out.c 3 _ rfl;have d4:=Z1.out.c 4 _ rfl;have d5:=Z1.out.c 5 _ rfl;have d6:=Z1.out.c 6 _ rfl;go_wp2_with (go_at_call 63;refine (HC.out _ B1.out).mono ?_;rintro e9 w4 ⟨⟨u,rfl⟩,b4,k4⟩;have B4:=hid b4;have K4:=hid (K1.out.trans k4);clear b4 k4)
 go_end0
 exact ⟨⟨_,rfl⟩,B4.out,K4.out⟩
theorem pr_all:∀ (m:Nat) (x:Ex),nodes x≤m→mall mayN x=true→Rn x→Wri x (fmE x):=by
 intro m
 induction m with
 |zero=>
  intro x h
  obtain ⟨k,n,t,b,e,rs,ks⟩:=x;rw [nodes]at h;omega
 |succ m ih=>
  intro x hm hx hr
  obtain ⟨hn,hk⟩:mayN x=true∧∀ y∈x.ks,mall mayN y=true:=by
   obtain ⟨k,n,t,b,e,rs,ks⟩:=x;exact mall_kids hx
  have hkr:∀ y∈x.ks,Rn y:=by
   obtain ⟨k,n,t,b,e,rs,ks⟩:=x;rw [Rn]at hr;exact rn_kid hr.2
  have hkm:∀ y∈x.ks,nodes y≤m:=by
   obtain ⟨k,n,t,b,e,rs,ks⟩:=x;rw [nodes]at hm;intro y hy
   have:=nodes_lt (show y∈ks from hy)
   omega
  have IH:∀ y∈x.ks,Wri y (fmE y):=fun y hy=>ih y (hkm y hy) (hk y hy) (hkr y hy)
  rcases may_cases x hn with ⟨n,rfl,h0⟩|⟨t,rfl,h0⟩|⟨b,rfl⟩|⟨e,rfl,h0,h1⟩|⟨r,rfl,h0⟩|⟨r,q,rfl,h0,h1,h2⟩|⟨y,rfl⟩|⟨o,y,z,rfl,h0⟩|⟨t,ks,rfl,h0,h1⟩
  ·have hn':n≤9223372036854775807:=by unfold numE at hr;rw [Rn]at hr;exact hr.1
   rw [fm_num];exact pr_numG n h0 hn'
  ·rw [fm_text]
   exact pr_text t h0
  ·rw [fm_bool]
   exact pr_bool b
  ·rw [fm_err]
   exact pr_err e h0
  ·rw [fm_ref]
   have hs:=sheet_len h0;have hp:=(sc_ref h0).2.2.2;exact pr_ref r (by omega) (by
    cases hq:prf r with
    |nil=>exact absurd hq hp
    |cons c l=>
     have:prR r.1 r.2.1 r.2.2.1 r.2.2.2.1 r.2.2.2.2=c::l:=hq
     rw [this];simp)
  ·rw [fm_range]
   exact pr_range r q h0 h1
  ·rw [fm_neg]
   exact pr_neg y _ (IH y (by simp [negE]))
  ·rw [fm_bin]
   refine pr_bin o y z _ _ ?_ (IH y (by simp [binE])) (IH z (by simp [binE]))
   exact (op_next h0 []).2.2
  ·rw [fm_call]
   exact pr_call t ks (fun y hy=>IH y hy)
theorem veq_same(k n:Int)(t:ByteArray)(b:Bool)(e:Int)(w:World):Calls Tryz.prog 51 #[vx k n t b e,vx k n t b e] w fun x w'=>x=.returned (.bool true)∧Q w w':=by
 unfold vx
 have e0:(k == k)=true:=by simp
 have e1:(n == n)=true:=by simp
 have e2:(t.toList == t.toList)=true:=by simp
 have e3:(b == b)=true:=by simp
 have e4:(e == e)=true:=by simp
 go_enter Tryz.func51,Tryz.ntmps51
 go_wp2_with fail
 go_ret
 exact ⟨rfl,((Q.refl _).alloc _).alloc _⟩
theorem veq_kind(k n:Int)(t:ByteArray)(b:Bool)(e:Int)(k' n':Int)(t':ByteArray)(b':Bool)(e':Int)(w:World)(h:k≠k'):Calls Tryz.prog 51 #[vx k n t b e,vx k' n' t' b' e'] w fun x w'=>x=.returned (.bool false)∧Q w w':=by
 unfold vx
 have e0:(k == k')=false:=by simpa using h
 clear h;go_enter Tryz.func51,Tryz.ntmps51
 go_wp2_with fail
 go_ret
 exact ⟨rfl,((Q.refl _).alloc _).alloc _⟩
theorem toL'(s:ByteArray):s.toList=s.data.toList:=Lib.toList_data s
def eqRf:List Rf→List Rf→Bool
 |[],[]=>true
 |x::l,y::l'=>decide (x=y)&&eqRf l l'
 |[],_::_=>false
 |_::_,[]=>false
theorem eqRf_iff:∀ {l l':List Rf},eqRf l l'=true↔l=l'
 |[],[]=>by simp [eqRf]
 |[],_::_=>by simp [eqRf]
 |_::_,[]=>by simp [eqRf]
 |x::l,y::l'=>by
  simp only [eqRf,Bool.and_eq_true,decide_eq_true_eq,eqRf_iff,List.cons.injEq]
theorem eqRf_len{l l':List Rf}(h:l.length≠l'.length):eqRf l l'=false:=by
 cases e:eqRf l l' with
 |false=>rfl
 |true=>exact absurd (congrArg List.length (eqRf_iff.1 e)) h
theorem eqRf_dec(l l':List Rf):eqRf l l'=decide (l=l'):=by
 cases e:eqRf l l' with
 |false=>exact (decide_eq_false (fun h=>by rw [eqRf_iff.2 h]at e;cases e)).symm
 |true=>exact (decide_eq_true (eqRf_iff.1 e)).symm
theorem neq59(xs:List UInt8)(xr xc:Int)(xa xb:Bool)(ys:List UInt8)(yr yc:Int)(ya yb:Bool)(w:World):Sem.run Tryz.prog (binOp .neq 63 (.agg #[.string ⟨xs.toArray⟩,.int .i64 xr,.int .i64 xc,.bool xa,.bool xb]) (.agg #[.string ⟨ys.toArray⟩,.int .i64 yr,.int .i64 yc,.bool ya,.bool yb])) w=.ok (.bool (!(decide (((xs,xr,xc,xa,xb):Rf)=(ys,yr,yc,ya,yb))))) w:=by
 have u2:=Tryz.underlying2;have u4:=Tryz.underlying4;have u9:=Tryz.underlying9;have hS:Tryz.prog.underlying 63=some (.struct (Tryz.prog.fieldsOf 63)):=by kernel_rfl
 have hp:Tryz.prog.stoodInHeld 63=false:=by kernel_rfl
 have hf:(Tryz.prog.fieldsOf 63).toList.map (fun f=>(f.name == "_",f.type,f.offset))=[(false,9,0),(false,2,1),(false,2,2),(false,4,3),(false,4,4)]:=by kernel_rfl
 have q1:∀ a b c d e:Value,(part 9 #[a,b,c,d,e] 0).run Tryz.prog w=.ok a w:=fun _ _ _ _ _=>by kernel_rfl
 have q2:∀ a b c d e:Value,(part 2 #[a,b,c,d,e] 1).run Tryz.prog w=.ok b w:=fun _ _ _ _ _=>by kernel_rfl
 have q3:∀ a b c d e:Value,(part 2 #[a,b,c,d,e] 2).run Tryz.prog w=.ok c w:=fun _ _ _ _ _=>by kernel_rfl
 have q4:∀ a b c d e:Value,(part 4 #[a,b,c,d,e] 3).run Tryz.prog w=.ok d w:=fun _ _ _ _ _=>by kernel_rfl
 have q5:∀ a b c d e:Value,(part 4 #[a,b,c,d,e] 4).run Tryz.prog w=.ok e w:=fun _ _ _ _ _=>by kernel_rfl
 have e1:(Op.equalIn 9999 9 (.string ⟨xs.toArray⟩) (.string ⟨ys.toArray⟩)).run Tryz.prog w=.ok (xs == ys) w:=by
  have:=run_equalIn_string (P:=Tryz.prog) w 9998 9 ⟨xs.toArray⟩ ⟨ys.toArray⟩ u9
  rw [toL',toL']at this;exact this
 have e2:(Op.equalIn 9999 2 (.int .i64 xr) (.int .i64 yr)).run Tryz.prog w=.ok (xr == yr) w:=run_equalIn_int (P:=Tryz.prog) w 9998 2 .i64 .i64 xr yr u2
 have e3:(Op.equalIn 9999 2 (.int .i64 xc) (.int .i64 yc)).run Tryz.prog w=.ok (xc == yc) w:=run_equalIn_int (P:=Tryz.prog) w 9998 2 .i64 .i64 xc yc u2
 have e4:(Op.equalIn 9999 4 (.bool xa) (.bool ya)).run Tryz.prog w=.ok (xa == ya) w:=run_equalIn_bool' (P:=Tryz.prog) w 9998 4 xa ya u4
 have e5:(Op.equalIn 9999 4 (.bool xb) (.bool yb)).run Tryz.prog w=.ok (xb == yb) w:=run_equalIn_bool' (P:=Tryz.prog) w 9998 4 xb yb u4
 rw [run_neq_struct,show (10000:Nat)=9999+1 from rfl,run_equalIn_struct w 9999 63 _ _ hS hp]
 generalize (Tryz.prog.fieldsOf 63).toList=fs at hf ⊢;obtain ⟨f1,r1,rfl,h1,hf⟩:=List.map_eq_cons_iff.1 hf;obtain ⟨f2,r2,rfl,h2,hf⟩:=List.map_eq_cons_iff.1 hf;obtain ⟨f3,r3,rfl,h3,hf⟩:=List.map_eq_cons_iff.1 hf;obtain ⟨f4,r4,rfl,h4,hf⟩:=List.map_eq_cons_iff.1 hf;obtain ⟨f5,r5,rfl,h5,hf⟩:=List.map_eq_cons_iff.1 hf;obtain rfl:=List.map_eq_nil_iff.1 hf;simp only [Prod.mk.injEq,beq_eq_false_iff_ne,ne_eq]at h1 h2 h3 h4 h5
 obtain ⟨n1,t1,p1⟩:=h1;obtain ⟨n2,t2,p2⟩:=h2;obtain ⟨n3,t3,p3⟩:=h3;obtain ⟨n4,t4,p4⟩:=h4;obtain ⟨n5,t5,p5⟩:=h5;simp only [Op.eqFields,ne_eq,n1,n2,n3,n4,n5,not_false_eq_true,if_true,t1,t2,t3,t4,t5,p1,p2,p3,p4,p5,Sem.run_bind,Sem.run_ite,Sem.run_pure,q1,q2,q3,q4,q5,e1,e2,e3,e4,e5,Result.andThen_ok]
 by_cases h1:xs=ys
 ·by_cases h2:xr=yr
  ·by_cases h3:xc=yc
   ·by_cases h4:xa=ya
    ·by_cases h5:xb=yb <;> simp [h1,h2,h3,h4,h5]
    ·simp [h1,h2,h3,h4]
   ·simp [h1,h2,h3]
  ·simp [h1,h2]
 ·simp [h1]
theorem guard59(op:BinOp)(a b:Operand)(X Y:Array Value)(w:World):Sem.run Tryz.prog (eqGuard op 63 a b (.agg X) (.agg Y)) w=.ok () w:=run_eqGuard_agg w op 63 a b X Y (by kernel_rfl)
theorem eqrf_any_q(va vb:Value)(A B:List Rf)(w:World)(ha:Sl rf 5 w va A)(hb:Sl rf 5 w vb B):Calls Tryz.prog 118 #[va,vb] w fun e w'=>e=.returned (.bool (eqRf A B))∧∃ m,w'=w.drewN m:=by
 have HA:=hid ha;have HB:=hid hb;obtain ⟨ao,cap,rfl,la,ma⟩:=ha.len;obtain ⟨ao2,cap2,rfl,lb,mb⟩:=hb.len;have hA:A.length≤9223372036854775807:=by unfold maxLen at ma;omega
 clear ha hb la ma lb mb;generalize hT:eqRf A B=T;have HT:=hid hT;clear hT;by_cases hl:A.length=B.length
 ·have hl':((A.length:Int) != (B.length:Int))=false:=by simp [hl]
  go_enter Tryz.func118,Tryz.ntmps118
  go_wp2
  go_loopw [4,13] (fun _ s W=>∃ (n:Nat),n≤A.length∧s=.int .i64 n∧Hid (∃ q,W=w.drewN q)∧Hid (eqRf (A.drop n) (B.drop n)=T)) (fun _ s _=>A.length-(intOf s).toNat)
  case atStart=>exact ⟨0,Nat.zero_le _,rfl,⟨0,rfl⟩,by rw [List.drop_zero,List.drop_zero];exact HT.out⟩
  case round=>
   obtain ⟨n,hn,rfl,hq,HZ⟩:=hrel;obtain ⟨q,hwq⟩:=hq.out;have HW:=hid hwq;have HQ:Hid (Q w wr):=by rw [hwq];exact (Q.refl _).drewN _
   clear hq hwq;by_cases hlt:n<A.length
   ·have hlt':(n:Int)<(A.length:Int):=by omega
    have hlt2:(n:Int)<(B.length:Int):=by omega
    obtain ⟨g,off,cap',e,_,_,hc⟩:=(HA.out.on HQ.out).at hlt;cases e
    obtain ⟨g2,off2,cap3,e,_,_,hc2⟩:=(HB.out.on HQ.out).at (i:=n) (by omega)
    cases e
    rw [List.drop_eq_getElem_cons hlt,List.drop_eq_getElem_cons (show n<B.length by omega),eqRf]at HZ
    generalize A[n]=x at *;generalize B[n]'(by omega)=y at *
    obtain ⟨xs,xr,xc,xa,xb⟩:=x;obtain ⟨ys,yr,yc,ya,yb⟩:=y;have c0:wr.cell? ⟨g,off+n*5,none⟩=some (.string ⟨xs.toArray⟩):=hc 0 _ rfl
    have c1:wr.cell? ⟨g,off+n*5+1,none⟩=some (.int .i64 xr):=hc 1 _ rfl
    have c2:wr.cell? ⟨g,off+n*5+2,none⟩=some (.int .i64 xc):=hc 2 _ rfl
    have c3:wr.cell? ⟨g,off+n*5+3,none⟩=some (.bool xa):=hc 3 _ rfl
    have c4:wr.cell? ⟨g,off+n*5+4,none⟩=some (.bool xb):=hc 4 _ rfl
    have d0:wr.cell? ⟨g2,off2+n*5,none⟩=some (.string ⟨ys.toArray⟩):=hc2 0 _ rfl
    have d1:wr.cell? ⟨g2,off2+n*5+1,none⟩=some (.int .i64 yr):=hc2 1 _ rfl
    have d2:wr.cell? ⟨g2,off2+n*5+2,none⟩=some (.int .i64 yc):=hc2 2 _ rfl
    have d3:wr.cell? ⟨g2,off2+n*5+3,none⟩=some (.bool ya):=hc2 3 _ rfl
    have d4:wr.cell? ⟨g2,off2+n*5+4,none⟩=some (.bool yb):=hc2 4 _ rfl
    clear hc hc2;have hgd':∀ (op:BinOp) (a b:Operand) (w:World),Sem.run Tryz.prog (eqGuard op 63 a b (.agg #[.string ⟨xs.toArray⟩,.int .i64 xr,.int .i64 xc,.bool xa,.bool xb]) (.agg #[.string ⟨ys.toArray⟩,.int .i64 yr,.int .i64 yc,.bool ya,.bool yb])) w=.ok () w:=fun op a b w=>guard59 op a b _ _ w
    cases hd:decide (((xs,xr,xc,xa,xb):Rf)=(ys,yr,yc,ya,yb))
    ·have HR:Hid (false=T):=by
      have:=HZ.out
      simp only [hd,Bool.false_and]at this
      exact this
     clear HZ;have hne':∀ w,Sem.run Tryz.prog (binOp .neq 63 (.agg #[.string ⟨xs.toArray⟩,.int .i64 xr,.int .i64 xc,.bool xa,.bool xb]) (.agg #[.string ⟨ys.toArray⟩,.int .i64 yr,.int .i64 yc,.bool ya,.bool yb])) w=.ok (.bool true) w:=fun w=>by
      have:=neq59 xs xr xc xa xb ys yr yc ya yb w
      rw [hd]at this;exact this
     clear hd;go_wp2_with fail
     go_quiet (fail)
     go_wp2_with fail
     go_ret
     exact ⟨ret_bool HR.out,_,by rw [HW.out,World.drewN_drewN]⟩
    ·have HZ2:Hid (eqRf (A.drop (n+1)) (B.drop (n+1))=T):=by
      have:=HZ.out
      simp only [hd,Bool.true_and]at this
      exact this
     clear HZ;have hne':∀ w,Sem.run Tryz.prog (binOp .neq 63 (.agg #[.string ⟨xs.toArray⟩,.int .i64 xr,.int .i64 xc,.bool xa,.bool xb]) (.agg #[.string ⟨ys.toArray⟩,.int .i64 yr,.int .i64 yc,.bool ya,.bool yb])) w=.ok (.bool false) w:=fun w=>by
      have:=neq59 xs xr xc xa xb ys yr yc ya yb w
      rw [hd]at this;exact this
     clear hd;go_wp2_with fail
     go_quiet (fail)
     go_wp2_with fail
     go_roundw
     case rel=>exact ⟨n+1,by omega,by go_num,⟨_,by rw [HW.out,World.drewN_drewN]⟩,HZ2⟩
     case measure=>simp [intOf];omega
   ·have hlt':¬ (n:Int)<(A.length:Int):=by omega
    have HR:Hid (true=T):=by
     have:=HZ.out
     rw [List.drop_eq_nil_of_le (by omega),List.drop_eq_nil_of_le (by omega)]at this
     exact this
    clear HZ;go_wp2_with fail
    go_ret
    exact ⟨ret_bool HR.out,q,HW.out⟩
 ·have hl':((A.length:Int) != (B.length:Int))=true:=by simp;omega
  have HR:Hid (false=T):=by show _=_;rw [←HT.out,eqRf_len hl]
  go_enter Tryz.func118,Tryz.ntmps118
  go_wp2
  go_ret
  exact ⟨ret_bool HR.out,0,rfl⟩
end Go.Proofs.YtgheopdadfnilaaGreatDoor
namespace Go.Proofs.YtgheopdadfnilaaGreatDoor
def hd:Ex→Int × Int × List UInt8 × Bool × Int × List Rf
 |.mk k n t b e rs _=>(k,n,t,b,e,rs)
def kd:Ex→List Ex
 |.mk _ _ _ _ _ _ ks=>ks
theorem ex_eq{x y:Ex}:x=y↔hd x=hd y∧kd x=kd y:=by
 cases x with
 |mk k n t b e rs ks=>
  cases y with
  |mk k' n' t' b' e' rs' ks'=>
   simp only [hd,kd,Ex.mk.injEq,Prod.mk.injEq]
   constructor
   ·rintro ⟨h1,h2,h3,h4,h5,h6,h7⟩
    exact ⟨⟨h1,h2,h3,h4,h5,h6⟩,h7⟩
   ·rintro ⟨⟨h1,h2,h3,h4,h5,h6⟩,h7⟩
    exact ⟨h1,h2,h3,h4,h5,h6,h7⟩
theorem nodes_kd(x:Ex):nodes x=1+nodes.nodesL (kd x):=by
 cases x with
 |mk k n t b e rs ks=>rw [nodes];rfl
abbrev Pr:=List Ex × List Ex
structure Eqv (R:Prop) (L K:List Pr):Prop where
 all:R↔∀ p∈L,p.1=p.2
 bgn:∀ k∈K,(∀ p∈L,nodes.nodesL p.1≤nodes.nodesL k.1→p.1=p.2)→k.1=k.2
theorem eqv_start(x y:Ex):Eqv (x=y) [([x],[y])] []:=by
 refine ⟨?_,fun k hk=>absurd hk (by simp)⟩
 constructor
 ·intro h p hp
  simp at hp
  subst hp h
  rfl
 ·intro h
  have:=h ([x],[y]) (by simp)
  simpa using this
theorem Eqv.done{R:Prop}{K:List Pr}(h:Eqv R [] K):R:=h.all.2 (fun p hp=>absurd hp (by simp))
theorem Eqv.pop{R:Prop}{L K:List Pr}(h:Eqv R (([],[])::L) K):Eqv R L K:=by
 refine ⟨?_,fun k hk hl=>h.bgn k hk (fun p hp hs=>?_)⟩
 ·rw [h.all]
  constructor
  ·intro g p hp
   exact g p (by simp [hp])
  ·intro g p hp
   simp at hp
   rcases hp with rfl|hp
   ·rfl
   ·exact g p hp
 ·simp at hp
  rcases hp with rfl|hp
  ·rfl
  ·exact hl p hp hs
theorem Eqv.no{R:Prop}{L K:List Pr}{x y:Ex}{xs ys:List Ex}(h:Eqv R ((x::xs,y::ys)::L) K)(hn:¬ (hd x=hd y∧(kd x).length=(kd y).length)):¬ R:=by
 intro r
 have:=h.all.1 r (x::xs,y::ys) (by simp)
 simp at this
 rw [this.1]at hn;exact hn ⟨rfl,rfl⟩
theorem Eqv.step{R:Prop}{L K:List Pr}{x y:Ex}{xs ys:List Ex}{L' K':List Pr}(h:Eqv R ((x::xs,y::ys)::L) K)(hh:hd x=hd y)
  (hk:(∀ p∈(xs,ys)::L,nodes.nodesL p.1≤nodes.nodesL (kd x)→p.1=p.2)→(∀ p∈L',nodes.nodesL p.1≤nodes.nodesL (kd x)→p.1=p.2)→kd x=kd y)
  (hL:∀ p,p∈L'→p∈(xs,ys)::L∨p=(kd x,kd y)) (hL':∀ p∈(xs,ys)::L,p∈L') (hK:∀ k∈K',k∈K∨(k=(kd x,kd y)∧(kd x,kd y)∈L')):Eqv R L' K':=by
 have hs:nodes.nodesL (x::xs)=1+nodes.nodesL (kd x)+nodes.nodesL xs:=by rw [nodes.nodesL,nodes_kd]
 have cur:∀ m,nodes.nodesL (x::xs)≤m→(∀ p∈L',nodes.nodesL p.1≤m→p.1=p.2)→x::xs=y::ys:=by
  intro m hm hl
  have h1:xs=ys:=hl (xs,ys) (hL' _ (by simp)) (by simp;omega)
  have h2:kd x=kd y:=hk (fun p hp hs'=>hl p (hL' _ hp) (by omega)) (fun p hp hs'=>hl p hp (by omega))
  rw [h1,ex_eq.2 ⟨hh,h2⟩]
 refine ⟨?_,fun k hk' hl=>?_⟩
 ·rw [h.all]
  constructor
  ·intro g p hp
   have g0:=g (x::xs,y::ys) (by simp)
   simp at g0
   rcases hL p hp with hp|rfl
   ·simp at hp
    rcases hp with rfl|hp
    ·exact g0.2
    ·exact g p (by simp [hp])
   ·rw [g0.1]
  ·intro g p hp
   simp at hp
   rcases hp with rfl|hp
   ·exact cur _ (Nat.le_refl _) (fun p hp _=>g p hp)
   ·exact g p (hL' _ (by simp [hp]))
 ·rcases hK k hk' with hk'|⟨rfl,hm⟩
  ·refine h.bgn k hk' (fun p hp hs'=>?_)
   simp at hp
   rcases hp with rfl|hp
   ·exact cur _ hs' (fun p hp hs'=>hl p hp hs')
   ·exact hl p (hL' _ (by simp [hp])) hs'
  ·exact hl _ hm (Nat.le_refl _)
theorem Eqv.leaf{R:Prop}{L K:List Pr}{x y:Ex}{xs ys:List Ex}(h:Eqv R ((x::xs,y::ys)::L) K)(hh:hd x=hd y)(hx:kd x=[])(hy:(kd x).length=(kd y).length):Eqv R ((xs,ys)::L) K:=
 h.step hh (fun _ _=>by
  rw [hx]at hy ⊢;exact (List.eq_nil_of_length_eq_zero hy.symm).symm) (fun p hp=>.inl hp) (fun p hp=>hp) (fun k hk=>.inl hk)
theorem Eqv.old{R:Prop}{L K:List Pr}{x y:Ex}{xs ys:List Ex}(h:Eqv R ((x::xs,y::ys)::L) K)(hh:hd x=hd y)(hb:(kd x,kd y)∈K):Eqv R ((xs,ys)::L) K:=
 h.step hh (fun g _=>h.bgn _ hb (fun p hp hs=>by
  simp at hp
  rcases hp with rfl|hp
  ·rw [nodes.nodesL,nodes_kd]at hs
   simp at hs
   omega
  ·exact g p (by simp [hp]) hs)) (fun p hp=>.inl hp) (fun p hp=>hp) (fun k hk=>.inl hk)
theorem Eqv.new{R:Prop}{L K:List Pr}{x y:Ex}{xs ys:List Ex}(h:Eqv R ((x::xs,y::ys)::L) K)(hh:hd x=hd y):Eqv R ((xs,ys)::(kd x,kd y)::L) ((kd x,kd y)::K):=
 h.step hh (fun _ g=>g (kd x,kd y) (by simp) (Nat.le_refl _)) (fun p hp=>by
  simp at hp ⊢
  rcases hp with h|h|h
  ·exact .inl (.inl h)
  ·exact .inr h
  ·exact .inl (.inr h)) (fun p hp=>by
  simp at hp ⊢
  rcases hp with h|h
  ·exact .inl h
  ·exact .inr (.inr h)) (fun k hk=>by
  simp at hk
  rcases hk with h|h
  ·exact .inr ⟨h,by simp⟩
  ·exact .inl h)
def wgt(L:List Pr):Nat:=(L.map fun p=>nodes.nodesL p.1).sum
theorem wgt_cons(p:Pr)(L:List Pr):wgt (p::L)=nodes.nodesL p.1+wgt L:=by simp [wgt]
theorem nodesL_cons'(x:Ex)(xs:List Ex):nodes.nodesL (x::xs)=1+nodes.nodesL (kd x)+nodes.nodesL xs:=by rw [nodes.nodesL,nodes_kd]
end Go.Proofs.YtgheopdadfnilaaGreatDoor
