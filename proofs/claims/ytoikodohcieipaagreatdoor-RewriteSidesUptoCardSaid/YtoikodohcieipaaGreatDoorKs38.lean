/- counterpanelaw7.some, for ever. -/
import Derived.Test.YtoikodohcieipaaGreatDoorKs37
set_option linter.unusedVariables false
set_option linter.unusedSimpArgs false
set_option maxRecDepth 100000
set_option maxHeartbeats 8000000
namespace Go.Proofs.YtoikodohcieipaaGreatDoor
open Go.RowKit
theorem some_all(W0:World)(p:Nat)(hp0:W0.heap.size≤p):∀ (s:Nat) (x:Ex) (v:Value) (W:World) (d l:Nat),SizeOf.sizeOf x≤s→RdI W0 x v→Q W0 W→p<W.heap.size→W.cell? ⟨p,0,none⟩=some (.int .i64 (l:Int))→W.frozen? ⟨p,0,none⟩=false→1≤l→l≤220→d≤60→Calls Tryz.prog 22 #[v,.int .i64 (d:Int),.pointer (some ⟨p,0,none⟩)] W fun e W'=>RepS W0 p W (cutE x d l) e W':=by
 intro s
 induction s with
 |zero=>
  intro x v W d l hs
  cases x with
  |mk k n t b e rs ks=>simp at hs
 |succ s ih=>
  intro x v W d l hs hr hq hp hc hf h1 h2 hd
  cases x with
  |mk k n t b e rs ks=>
   unfold RdI at hr
   obtain ⟨rv',kv,hv,hsl,ao,cap,hk,hle,hmx,hkd⟩:=hr;obtain ⟨a1,c1,hrv,hl⟩:=hsl;have hsl':Sl rf 5 W0 (.slice a1 rs.length c1) rs:=⟨a1,c1,rfl,hl⟩
   subst hk hrv hv;have hstep:=some_step W0 p k n ⟨t.toArray⟩ b e rs ks a1 c1 ao cap W d l (hid hsl') (hid ⟨hle,hmx⟩) (hid hkd) (hid hq) hp0 hp hc hf h1 h2 hd
    (hid (fun i hi v W d l hr hq hp hc hf h1 h2 hd=>ih ks[i] v W d l (by have:=kid_size (k:=k) (n:=n) (t:=t) (b:=b) (e:=e) (rs:=rs) i hi;omega) hr hq hp hc hf h1 h2 hd))
   exact hstep
theorem cutx_any(x:Ex)(v:Value)(W0 W:World)(hr:RdI W0 x v)(hq0:Q W0 W):Calls Tryz.prog 9 #[v] W fun e W'=>∃ v',e=.returned v'∧Rdg (fun b=>b<W0.heap.size∨W.heap.size≤b) W' (cutE x 1 220).1 v'∧Q W W':=by
 have hw0:=hq0.size;have HS:=hid (fun p (hp:W0.heap.size≤p) V (q:Q W0 V) (hpv:p<V.heap.size) (hc:V.cell? ⟨p,0,none⟩=some (.int .i64 ((220:Nat):Int))) (hf:V.frozen? ⟨p,0,none⟩=false)=>some_all W0 p hp (SizeOf.sizeOf x) x v V 1 220 (Nat.le_refl _) hr q hpv hc hf (by omega) (by omega) (by omega))
 obtain ⟨k,n,t,b,e,a1,l1,c1,a2,l2,c2,rfl⟩:=hr.shape;clear hr;have t2:=tb_new (W.alloc (.cells #[.int .i64 k,.int .i64 n,.string t,.bool b,.int .i64 e,.slice a1 l1 c1,.slice a2 l2 c2] 26)) (.int .i64 0) (.int .i64 0) (.string ⟨#[]⟩) (.bool false) (.int .i64 0) (.slice none 0 0) (.slice none 0 0) 26;rw [show (W.alloc (.cells #[.int .i64 k,.int .i64 n,.string t,.bool b,.int .i64 e,.slice a1 l1 c1,.slice a2 l2 c2] 26)).heap.size=W.heap.size+1 by simp]at t2
 have T2:=hid (t2.on (p:=W.heap.size) ((Qx.refl _ _).alloc (.cells #[.int .i64 220] 3)) (by omega))
 clear t2;have hsz:(((W.alloc (.cells #[.int .i64 k,.int .i64 n,.string t,.bool b,.int .i64 e,.slice a1 l1 c1,.slice a2 l2 c2] 26)).alloc (.cells #[.int .i64 0,.int .i64 0,.string ⟨#[]⟩,.bool false,.int .i64 0,.slice none 0 0,.slice none 0 0] 26)).alloc (.cells #[.int .i64 220] 3)).heap.size=W.heap.size+3:=by simp
 have HV:=hid (HS.out (W.heap.size+1+1) (by omega) (((W.alloc (.cells #[.int .i64 k,.int .i64 n,.string t,.bool b,.int .i64 e,.slice a1 l1 c1,.slice a2 l2 c2] 26)).alloc (.cells #[.int .i64 0,.int .i64 0,.string ⟨#[]⟩,.bool false,.int .i64 0,.slice none 0 0,.slice none 0 0] 26)).alloc (.cells #[.int .i64 220] 3)) (((hq0.alloc _).alloc _).alloc _) (by rw [hsz];omega) (by
  have h:=(World.cell?_alloc_new ((W.alloc (.cells #[.int .i64 k,.int .i64 n,.string t,.bool b,.int .i64 e,.slice a1 l1 c1,.slice a2 l2 c2] 26)).alloc (.cells #[.int .i64 0,.int .i64 0,.string ⟨#[]⟩,.bool false,.int .i64 0,.slice none 0 0,.slice none 0 0] 26)) #[.int .i64 220] 3 0);simp only [World.alloc,Array.size_push]at h ⊢
  simpa using h) (by
  have h:=(World.frozen?_alloc_new ((W.alloc (.cells #[.int .i64 k,.int .i64 n,.string t,.bool b,.int .i64 e,.slice a1 l1 c1,.slice a2 l2 c2] 26)).alloc (.cells #[.int .i64 0,.int .i64 0,.string ⟨#[]⟩,.bool false,.int .i64 0,.slice none 0 0,.slice none 0 0] 26)) #[.int .i64 220] 3 0);simp only [World.alloc,Array.size_push]at h ⊢
  simpa using h))
 go_enter Tryz.func9,Tryz.ntmps9
 go_wp2_with (go_at_call 22;refine HV.out.mono ?_;rintro e8 w5 ⟨v8,rfl,hr8,q8,_,_⟩;obtain ⟨k8,m8,t8,bb8,er8,a18,l18,c18,a28,l28,c28,rfl⟩:=hr8.shape;have R8:=hid hr8;have Q8:=hid q8;have T8:=hid (T2.out.on q8 (by omega));clear hr8 q8;obtain ⟨z0,z1,z2,z3,z4,z5,z6,zf⟩:=T8.out;have y0:=zf 0;have y1:=zf 1;have y2:=zf 2;have y3:=zf 3;have y4:=zf 4;have y5:=zf 5;have y6:=zf 6;clear zf)
 refine bodyPost_ret (v:=.agg #[.int .i64 k8,.int .i64 m8,.string t8,.bool bb8,.int .i64 er8,.slice a18 l18 c18,.slice a28 l28 c28]) (by simp [results,Tryz.results9,go_sem,z0,z1,z2,z3,z4,z5,z6]) rfl ?_
 have QF:Qx (W.heap.size+1) w5 (((((((w5.setCell ⟨W.heap.size+1,0,none⟩ (.int .i64 k8)).setCell ⟨W.heap.size+1,1,none⟩ (.int .i64 m8)).setCell ⟨W.heap.size+1,2,none⟩ (.string t8)).setCell ⟨W.heap.size+1,3,none⟩ (.bool bb8)).setCell ⟨W.heap.size+1,4,none⟩ (.int .i64 er8)).setCell ⟨W.heap.size+1,5,none⟩ (.slice a18 l18 c18)).setCell ⟨W.heap.size+1,6,none⟩ (.slice a28 l28 c28)):=(((((((Qx.refl _ _).own _ _).own _ _).own _ _).own _ _).own _ _).own _ _).own _ _
 have hq5:Q W w5:=by
  have h:=Q8.out;refine ⟨h.os,h.tape,h.output,by have:=h.size;omega,fun i hi=>(h.block i (by omega) (fun e=>by have:=Option.some.inj e;omega)).trans ?_⟩
  exact Q.block ((((Q.refl W).alloc _).alloc _).alloc _) hi
 refine ⟨_,rfl,Rdg.mono (fun b hb=>by rw [hsz]at hb;omega) _ _ (Rdg.on QF (fun b hb=>by rw [hsz]at hb;omega) _ _ R8.out),?_⟩
 exact ⟨QF.os.trans hq5.os,QF.tape.trans hq5.tape,QF.output.trans hq5.output,Nat.le_trans hq5.size QF.size,fun i hi=>(QF.block i (Nat.lt_of_lt_of_le hi hq5.size) (fun e=>by have:=Option.some.inj e;omega)).trans (Q.block hq5 hi)⟩
end Go.Proofs.YtoikodohcieipaaGreatDoor
