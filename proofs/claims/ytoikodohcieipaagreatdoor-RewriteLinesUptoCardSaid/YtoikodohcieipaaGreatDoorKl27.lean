/- rewrite's scale: step; rewrite. -/
import Derived.Test.YtoikodohcieipaaGreatDoorKl26
set_option linter.unusedVariables false
set_option linter.unusedSimpArgs false
set_option maxRecDepth 100000
set_option maxHeartbeats 8000000
namespace Go.Proofs.YtoikodohcieipaaGreatDoor
open Go.RowKit
theorem step_end(B s mb:Nat)(wv v:Value)(es:List (Pk × S3))(L:List Od)(b o n:Nat)(ra:Option Addr)(rc:Nat)(t:Int)(W:World)(h:ScA W B s mb wv v es (L++[((b,o,n),.slice ra 0 rc,t)]))(t0:Int)(hk:getS es (b,o,n)=some (t0,false,false))(hp:Pl W b)(hB:b<B)(hl:L.length≤100000)(ht:0≤t)(hy:∀ M y,L=M++[y]→0≤y.2.2∧y.2.2+t≤2147483648) :
  Calls Tryz.prog 62 #[.pointer (some ⟨s,0,none⟩)] W fun e W'=>(∃ u,e=.returned u)∧Qp (fun i=>B≤i) W W'∧∃ v',(L=[]∧ScA W' B s mb wv v' (putS es (b,o,n) (t,true,false)) [])∨∃ M y,L=M++[y]∧ScA W' B s mb wv v' (putS es (b,o,n) (t,true,false)) (M++[(y.1,y.2.1,y.2.2+t)]):=by
 have HE:=hid (fun j=>end_any B s mb wv v es L b o n ra 0 rc t (W.drewN j) (h.on ((Q.refl W).drewN j)) t0 hk (hp.on ((Q.refl W).drewN j)) hB hl ht hy)
 have HS:=hid h;obtain ⟨g,cap,rfl,hc1,hc2,hg,hcl,hfr⟩:=h.last;have c2:=h.c2;have l2:W.cell? ⟨g,L.length*4+2,none⟩=some (.slice ra 0 rc):=hcl 2 _ rfl
 obtain ⟨m,hm⟩:∃ m,L.length=m:=⟨_,rfl⟩;rw [hm]at l2 c2 hc1 hl;clear h hcl hfr hm;have hm1:m+1≤9223372036854775807:=by omega
 have hw:IntKind.i64.wrap (m:Int)=(m:Int):=by simp [IntKind.wrap_i64];omega
 have i0:(0:Int)<((m+1:Nat):Int):=by omega
 have i1:((m+1:Nat):Int)-1=(m:Int):=by omega
 go_enter Tryz.func62,Tryz.ntmps62
 go_wp2_with fail
 go_quiet (fail)
 go_wp2_with (go_at_call 79;refine (HE.out _).mono ?_;rintro e w5 ⟨⟨u,rfl⟩,q5,h5⟩)
 refine bodyPost_ret (v:=.tuple #[]) (by simp [results,Tryz.results62,go_sem]) rfl ?_
 exact ⟨⟨_,rfl⟩,(Qp.of ((Q.refl W).drewN nq)).trans q5,h5⟩
theorem step_leaf1(B s mb:Nat)(v:Value)(es:List (Pk × S3))(L:List Od)(k:Pk)(rb ro:Nat)(t:Int)(W:World)(h:ScA W B s mb (.func (.func 68) #[] #[]) v es (L++[(k,.slice (some ⟨rb,ro,none⟩) 1 1,t)]))(hB:rb<B)(hl:L.length≤100000)
  (tx:ByteArray) (ar:Option Addr) (n5 c5:Nat) (ka:Option Addr) (kc:Nat) (d2:W.cell? ⟨rb,ro+2,none⟩=some (.string tx)) (d5:W.cell? ⟨rb,ro+5,none⟩=some (.slice ar n5 c5)) (d6:W.cell? ⟨rb,ro+6,none⟩=some (.slice ka 0 kc)) (hn5:n5≤100000000) (htx:tx.size≤3000000000) (ht:0≤t) (hw:t+(96+(tx.size:Int)+40*(n5:Int))≤2147483648) :
  Calls Tryz.prog 62 #[.pointer (some ⟨s,0,none⟩)] W fun e W'=>(∃ u,e=.returned u)∧Qp (fun i=>B≤i) W W'∧ScA W' B s mb (.func (.func 68) #[] #[]) v es (L++[(k,.slice (some ⟨rb,ro,none⟩) 0 0,t+(96+(tx.size:Int)+40*(n5:Int)))]):=by
 have HS:=hid h;obtain ⟨g,cap,rfl,hc1,hc2,hg,hcl,hfr⟩:=h.last;have c2:=h.c2;have c0:=h.c0;have hgB:B≤g:=h.ow.blk g rfl
 have hsB:=h.hs;obtain ⟨m,hm⟩:∃ m,L.length=m:=⟨_,rfl⟩;rw [hm]at hcl c2 hc1 hl HS ⊢;have l2:W.cell? ⟨g,m*4+2,none⟩=some (.slice (some ⟨rb,ro,none⟩) 1 1):=hcl 2 _ rfl
 have l3:W.cell? ⟨g,m*4+3,none⟩=some (.int .i64 t):=hcl 3 _ rfl
 have f2:=hfr (m*4+2);have f3:=hfr (m*4+3);have HM:=hid hm;clear h hcl hfr hm;have hne:rb≠g:=by omega
 have hen:g≠rb:=by omega
 have hsg:s≠g:=fun e=>HS.out.os (by rw [e];rfl)
 have HW:Hid (∀ j,Calls Tryz.prog 68 #[.pointer (some ⟨rb,ro,none⟩)] ((W.drewN j).setCell ⟨g,m*4+2,none⟩ (.slice (some ⟨rb,ro,none⟩) 0 0)) fun e W'=>e=.returned (.int .i64 (96+(tx.size:Int)+40*(n5:Int)))∧∃ i,W'=((W.drewN j).setCell ⟨g,m*4+2,none⟩ (.slice (some ⟨rb,ro,none⟩) 0 0)).drewN i):=
  hid (fun j=>whole_weight rb ro tx ar n5 c5 _ ((World.cell?_setCell_far _ _ _ _ hen).trans d2) ((World.cell?_setCell_far _ _ _ _ hen).trans d5) hn5 htx)
 have HA:Hid (∀ j i,Calls Tryz.prog 80 #[.pointer (some ⟨g,m*4,none⟩),.int .i64 (96+(tx.size:Int)+40*(n5:Int))] (((W.drewN j).setCell ⟨g,m*4+2,none⟩ (.slice (some ⟨rb,ro,none⟩) 0 0)).drewN i) fun e W'=>e=.returned (.tuple #[])∧W'=(((W.drewN j).setCell ⟨g,m*4+2,none⟩ (.slice (some ⟨rb,ro,none⟩) 0 0)).drewN i).setCell ⟨g,m*4+3,none⟩ (.int .i64 (t+(96+(tx.size:Int)+40*(n5:Int))))):=
  hid (fun j i=>add_any g (m*4) t (96+(tx.size:Int)+40*(n5:Int)) _ ((World.cell?_setCell_other (W.drewN j) _ _ _ (by intro e;simp at e)).trans l3) ((World.frozen?_setCell (W.drewN j) _ _ _).trans f3) ht (by omega) hw)
 have HF:Hid (∀ j i,ScA ((((W.drewN j).setCell ⟨g,m*4+2,none⟩ (.slice (some ⟨rb,ro,none⟩) 0 0)).drewN i).setCell ⟨g,m*4+3,none⟩ (.int .i64 (t+(96+(tx.size:Int)+40*(n5:Int))))) B s mb (.func (.func 68) #[] #[]) (.slice (some ⟨g,0,none⟩) (m+1) cap) es (L++[(k,.slice (some ⟨rb,ro,none⟩) 0 0,t+(96+(tx.size:Int)+40*(n5:Int)))])):=
  hid (fun j i=>((((HS.out.on ((Q.refl W).drewN j)).turn HM.out 2 (by omega) (.slice (some ⟨rb,ro,none⟩) 0 0) (k,.slice (some ⟨rb,ro,none⟩) 0 0,t) rfl).on ((Q.refl _).drewN i)).turn HM.out 3 (by omega) (.int .i64 (t+(96+(tx.size:Int)+40*(n5:Int)))) (k,.slice (some ⟨rb,ro,none⟩) 0 0,t+(96+(tx.size:Int)+40*(n5:Int))) rfl))
 have hm1:m+1≤9223372036854775807:=by omega
 have hwm:IntKind.i64.wrap (m:Int)=(m:Int):=by simp [IntKind.wrap_i64];omega
 have i0:(0:Int)<((m+1:Nat):Int):=by omega
 have i1:((m+1:Nat):Int)-1=(m:Int):=by omega
 go_enter Tryz.func62,Tryz.ntmps62
 go_wp2_with fail
 go_quiet (fail)
 go_wp2_with (first|(go_at_call 68;refine (HW.out _).mono ?_;rintro e w5 ⟨rfl,⟨i,rfl⟩⟩)|(go_at_call 80;refine (HA.out _ _).mono ?_;rintro e w6 ⟨rfl,rfl⟩))
 refine bodyPost_ret (v:=.tuple #[]) (by simp [results,Tryz.results62,go_sem]) rfl ?_
 exact ⟨⟨_,rfl⟩,(((Qp.of ((Q.refl W).drewN nq)).set _ _ (.inl hgB)).trans (Qp.of ((Q.refl _).drewN i))).set _ _ (.inl hgB),HF.out _ _⟩
theorem step_leafn(B s mb:Nat)(v:Value)(es:List (Pk × S3))(L:List Od)(k:Pk)(rb ro rn rc:Nat)(t:Int)(W:World)(h:ScA W B s mb (.func (.func 68) #[] #[]) v es (L++[(k,.slice (some ⟨rb,ro,none⟩) (rn+1) rc,t)]))(hB:rb<B)(hr1:rn+1≤rc)(hr3:rc≠1)(hr2:rc≤maxLen)(hl:L.length≤100000)
  (tx:ByteArray) (ar:Option Addr) (n5 c5:Nat) (ka:Option Addr) (kc:Nat) (d2:W.cell? ⟨rb,ro+2,none⟩=some (.string tx)) (d5:W.cell? ⟨rb,ro+5,none⟩=some (.slice ar n5 c5)) (d6:W.cell? ⟨rb,ro+6,none⟩=some (.slice ka 0 kc)) (hn5:n5≤100000000) (htx:tx.size≤3000000000) (ht:0≤t) (hw:t+(96+(tx.size:Int)+40*(n5:Int))≤2147483648) :
  Calls Tryz.prog 62 #[.pointer (some ⟨s,0,none⟩)] W fun e W'=>(∃ u,e=.returned u)∧Qp (fun i=>B≤i) W W'∧ScA W' B s mb (.func (.func 68) #[] #[]) v es (L++[(k,.slice (some ⟨rb,ro+7,none⟩) rn (rc-1),t+(96+(tx.size:Int)+40*(n5:Int)))]):=by
 have HS:=hid h;obtain ⟨g,cap,rfl,hc1,hc2,hg,hcl,hfr⟩:=h.last;have c2:=h.c2;have c0:=h.c0;have hgB:B≤g:=h.ow.blk g rfl
 have hsB:=h.hs;obtain ⟨m,hm⟩:∃ m,L.length=m:=⟨_,rfl⟩;rw [hm]at hcl c2 hc1 hl HS ⊢;have l2:W.cell? ⟨g,m*4+2,none⟩=some (.slice (some ⟨rb,ro,none⟩) (rn+1) rc):=hcl 2 _ rfl
 have l3:W.cell? ⟨g,m*4+3,none⟩=some (.int .i64 t):=hcl 3 _ rfl
 have f2:=hfr (m*4+2);have f3:=hfr (m*4+3);have HM:=hid hm;clear h hcl hfr hm;have hne:rb≠g:=by omega
 have hen:g≠rb:=by omega
 have hsg:s≠g:=fun e=>HS.out.os (by rw [e];rfl)
 have HW:Hid (∀ j,Calls Tryz.prog 68 #[.pointer (some ⟨rb,ro,none⟩)] ((W.drewN j).setCell ⟨g,m*4+2,none⟩ (.slice (some ⟨rb,ro+7,none⟩) rn (rc-1))) fun e W'=>e=.returned (.int .i64 (96+(tx.size:Int)+40*(n5:Int)))∧∃ i,W'=((W.drewN j).setCell ⟨g,m*4+2,none⟩ (.slice (some ⟨rb,ro+7,none⟩) rn (rc-1))).drewN i):=
  hid (fun j=>whole_weight rb ro tx ar n5 c5 _ ((World.cell?_setCell_far _ _ _ _ hen).trans d2) ((World.cell?_setCell_far _ _ _ _ hen).trans d5) hn5 htx)
 have HA:Hid (∀ j i,Calls Tryz.prog 80 #[.pointer (some ⟨g,m*4,none⟩),.int .i64 (96+(tx.size:Int)+40*(n5:Int))] (((W.drewN j).setCell ⟨g,m*4+2,none⟩ (.slice (some ⟨rb,ro+7,none⟩) rn (rc-1))).drewN i) fun e W'=>e=.returned (.tuple #[])∧W'=(((W.drewN j).setCell ⟨g,m*4+2,none⟩ (.slice (some ⟨rb,ro+7,none⟩) rn (rc-1))).drewN i).setCell ⟨g,m*4+3,none⟩ (.int .i64 (t+(96+(tx.size:Int)+40*(n5:Int))))):=
  hid (fun j i=>add_any g (m*4) t (96+(tx.size:Int)+40*(n5:Int)) _ ((World.cell?_setCell_other (W.drewN j) _ _ _ (by intro e;simp at e)).trans l3) ((World.frozen?_setCell (W.drewN j) _ _ _).trans f3) ht (by omega) hw)
 have HF:Hid (∀ j i,ScA ((((W.drewN j).setCell ⟨g,m*4+2,none⟩ (.slice (some ⟨rb,ro+7,none⟩) rn (rc-1))).drewN i).setCell ⟨g,m*4+3,none⟩ (.int .i64 (t+(96+(tx.size:Int)+40*(n5:Int))))) B s mb (.func (.func 68) #[] #[]) (.slice (some ⟨g,0,none⟩) (m+1) cap) es (L++[(k,.slice (some ⟨rb,ro+7,none⟩) rn (rc-1),t+(96+(tx.size:Int)+40*(n5:Int)))])):=
  hid (fun j i=>((((HS.out.on ((Q.refl W).drewN j)).turn HM.out 2 (by omega) (.slice (some ⟨rb,ro+7,none⟩) rn (rc-1)) (k,.slice (some ⟨rb,ro+7,none⟩) rn (rc-1),t) rfl).on ((Q.refl _).drewN i)).turn HM.out 3 (by omega) (.int .i64 (t+(96+(tx.size:Int)+40*(n5:Int)))) (k,.slice (some ⟨rb,ro+7,none⟩) rn (rc-1),t+(96+(tx.size:Int)+40*(n5:Int))) rfl))
 have hm1:m+1≤9223372036854775807:=by omega
 have hwm:IntKind.i64.wrap (m:Int)=(m:Int):=by simp [IntKind.wrap_i64];omega
 have i0:(0:Int)<((m+1:Nat):Int):=by omega
 have i1:((m+1:Nat):Int)-1=(m:Int):=by omega
 have hrc:(1:Int)≤(rc:Int):=by omega
 have hrx:rc≤9223372036854775807:=by unfold maxLen at hr2;omega
 go_enter Tryz.func62,Tryz.ntmps62
 go_wp2_with fail
 go_quiet (fail)
 go_wp2_with (first|(go_at_call 68;refine (HW.out _).mono ?_;rintro e w5 ⟨rfl,⟨i,rfl⟩⟩)|(go_at_call 80;refine (HA.out _ _).mono ?_;rintro e w6 ⟨rfl,rfl⟩))
 refine bodyPost_ret (v:=.tuple #[]) (by simp [results,Tryz.results62,go_sem]) rfl ?_
 exact ⟨⟨_,rfl⟩,(((Qp.of ((Q.refl W).drewN nq)).set _ _ (.inl hgB)).trans (Qp.of ((Q.refl _).drewN i))).set _ _ (.inl hgB),HF.out _ _⟩
end Go.Proofs.YtoikodohcieipaaGreatDoor
