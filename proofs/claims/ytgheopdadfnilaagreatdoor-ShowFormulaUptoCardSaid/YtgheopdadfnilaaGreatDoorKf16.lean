/- The program's reader: brackets. -/
import Derived.Test.YtgheopdadfnilaaGreatDoorKf15
import Derived.Test.YtgheopdadfnilaaGreatDoorKf14
set_option linter.unusedVariables false
set_option linter.unusedSimpArgs false
set_option maxRecDepth 100000
set_option maxHeartbeats 8000000
namespace Go.Proofs.YtgheopdadfnilaaGreatDoor
open Go.RowKit
theorem RepP.inN{p:Nat}{L:List Wd}{b off cap:Nat}{W W':World}{e:Ending}(h:RepP p L b off cap W none e W'):∃ (k m:Int) (t:ByteArray) (bb:Bool) (er:Int) (a1:Option Addr) (l1 c1:Nat) (a2:Option Addr) (l2 c2:Nat),e=.returned (.tuple #[.agg #[.int .i64 k,.int .i64 m,.string t,.bool bb,.int .i64 er,.slice a1 l1 c1,.slice a2 l2 c2],.bool false])∧Qx p W W'∧True:=by
 obtain ⟨k,m,t,bb,er,a1,l1,c1,a2,l2,c2,he,hq,_⟩:=h;exact ⟨k,m,t,bb,er,a1,l1,c1,a2,l2,c2,he,hq,trivial⟩
theorem RepP.inY{p:Nat}{L:List Wd}{b off cap:Nat}{W W':World}{x:Ex}{j:Nat}{e:Ending}(h:RepP p L b off cap W (some (x,j)) e W'):∃ (k m:Int) (t:ByteArray) (bb:Bool) (er:Int) (a1:Option Addr) (l1 c1:Nat) (a2:Option Addr) (l2 c2:Nat),e=.returned (.tuple #[.agg #[.int .i64 k,.int .i64 m,.string t,.bool bb,.int .i64 er,.slice a1 l1 c1,.slice a2 l2 c2],.bool true])∧Qx p W W'∧Rdg (fun b=>W.heap.size≤b) W' x (.agg #[.int .i64 k,.int .i64 m,.string t,.bool bb,.int .i64 er,.slice a1 l1 c1,.slice a2 l2 c2])∧PT W' p L b off cap j:=by
 obtain ⟨k,m,t,bb,er,a1,l1,c1,a2,l2,c2,he,hq,hr⟩:=h;exact ⟨k,m,t,bb,er,a1,l1,c1,a2,l2,c2,he,hq,(hr x j rfl).1,(hr x j rfl).2⟩
theorem pbrack_none(L:List Wd)(p b off cap i:Nat)(W:World)(h:PT W p L b off cap i)(hi:i<L.length)(hr:L.length≤50000)(HT:Hid (∀ W1,PT W1 p L b off cap i→Calls Tryz.prog 108 #[.pointer (some ⟨p,0,none⟩),.int .i64 1] W1 fun e W'=>RepP p L b off cap W1 none e W')) :
  Calls Tryz.prog 184 #[.pointer (some ⟨p,0,none⟩)] W fun e W'=>RepP p L b off cap W none e W':=by
 have hlt:=h.lt;have hbW:=h.blk i hi;have HP:=hid h;have HZ:=hid (tb_new W (.int .i64 0) (.int .i64 0) (.string ⟨#[]⟩) (.bool false) (.int .i64 0) (.slice none 0 0) (.slice none 0 0) 26);clear h;go_enter Tryz.func184,Tryz.ntmps184
 go_wp2_with (go_at_call 108;refine (HT.out _ (HP.out.on (by repeat (first|with_reducible exact Q.refl _|with_reducible refine Q.drewN ?_ _|with_reducible refine Q.drew ?_|with_reducible refine Q.alloc ?_ _|with_reducible refine Q.setCell ?_ (by simp) _)))).mono ?_;rintro e w2 h2;obtain ⟨k,m,t,bb,er,a1,l1,c1,a2,l2,c2,rfl,q2,r2⟩:=h2.inN;have Q2:=hid q2;have R2:=hid r2;clear h2 q2 r2;have Z2w:=hid (HZ.out.on Q2.out (by omega));have Z2:=hid ((HZ.out.on Q2.out (by omega)).on ((Qx.refl p _).alloc (.cells #[.int .i64 k,.int .i64 m,.string t,.bool bb,.int .i64 er,.slice a1 l1 c1,.slice a2 l2 c2] 26)) (by omega));have hs2:W.heap.size<w2.heap.size:=(by have:=Q2.out.size;simp at this;omega);have E2:=hid (tb_new w2 (.int .i64 k) (.int .i64 m) (.string t) (.bool bb) (.int .i64 er) (.slice a1 l1 c1) (.slice a2 l2 c2) 26))
 have g0:=Z2w.out.g0;have g1:=Z2w.out.g1;have g2:=Z2w.out.g2;have g3:=Z2w.out.g3;have g4:=Z2w.out.g4;have g5:=Z2w.out.g5;have g6:=Z2w.out.g6;have x0:=Z2w.out.f 0;have x1:=Z2w.out.f 1;have x2:=Z2w.out.f 2;have x3:=Z2w.out.f 3;have x4:=Z2w.out.f 4;have x5:=Z2w.out.f 5;have x6:=Z2w.out.f 6;have hWw:W.heap.size≠w2.heap.size:=by omega
 go_region
 obtain ⟨Vn,hVn,TVn,QVn⟩:∃ Vn,Vn=((((((((w2.setCell ⟨W.heap.size,0,none⟩ (.int .i64 k)).setCell ⟨W.heap.size,1,none⟩ (.int .i64 m)).setCell ⟨W.heap.size,2,none⟩ (.string t)).setCell ⟨W.heap.size,3,none⟩ (.bool bb)).setCell ⟨W.heap.size,4,none⟩ (.int .i64 er)).setCell ⟨W.heap.size,5,none⟩ (.slice a1 l1 c1)).setCell ⟨W.heap.size,6,none⟩ (.slice a2 l2 c2)).alloc (.cells #[.int .i64 k,.int .i64 m,.string t,.bool bb,.int .i64 er,.slice a1 l1 c1,.slice a2 l2 c2] 26)).drew∧Tb Vn W.heap.size (.int .i64 k) (.int .i64 m) (.string t) (.bool bb) (.int .i64 er) (.slice a1 l1 c1) (.slice a2 l2 c2)∧Qx p W Vn:=by
  have hq:Qx p W w2:=((Qx.refl p W).alloc _).trans Q2.out
  have hle:W.heap.size≤W.heap.size:=Nat.le_refl _
  exact ⟨_,rfl,((Z2w.out.put _ _ _ _ _ _ _).on ((Qx.refl p _).alloc _) (by omega)).on ((Qx.refl p _).drew) (by omega),((((((((hq.new hle _ _).new hle _ _).new hle _ _).new hle _ _).new hle _ _).new hle _ _).new hle _ _).alloc _).drew⟩
 rw [←hVn];have TVh:=hid TVn;clear hVn g0 x0 g1 x1 g2 x2 g3 x3 g4 x4 g5 x5 g6 x6 TVn;have g0:=TVh.out.g0;have g1:=TVh.out.g1;have g2:=TVh.out.g2;have g3:=TVh.out.g3;have g4:=TVh.out.g4;have g5:=TVh.out.g5;have g6:=TVh.out.g6
 all_goals go_wp2_with fail
 all_goals refine bodyPost_ret (v:=.tuple #[.agg #[.int .i64 k,.int .i64 m,.string t,.bool bb,.int .i64 er,.slice a1 l1 c1,.slice a2 l2 c2],.bool false]) (by simp [results,Tryz.results184,go_sem,g0,g1,g2,g3,g4,g5,g6]) rfl ?_
 exact ⟨k,m,t,bb,er,a1,l1,c1,a2,l2,c2,rfl,QVn,fun x j e=>by cases e⟩
theorem pbrack_yes(L:List Wd)(p b off cap i:Nat)(W:World)(h:PT W p L b off cap i)(hi:i<L.length)(hr:L.length≤50000)(x:Ex)(j:Nat)(hj:j<L.length)(hw:isW L j [41]=true)(HT:Hid (∀ W1,PT W1 p L b off cap i→Calls Tryz.prog 108 #[.pointer (some ⟨p,0,none⟩),.int .i64 1] W1 fun e W'=>RepP p L b off cap W1 (some (x,j)) e W')) :
  Calls Tryz.prog 184 #[.pointer (some ⟨p,0,none⟩)] W fun e W'=>RepP p L b off cap W (some (x,j+1)) e W':=by
 have hlt:=h.lt;have hbW:=h.blk i hi;have HP:=hid h;have HZ:=hid (tb_new W (.int .i64 0) (.int .i64 0) (.string ⟨#[]⟩) (.bool false) (.int .i64 0) (.slice none 0 0) (.slice none 0 0) 26);have hc:=hid (fun W1 (g:PT W1 p L b off cap j)=>ptake_any W1 p L b off cap j ⟨#[41]⟩ g hj hr (by simp))
 rw [show (⟨#[41]⟩:ByteArray).data.toList=[41] from rfl,hw]at hc
 clear h;go_enter Tryz.func184,Tryz.ntmps184
 go_wp2_with (go_at_call 108;refine (HT.out _ (HP.out.on (by repeat (first|with_reducible exact Q.refl _|with_reducible refine Q.drewN ?_ _|with_reducible refine Q.drew ?_|with_reducible refine Q.alloc ?_ _|with_reducible refine Q.setCell ?_ (by simp) _)))).mono ?_;rintro e w2 h2;obtain ⟨k,m,t,bb,er,a1,l1,c1,a2,l2,c2,rfl,q2,r2⟩:=h2.inY;have Q2:=hid q2;have R2:=hid r2;clear h2 q2 r2;have Z2w:=hid (HZ.out.on Q2.out (by omega));have Z2:=hid ((HZ.out.on Q2.out (by omega)).on ((Qx.refl p _).alloc (.cells #[.int .i64 k,.int .i64 m,.string t,.bool bb,.int .i64 er,.slice a1 l1 c1,.slice a2 l2 c2] 26)) (by omega));have hs2:W.heap.size<w2.heap.size:=(by have:=Q2.out.size;simp at this;omega);have E2:=hid (tb_new w2 (.int .i64 k) (.int .i64 m) (.string t) (.bool bb) (.int .i64 er) (.slice a1 l1 c1) (.slice a2 l2 c2) 26);have P2:=hid (R2.out.2.on ((Q.refl _).alloc (.cells #[.int .i64 k,.int .i64 m,.string t,.bool bb,.int .i64 er,.slice a1 l1 c1,.slice a2 l2 c2] 26))))
 have d0:=Z2.out.g0;have d1:=Z2.out.g1;have d2:=Z2.out.g2;have d3:=Z2.out.g3;have d4:=Z2.out.g4;have d5:=Z2.out.g5;have d6:=Z2.out.g6;have y0:=Z2.out.f 0;have y1:=Z2.out.f 1;have y2:=Z2.out.f 2;have y3:=Z2.out.f 3;have y4:=Z2.out.f 4;have y5:=Z2.out.f 5;have y6:=Z2.out.f 6;have g0:=Z2w.out.g0;have g1:=Z2w.out.g1;have g2:=Z2w.out.g2;have g3:=Z2w.out.g3;have g4:=Z2w.out.g4;have g5:=Z2w.out.g5;have g6:=Z2w.out.g6;have x0:=Z2w.out.f 0;have x1:=Z2w.out.f 1;have x2:=Z2w.out.f 2;have x3:=Z2w.out.f 3;have x4:=Z2w.out.f 4;have x5:=Z2w.out.f 5;have x6:=Z2w.out.f 6;have hWw:W.heap.size≠w2.heap.size:=by omega
 go_region_with (first|(go_at_call 166;refine (hc.out _ (P2.out.on (by repeat (first|with_reducible exact Q.refl _|with_reducible refine Q.drewN ?_ _|with_reducible refine Q.drew ?_|with_reducible refine Q.alloc ?_ _|with_reducible refine Q.setCell ?_ (by simp) _)))).mono ?_;rintro e9 w5 ⟨rfl,q5,p5⟩;have Q5:Hid (Qx p (w2.alloc (.cells #[.int .i64 k,.int .i64 m,.string t,.bool bb,.int .i64 er,.slice a1 l1 c1,.slice a2 l2 c2] 26)) w5):=hid (Qx.trans (by repeat (first|with_reducible exact Qx.refl _ _|with_reducible refine Qx.drewN ?_ _|with_reducible refine Qx.drew ?_|with_reducible refine Qx.alloc ?_ _|with_reducible refine Qx.own ?_ _ _|with_reducible refine Qx.new ?_ (by simp) _ _)) q5);have P5:=hid p5;have E5:=hid (E2.out.on Q5.out (by omega));have Z5:=hid (Z2.out.on Q5.out (by omega));clear q5 p5;have e0:=Z5.out.g0;have e1:=Z5.out.g1;have e2:=Z5.out.g2;have e3:=Z5.out.g3;have e4:=Z5.out.g4;have e5:=Z5.out.g5;have e6:=Z5.out.g6;have r0:=Z5.out.f 0;have r1:=Z5.out.f 1;have r2:=Z5.out.f 2;have r3:=Z5.out.f 3;have r4:=Z5.out.f 4;have r5:=Z5.out.f 5;have r6:=Z5.out.f 6;have n0:=E5.out.g0;have n1:=E5.out.g1;have n2:=E5.out.g2;have n3:=E5.out.g3;have n4:=E5.out.g4;have n5:=E5.out.g5;have n6:=E5.out.g6))
 all_goals go_wp2_with fail
 all_goals refine bodyPost_ret (v:=.tuple #[.agg #[.int .i64 k,.int .i64 m,.string t,.bool bb,.int .i64 er,.slice a1 l1 c1,.slice a2 l2 c2],.bool true]) (by simp [results,Tryz.results184,go_sem,e0,e1,e2,e3,e4,e5,e6]) rfl ?_
 all_goals exact finP (some (x,j+1)) k m t bb er a1 l1 c1 a2 l2 c2 hlt hbW ((((Qx.refl p W).alloc _).trans Q2.out).alloc _ |>.trans Q5.out) (fun x' j' e=>by cases e;exact ⟨Rdg.on Q5.out (fun b hb=>by omega) _ _ (Rdg.on ((Qx.refl p _).alloc _) (fun b hb=>by omega) _ _ (Rdg.mono (fun b hb=>by simp at hb;omega) _ _ R2.out.1)),P5.out⟩)
theorem pbrack_no(L:List Wd)(p b off cap i:Nat)(W:World)(h:PT W p L b off cap i)(hi:i<L.length)(hr:L.length≤50000)(x:Ex)(j:Nat)(hj:j<L.length)(hw:isW L j [41]=false)(HT:Hid (∀ W1,PT W1 p L b off cap i→Calls Tryz.prog 108 #[.pointer (some ⟨p,0,none⟩),.int .i64 1] W1 fun e W'=>RepP p L b off cap W1 (some (x,j)) e W')) :
  Calls Tryz.prog 184 #[.pointer (some ⟨p,0,none⟩)] W fun e W'=>RepP p L b off cap W none e W':=by
 have hlt:=h.lt;have hbW:=h.blk i hi;have HP:=hid h;have HZ:=hid (tb_new W (.int .i64 0) (.int .i64 0) (.string ⟨#[]⟩) (.bool false) (.int .i64 0) (.slice none 0 0) (.slice none 0 0) 26);have hc:=hid (fun W1 (g:PT W1 p L b off cap j)=>ptake_any W1 p L b off cap j ⟨#[41]⟩ g hj hr (by simp))
 rw [show (⟨#[41]⟩:ByteArray).data.toList=[41] from rfl,hw]at hc
 clear h;go_enter Tryz.func184,Tryz.ntmps184
 go_wp2_with (go_at_call 108;refine (HT.out _ (HP.out.on (by repeat (first|with_reducible exact Q.refl _|with_reducible refine Q.drewN ?_ _|with_reducible refine Q.drew ?_|with_reducible refine Q.alloc ?_ _|with_reducible refine Q.setCell ?_ (by simp) _)))).mono ?_;rintro e w2 h2;obtain ⟨k,m,t,bb,er,a1,l1,c1,a2,l2,c2,rfl,q2,r2⟩:=h2.inY;have Q2:=hid q2;have R2:=hid r2;clear h2 q2 r2;have Z2w:=hid (HZ.out.on Q2.out (by omega));have Z2:=hid ((HZ.out.on Q2.out (by omega)).on ((Qx.refl p _).alloc (.cells #[.int .i64 k,.int .i64 m,.string t,.bool bb,.int .i64 er,.slice a1 l1 c1,.slice a2 l2 c2] 26)) (by omega));have hs2:W.heap.size<w2.heap.size:=(by have:=Q2.out.size;simp at this;omega);have E2:=hid (tb_new w2 (.int .i64 k) (.int .i64 m) (.string t) (.bool bb) (.int .i64 er) (.slice a1 l1 c1) (.slice a2 l2 c2) 26);have P2:=hid (R2.out.2.on ((Q.refl _).alloc (.cells #[.int .i64 k,.int .i64 m,.string t,.bool bb,.int .i64 er,.slice a1 l1 c1,.slice a2 l2 c2] 26))))
 have d0:=Z2.out.g0;have d1:=Z2.out.g1;have d2:=Z2.out.g2;have d3:=Z2.out.g3;have d4:=Z2.out.g4;have d5:=Z2.out.g5;have d6:=Z2.out.g6;have y0:=Z2.out.f 0;have y1:=Z2.out.f 1;have y2:=Z2.out.f 2;have y3:=Z2.out.f 3;have y4:=Z2.out.f 4;have y5:=Z2.out.f 5;have y6:=Z2.out.f 6;have g0:=Z2w.out.g0;have g1:=Z2w.out.g1;have g2:=Z2w.out.g2;have g3:=Z2w.out.g3;have g4:=Z2w.out.g4;have g5:=Z2w.out.g5;have g6:=Z2w.out.g6;have x0:=Z2w.out.f 0;have x1:=Z2w.out.f 1;have x2:=Z2w.out.f 2;have x3:=Z2w.out.f 3;have x4:=Z2w.out.f 4;have x5:=Z2w.out.f 5;have x6:=Z2w.out.f 6;have hWw:W.heap.size≠w2.heap.size:=by omega
 go_region_with (first|(go_at_call 166;refine (hc.out _ (P2.out.on (by repeat (first|with_reducible exact Q.refl _|with_reducible refine Q.drewN ?_ _|with_reducible refine Q.drew ?_|with_reducible refine Q.alloc ?_ _|with_reducible refine Q.setCell ?_ (by simp) _)))).mono ?_;rintro e9 w5 ⟨rfl,q5,p5⟩;have Q5:Hid (Qx p (w2.alloc (.cells #[.int .i64 k,.int .i64 m,.string t,.bool bb,.int .i64 er,.slice a1 l1 c1,.slice a2 l2 c2] 26)) w5):=hid (Qx.trans (by repeat (first|with_reducible exact Qx.refl _ _|with_reducible refine Qx.drewN ?_ _|with_reducible refine Qx.drew ?_|with_reducible refine Qx.alloc ?_ _|with_reducible refine Qx.own ?_ _ _|with_reducible refine Qx.new ?_ (by simp) _ _)) q5);have P5:=hid p5;have E5:=hid (E2.out.on Q5.out (by omega));have Z5:=hid (Z2.out.on Q5.out (by omega));clear q5 p5;have e0:=Z5.out.g0;have e1:=Z5.out.g1;have e2:=Z5.out.g2;have e3:=Z5.out.g3;have e4:=Z5.out.g4;have e5:=Z5.out.g5;have e6:=Z5.out.g6;have r0:=Z5.out.f 0;have r1:=Z5.out.f 1;have r2:=Z5.out.f 2;have r3:=Z5.out.f 3;have r4:=Z5.out.f 4;have r5:=Z5.out.f 5;have r6:=Z5.out.f 6;have n0:=E5.out.g0;have n1:=E5.out.g1;have n2:=E5.out.g2;have n3:=E5.out.g3;have n4:=E5.out.g4;have n5:=E5.out.g5;have n6:=E5.out.g6))
 all_goals go_wp2_with fail
 all_goals refine bodyPost_ret (v:=.tuple #[.agg #[.int .i64 k,.int .i64 m,.string t,.bool bb,.int .i64 er,.slice a1 l1 c1,.slice a2 l2 c2],.bool false]) (by simp [results,Tryz.results184,go_sem,e0,e1,e2,e3,e4,e5,e6]) rfl ?_
 all_goals exact finP none k m t bb er a1 l1 c1 a2 l2 c2 hlt hbW ((((Qx.refl p W).alloc _).trans Q2.out).alloc _ |>.trans Q5.out) (fun x' j' e=>by cases e)
theorem errN_min{t:List UInt8}(h:errN t≠0):1≤errN t∧errN t≤7∧enL (errN t:Int)=t∧∀ e:Nat,1≤e→e<errN t→enL (e:Int)≠t:=by
 by_cases h1:t=enL 1
 ·have e:errN t=1:=by unfold errN;rw [if_pos h1]
  rw [e];exact ⟨by omega,by omega,h1.symm,fun e a b=>by omega⟩
 ·by_cases h2:t=enL 2
  ·have e:errN t=2:=by unfold errN;rw [if_neg h1,if_pos h2]
   rw [e];refine ⟨by omega,by omega,h2.symm,fun e a b=>?_⟩
   have:e=1:=by omega
   subst this;exact fun x=>h1 x.symm
  ·by_cases h3:t=enL 3
   ·have e:errN t=3:=by unfold errN;rw [if_neg h1,if_neg h2,if_pos h3]
    rw [e];refine ⟨by omega,by omega,h3.symm,fun e a b=>?_⟩
    have:e=1∨e=2:=by omega
    rcases this with rfl|rfl
    ·exact fun x=>h1 x.symm
    ·exact fun x=>h2 x.symm
   ·by_cases h4:t=enL 4
    ·have e:errN t=4:=by unfold errN;rw [if_neg h1,if_neg h2,if_neg h3,if_pos h4]
     rw [e];refine ⟨by omega,by omega,h4.symm,fun e a b=>?_⟩
     have:e=1∨e=2∨e=3:=by omega
     rcases this with rfl|rfl|rfl
     ·exact fun x=>h1 x.symm
     ·exact fun x=>h2 x.symm
     ·exact fun x=>h3 x.symm
    ·by_cases h5:t=enL 5
     ·have e:errN t=5:=by unfold errN;rw [if_neg h1,if_neg h2,if_neg h3,if_neg h4,if_pos h5]
      rw [e];refine ⟨by omega,by omega,h5.symm,fun e a b=>?_⟩
      have:e=1∨e=2∨e=3∨e=4:=by omega
      rcases this with rfl|rfl|rfl|rfl
      ·exact fun x=>h1 x.symm
      ·exact fun x=>h2 x.symm
      ·exact fun x=>h3 x.symm
      ·exact fun x=>h4 x.symm
     ·by_cases h6:t=enL 6
      ·have e:errN t=6:=by unfold errN;rw [if_neg h1,if_neg h2,if_neg h3,if_neg h4,if_neg h5,if_pos h6]
       rw [e];refine ⟨by omega,by omega,h6.symm,fun e a b=>?_⟩
       have:e=1∨e=2∨e=3∨e=4∨e=5:=by omega
       rcases this with rfl|rfl|rfl|rfl|rfl
       ·exact fun x=>h1 x.symm
       ·exact fun x=>h2 x.symm
       ·exact fun x=>h3 x.symm
       ·exact fun x=>h4 x.symm
       ·exact fun x=>h5 x.symm
      ·by_cases h7:t=enL 7
       ·have e:errN t=7:=by unfold errN;rw [if_neg h1,if_neg h2,if_neg h3,if_neg h4,if_neg h5,if_neg h6,if_pos h7]
        rw [e];refine ⟨by omega,by omega,h7.symm,fun e a b=>?_⟩
        have:e=1∨e=2∨e=3∨e=4∨e=5∨e=6:=by omega
        rcases this with rfl|rfl|rfl|rfl|rfl|rfl
        ·exact fun x=>h1 x.symm
        ·exact fun x=>h2 x.symm
        ·exact fun x=>h3 x.symm
        ·exact fun x=>h4 x.symm
        ·exact fun x=>h5 x.symm
        ·exact fun x=>h6 x.symm
       ·exact absurd (by unfold errN;rw [if_neg h1,if_neg h2,if_neg h3,if_neg h4,if_neg h5,if_neg h6,if_neg h7]) h
structure EI (L:List Wd) (p b off cap:Nat) (s:St) (W:World) (T:ByteArray) (q:Int) (W':World):Prop where
 qx:Qx p W W'
 st:PS W' p L b off cap (s.i+1) s.bd s.n
 zb:Tb W' W.heap.size (.int .i64 0) (.int .i64 0) (.string ⟨#[]⟩) (.bool false) (.int .i64 0) (.slice none 0 0) (.slice none 0 0)
 wb:Wb W' (W.heap.size+1) (.int .i64 5) (.string T) (.int .i64 q)
theorem EI.on{L:List Wd}{p b off cap:Nat}{s:St}{W:World}{T:ByteArray}{q:Int}{W' W2:World}(h:EI L p b off cap s W T q W')(hp:p<W.heap.size)(x:Q W' W2):EI L p b off cap s W T q W2:=
 ⟨h.qx.trans (Qx.of x),h.st.on x,h.zb.on (Qx.of (p:=p) x) (by omega),h.wb.on (Qx.of (p:=p) x) (by omega)⟩
theorem first_err(L:List Wd)(p b off cap:Nat)(s:St)(W:World)(h:PS W p L b off cap s.i s.bd s.n)(hi:s.i<L.length)(hr:L.length≤50000)(hn:s.n≤s.i)(hw:isW L s.i [40]=false)(hk:kAt L s.i=5)(he:errN (tAt L s.i)≠0) :
  Calls Tryz.prog 105 #[.pointer (some ⟨p,0,none⟩)] W fun e W'=>Rep p L b off cap W (errE (errN (tAt L s.i)),s.on.node) e W':=by
 have hlt:=h.lt;have hbW:=h.blk hi;obtain ⟨T,q,hT,kw⟩:=h.kw hi;have HTT:=hid hT;have HK:=hid kw;rw [hk]at HK;have HM:=hid (errN_min he);have hm1:=HM.out.1;have hm7:=HM.out.2.1;generalize hM:errN (tAt L s.i)=M at HM hm1 hm7 he ⊢;have HP:=hid h;have hroom:(s.i:Int)+1≤9223372036854775807:=by omega
 have HZ:=hid ((tb_new W (.int .i64 0) (.int .i64 0) (.string ⟨#[]⟩) (.bool false) (.int .i64 0) (.slice none 0 0) (.slice none 0 0) 26).on (((Qx.refl p _).alloc (.cells #[.int .i64 5,.string T,.int .i64 q] 74)).drew) (by omega))
 have HB:=hid ((wb_new (W.alloc (.cells #[.int .i64 0,.int .i64 0,.string ⟨#[]⟩,.bool false,.int .i64 0,.slice none 0 0,.slice none 0 0] 26)) (.int .i64 5) (.string T) (.int .i64 q) 74).on ((Qx.refl p _).drew) (by simp;omega))
 rw [show (W.alloc (.cells #[.int .i64 0,.int .i64 0,.string ⟨#[]⟩,.bool false,.int .i64 0,.slice none 0 0,.slice none 0 0] 26)).heap.size=W.heap.size+1 by simp]at HB
 have hc:=hid (fun W1 (g:PS W1 p L b off cap s.i s.bd s.n)=>take_any W1 p L b off cap s.i s.bd s.n ⟨#[40]⟩ g hi)
 rw [show (⟨#[40]⟩:ByteArray).data.toList=[40] from rfl,hw]at hc
 clear h kw hT;go_enter Tryz.func105,Tryz.ntmps105
 go_wp2_with fail
 go_region_held3 (fun V=>V.cell? ⟨p,0,none⟩=some (.slice (some ⟨b,off,none⟩) L.length cap)∧V.cell? ⟨p,1,none⟩=some (.int .i64 (s.i:Int))∧V.cell? ⟨b,off+s.i*3,none⟩=some (.int .i64 5)∧V.cell? ⟨b,off+s.i*3+1,none⟩=some (.string T)∧V.cell? ⟨b,off+s.i*3+2,none⟩=some (.int .i64 q)) (exact HK.out.on (by repeat (first|exact Q.refl _|refine Q.drewN ?_ _|refine Q.drew ?_|refine Q.alloc ?_ _|refine Q.setCell ?_ (by simp) _))) (fail)
 go_wp2_with (go_at_call 104;refine (hc.out _ (HP.out.on (by repeat (first|exact Q.refl _|refine Q.drewN ?_ _|refine Q.drew ?_|refine Q.alloc ?_ _|refine Q.setCell ?_ (by simp) _)))).mono ?_;rintro e w1 ⟨rfl,q1,p1⟩;have Q1:Hid (Qx p W w1):=hid (Qx.trans (by repeat (first|with_reducible exact Qx.refl _ _|with_reducible refine Qx.drewN ?_ _|with_reducible refine Qx.drew ?_|with_reducible refine Qx.alloc ?_ _|with_reducible refine Qx.own ?_ _ _|with_reducible refine Qx.new ?_ (by simp) _ _)) q1);have P1:=hid p1;have Z1:=hid (HZ.out.on q1 (by omega));have B1:=hid (HB.out.on q1 (by omega));have hsw:W.heap.size+1<w1.heap.size:=World.block_lt_of_cell? w1 ⟨W.heap.size+1,0,none⟩ B1.out.g0;clear q1 p1;have x1:=P1.out.c1;have z1:=P1.out.f1;have b0:=B1.out.g0;have b1:=B1.out.g1;have b2:=B1.out.g2)
 have HI:Hid (EI L p b off cap s W T q (w1.setCell ⟨p,1,none⟩ (.int .i64 ((s.i:Int)+1)))):=hid ⟨Q1.out.own _ _,P1.out.set1 (s.i+1) _ (by omega),Z1.out.on ((Qx.refl p _).own _ _) (by omega),B1.out.on ((Qx.refl p _).own _ _) (by omega)⟩
 go_loopw [7] (fun y W'=>∃ e:Nat,1≤e∧e≤M∧y=.int .i64 (e:Int)∧EI L p b off cap s W T q W') (fun y _=>M-(intOf y).toNat)
 case atStart=>exact ⟨1,by omega,by omega,rfl,HI.out⟩
 case round=>
  obtain ⟨e,he1,heM,rfl,hI⟩:=hrel;have HI2:=hid hI;have he7:(e:Int)≤7:=by omega
  have H1:=hid (fun W1=>V.rname_any (e:Int) W1)
  obtain ⟨N,hN,lN⟩:∃ N:ByteArray,⟨(enL (e:Int)).toArray⟩=N∧N.data.toList=enL (e:Int):=⟨_,rfl,rfl⟩;rw [hN]at H1;by_cases hlt2:e<M
  ·have e7:(N.toList == T.toList)=false:=by rw [toL,toL,lN,beq_eq_false_iff_ne,HTT.out];exact HM.out.2.2.2 e he1 hlt2
   clear hI hN lN;go_wp2_with fail
   go_region_held3 (fun V=>V.cell? ⟨W.heap.size+1,1,none⟩=some (.string T)) (first|exact HI5.out.wb.g1|exact (HI2.out.on hlt (by repeat (first|exact Q.refl _|refine Q.drewN ?_ _|refine Q.drew ?_|refine Q.alloc ?_ _|refine Q.setCell ?_ (by simp) _))).wb.g1) (first|(go_at_call 33;refine (H1.out _).mono ?_;rintro e9 w5 ⟨rfl,q5⟩;have HI5:=hid ((HI2.out.on hlt (by repeat (first|exact Q.refl _|refine Q.drewN ?_ _|refine Q.drew ?_|refine Q.alloc ?_ _|refine Q.setCell ?_ (by simp) _))).on hlt q5);clear q5))
   all_goals go_wp2_with fail
   all_goals go_roundw
   case rel=>exact ⟨e+1,by omega,by omega,by go_num,HI5.out⟩
   case measure=>simp [intOf];omega
  ·have eM:e=M:=by omega
   have e7:(N.toList == T.toList)=true:=by rw [toL,toL,lN,beq_iff_eq,HTT.out,eM];exact HM.out.2.2.1
   have EM:=hid eM;clear hI hN lN hlt2 eM;go_wp2_with fail
   go_region_held3 (fun V=>V.cell? ⟨W.heap.size+1,1,none⟩=some (.string T)) (first|exact HI5.out.wb.g1|exact (HI2.out.on hlt (by repeat (first|exact Q.refl _|refine Q.drewN ?_ _|refine Q.drew ?_|refine Q.alloc ?_ _|refine Q.setCell ?_ (by simp) _))).wb.g1) (first|(go_at_call 33;refine (H1.out _).mono ?_;rintro e9 w5 ⟨rfl,q5⟩;have HI5:=hid ((HI2.out.on hlt (by repeat (first|exact Q.refl _|refine Q.drewN ?_ _|refine Q.drew ?_|refine Q.alloc ?_ _|refine Q.setCell ?_ (by simp) _))).on hlt q5);clear q5))
   all_goals go_wp2_with (go_at_call 74;refine (node_any _ p L b off cap _ _ _ HI5.out.st (by omega) 4 0 ⟨#[]⟩ false (e:Int) none 0 0 none 0 0).mono ?_;rintro e9 w3 ⟨rfl,q3,p3⟩;have Q3:=hid q3;have P3:=hid p3;have Z3:=hid (HI5.out.zb.on Q3.out (by omega));clear q3 p3;have d0:=Z3.out.g0;have d1:=Z3.out.g1;have d2:=Z3.out.g2;have d3:=Z3.out.g3;have d4:=Z3.out.g4;have d5:=Z3.out.g5;have d6:=Z3.out.g6;have y0:=Z3.out.f 0;have y1:=Z3.out.f 1;have y2:=Z3.out.f 2;have y3:=Z3.out.f 3;have y4:=Z3.out.f 4;have y5:=Z3.out.f 5;have y6:=Z3.out.f 6)
   all_goals refine bodyPost_ret (v:=.agg #[.int .i64 4,.int .i64 0,.string ⟨#[]⟩,.bool false,.int .i64 (e:Int),.slice none 0 0,.slice none 0 0]) (by simp [results,Tryz.results105,go_sem,d0,d1,d2,d3,d4,d5,d6]) rfl ?_
   all_goals rw [←EM.out]
   all_goals exact fin7 (s':=s.on.node) 4 0 ⟨#[]⟩ false (e:Int) none 0 0 none 0 0 hlt hbW (HI5.out.qx.trans Q3.out) (rdg_leaf 4 0 [] ⟨#[]⟩ rfl false (e:Int)) P3.out
theorem ptruth_any(s:ByteArray)(w:World):Calls Tryz.prog 150 #[.string s] w fun e w'=>e=.returned (.bool (decide (s.data.toList=truW∨s.data.toList=flsW)))∧w'=w:=by
 have et:=hid (toL s);by_cases h1:s.data.toList=truW
 ·have f1:(s.toList == [84,82,85,69])=true:=by rw [et.out,h1];rfl
  have HR:Hid (decide (s.data.toList=truW∨s.data.toList=flsW)=true):=by show _=_;exact decide_eq_true (.inl h1)
  generalize decide (s.data.toList=truW∨s.data.toList=flsW)=r at HR ⊢;clear et h1;go_enter Tryz.func150,Tryz.ntmps150
  go_wp2
  go_ret
  exact ⟨ret_bool HR.out.symm,rfl⟩
 ·have f1:(s.toList == [84,82,85,69])=false:=by rw [et.out,beq_eq_false_iff_ne];exact h1
  by_cases h2:s.data.toList=flsW
  ·have f2:(s.toList == [70,65,76,83,69])=true:=by rw [et.out,h2];rfl
   have HR:Hid (decide (s.data.toList=truW∨s.data.toList=flsW)=true):=by show _=_;exact decide_eq_true (.inr h2)
   generalize decide (s.data.toList=truW∨s.data.toList=flsW)=r at HR ⊢;clear et h1 h2;go_enter Tryz.func150,Tryz.ntmps150
   go_wp2
   go_ret
   exact ⟨ret_bool HR.out.symm,rfl⟩
  ·have f2:(s.toList == [70,65,76,83,69])=false:=by rw [et.out,beq_eq_false_iff_ne];exact h2
   have HR:Hid (decide (s.data.toList=truW∨s.data.toList=flsW)=false):=by show _=_;exact decide_eq_false (fun e=>e.elim h1 h2)
   generalize decide (s.data.toList=truW∨s.data.toList=flsW)=r at HR ⊢;clear et h1 h2;go_enter Tryz.func150,Tryz.ntmps150
   go_wp2
   go_ret
   exact ⟨ret_bool HR.out.symm,rfl⟩
theorem errof_any(T:ByteArray)(t:List UInt8)(hT:T.data.toList=t)(w:World)(hw:Std w)(he:errN t≠0):Calls Tryz.prog 185 #[.string T] w fun e w'=>e=.returned (.int .i64 (errN t:Int))∧Q w w':=by
 have HM:=hid (errN_min he);have hm1:=HM.out.1;have hm7:=HM.out.2.1;have HTT:=hid hT;generalize hM:errN t=M at HM hm1 hm7 he ⊢;have HNm:=hid hw.nam;clear hw hT hM he;go_enter Tryz.func185,Tryz.ntmps185
 go_wp2
 go_loop [3] (fun y=>∃ e:Nat,1≤e∧e≤M∧y=.int .i64 (e:Int)) (fun y=>8-(intOf y).toNat)
 case atStart=>exact ⟨1,by omega,by omega,rfl⟩
 case round=>
  obtain ⟨e,he1,heM,rfl⟩:=hrel;have H1:=hid (V.name_any (e:Int) w HNm.out);obtain ⟨N,hN,lN⟩:∃ N:ByteArray,⟨(enL (e:Int)).toArray⟩=N∧N.data.toList=enL (e:Int):=⟨_,rfl,rfl⟩;rw [hN]at H1;by_cases h7:(e:Int)<7
  ·by_cases hlt2:e<M
   ·have e7:(N.toList == T.toList)=false:=by rw [toL,toL,lN,beq_eq_false_iff_ne,HTT.out];exact HM.out.2.2.2 e he1 hlt2
    clear hN lN;go_wp2_with (go_at_call 82;refine H1.out.mono ?_;rintro e9 w9 ⟨rfl,h9⟩;replace h9:=h9.symm;subst h9)
    go_round
    case rel=>exact ⟨e+1,by omega,by omega,by go_num⟩
    case measure=>simp [intOf];omega
   ·have eM:e=M:=by omega
    have e7:(N.toList == T.toList)=true:=by rw [toL,toL,lN,beq_iff_eq,HTT.out,eM];exact HM.out.2.2.1
    have EM:=hid eM;clear hN lN hlt2 eM;go_wp2_with (go_at_call 82;refine H1.out.mono ?_;rintro e9 w9 ⟨rfl,h9⟩;replace h9:=h9.symm;subst h9)
    go_ret
    exact ⟨ret_int (by rw [EM.out]),Q.refl _⟩
  ·have eM:M=7:=by omega
   have EM:=hid eM;clear hN lN eM;go_wp2_with fail
   go_ret
   exact ⟨ret_int (by rw [EM.out];rfl),Q.refl _⟩
theorem mayname_any(s:ByteArray)(w:World)(hs:s.size≤4000000000):Calls Tryz.prog 126 #[.string s] w fun e w'=>e=.returned (.bool (namF s.data.toList))∧w'=w:=by
 have hl:=len_data s;by_cases h0:s.size=0
 ·have HR:Hid (namF s.data.toList=false):=by show _=_;unfold namF;rw [hl,h0];rfl
  have e0:((s.size:Int) == 0)=true:=by rw [h0];rfl
  generalize namF s.data.toList=r at HR ⊢;clear hl;go_enter Tryz.func126,Tryz.ntmps126
  go_wp2_with fail
  go_ret
  exact ⟨ret_bool HR.out.symm,rfl⟩
 ·have e0:((s.size:Int) == 0)=false:=by rw [beq_eq_false_iff_ne];omega
  by_cases h20:(20:Int)<(s.size:Int)
  ·have HR:Hid (namF s.data.toList=false):=by show _=_;unfold namF;rw [hl,decide_eq_false (show ¬ s.size≤20 by omega)];simp
   generalize namF s.data.toList=r at HR ⊢;clear hl h0;go_enter Tryz.func126,Tryz.ntmps126
   go_wp2_with fail
   go_ret
   exact ⟨ret_bool HR.out.symm,rfl⟩
  ·have HT:=hid (ptruth_any s w)
   by_cases htr:s.data.toList=truW∨s.data.toList=flsW
   ·rw [decide_eq_true htr]at HT
    have HR:Hid (namF s.data.toList=false):=by show _=_;unfold namF;rw [decide_eq_false (show ¬ ¬ (s.data.toList=truW∨s.data.toList=flsW) from fun e=>e htr)];simp
    generalize namF s.data.toList=r at HR ⊢;clear hl h0 htr;go_enter Tryz.func126,Tryz.ntmps126
    go_wp2_with (go_at_call 150;refine HT.out.mono ?_;rintro e9 w9 ⟨rfl,h9⟩;replace h9:=h9.symm;subst h9)
    go_ret
    exact ⟨ret_bool HR.out.symm,rfl⟩
   ·rw [decide_eq_false htr]at HT
    have HR:Hid (namF s.data.toList=allL s.data.toList):=by
     show _=_
     unfold namF allL
     rw [hl,decide_eq_true (show 0<s.size by omega),decide_eq_true (show s.size≤20 by omega),decide_eq_true htr]
     simp
    generalize namF s.data.toList=r at HR ⊢;clear hl h0 htr;go_enter Tryz.func126,Tryz.ntmps126
    go_wp2_with (go_at_call 150;refine HT.out.mono ?_;rintro e9 w9 ⟨rfl,h9⟩;replace h9:=h9.symm;subst h9)
    go_loop [18,3] (fun i _=>∃ k:Nat,k≤s.size∧i=.int .i64 k∧Hid (allL (s.data.toList.take k)=true)) (fun i _=>s.size-(intOf i).toNat)
    case atStart=>exact ⟨0,Nat.zero_le _,rfl,rfl⟩
    case round=>
     obtain ⟨k,hk,rfl,ha⟩:=hrel;by_cases hlt:k<s.size
     ·by_cases hd:let1 s[k]=true
      ·have ha':Hid (allL (s.data.toList.take (k+1))=true):=by
        show _=_
        have:=ha.out
        rw [take_snoc s k hlt,allL_app,this];unfold allL
        simp [hd]
       have b0:¬ (s[k].toNat:Int)<65:=by unfold let1 at hd;simp at hd;omega
       have b1:¬ 90<(s[k].toNat:Int):=by unfold let1 at hd;simp at hd;omega
       clear hd;go_wp2_with fail
       go_round
       case rel=>exact ⟨k+1,by omega,by go_num,ha'⟩
       case measure=>simp [intOf];omega
      ·have hN:=hid (allL_no s k hlt (by simpa using hd))
       by_cases b0:(s[k].toNat:Int)<65
       ·clear hd
        go_wp2_with fail
        go_ret
        exact ⟨ret_bool (by rw [HR.out,hN.out]),rfl⟩
       ·have b1:90<(s[k].toNat:Int):=by unfold let1 at hd;simp at hd;omega
        clear hd;go_wp2_with fail
        go_ret
        exact ⟨ret_bool (by rw [HR.out,hN.out]),rfl⟩
     ·have hN:Hid (allL s.data.toList=true):=by
       show _=_
       have:=ha.out
       rw [take_all s k (by omega)]at this
       exact this
      go_wp2_with fail
      go_ret
      exact ⟨ret_bool (by rw [HR.out,hN.out]),rfl⟩
theorem pfirst_paren(L:List Wd)(p b off cap i:Nat)(W:World)(h:PT W p L b off cap i)(hi:i<L.length)(hr:L.length≤50000)(hw:isW L i [40]=true)(o:Option (Ex × Nat))(HT:Hid (∀ W1,PT W1 p L b off cap (i+1)→Calls Tryz.prog 184 #[.pointer (some ⟨p,0,none⟩)] W1 fun e W'=>RepP p L b off cap W1 o e W')) :
  Calls Tryz.prog 167 #[.pointer (some ⟨p,0,none⟩)] W fun e W'=>RepP p L b off cap W o e W':=by
 have hlt:=h.lt;have hbW:=h.blk i hi;have HP:=hid h;have HZ:=hid (tb_new W (.int .i64 0) (.int .i64 0) (.string ⟨#[]⟩) (.bool false) (.int .i64 0) (.slice none 0 0) (.slice none 0 0) 26);have hc:=hid (fun W1 (g:PT W1 p L b off cap i)=>ptake_any W1 p L b off cap i ⟨#[40]⟩ g hi hr (by simp))
 rw [show (⟨#[40]⟩:ByteArray).data.toList=[40] from rfl,hw]at hc
 clear h;go_enter Tryz.func167,Tryz.ntmps167
 go_wp2_with (first|(go_at_call 166;refine (hc.out _ (HP.out.on (by repeat (first|with_reducible exact Q.refl _|with_reducible refine Q.drewN ?_ _|with_reducible refine Q.drew ?_|with_reducible refine Q.alloc ?_ _|with_reducible refine Q.setCell ?_ (by simp) _)))).mono ?_;rintro e w1 ⟨rfl,q1,p1⟩;have Q1:Hid (Qx p W w1):=hid (Qx.trans (by repeat (first|with_reducible exact Qx.refl _ _|with_reducible refine Qx.drewN ?_ _|with_reducible refine Qx.drew ?_|with_reducible refine Qx.alloc ?_ _|with_reducible refine Qx.own ?_ _ _|with_reducible refine Qx.new ?_ (by simp) _ _)) q1);have P1:=hid p1;have Z1:=hid (HZ.out.on q1 (by omega));have hsw:W.heap.size<w1.heap.size:=World.block_lt_of_cell? w1 ⟨W.heap.size,0,none⟩ Z1.out.g0;clear q1 p1)|(go_at_call 184;refine (HT.out _ P1.out).mono ?_;rintro e w2 h2;obtain ⟨k,m,t,bb,er,a1,l1,c1,a2,l2,c2,rfl,q2,r2⟩:=h2.in;have Q2:=hid q2;have R2:=hid r2;clear h2 q2 r2;have Z2:=hid (Z1.out.on Q2.out (by omega));have d0:=Z2.out.g0;have d1:=Z2.out.g1;have d2:=Z2.out.g2;have d3:=Z2.out.g3;have d4:=Z2.out.g4;have d5:=Z2.out.g5;have d6:=Z2.out.g6;have y0:=Z2.out.f 0;have y1:=Z2.out.f 1;have y2:=Z2.out.f 2;have y3:=Z2.out.f 3;have y4:=Z2.out.f 4;have y5:=Z2.out.f 5;have y6:=Z2.out.f 6))
 refine bodyPost_ret (v:=.tuple #[.agg #[.int .i64 k,.int .i64 m,.string t,.bool bb,.int .i64 er,.slice a1 l1 c1,.slice a2 l2 c2],.bool o.isSome]) (by simp [results,Tryz.results167,go_sem,d0,d1,d2,d3,d4,d5,d6]) rfl ?_
 exact finP o k m t bb er a1 l1 c1 a2 l2 c2 hlt hbW (Q1.out.trans Q2.out) (fun x j e=>⟨Rdg.mono (fun b hb=>by omega) _ _ (R2.out x j e).1,(R2.out x j e).2⟩)
end Go.Proofs.YtgheopdadfnilaaGreatDoor
