/- counterpaneref5.may, MayExpr a. -/
import Derived.Test.YtoikodohcieipaaGreatDoorKh42
import Derived.Test.YtoikodohcieipaaGreatDoorKh39
set_option linter.unusedVariables false
set_option linter.unusedSimpArgs false
set_option maxRecDepth 100000
set_option maxHeartbeats 8000000
namespace Go.Proofs.YtoikodohcieipaaGreatDoor
open Go.RowKit
theorem mre_of{W:World}(x:Rf)(hs:x.1.length≤2000000):MRe W x:=by
 intro V q
 exact rmay_any ⟨x.1.toArray⟩ x.2.1 x.2.2.1 x.2.2.2.1 x.2.2.2.2 V (by show x.1.toArray.size≤4000000000;simp;omega)
theorem bare_leaf(ok:Bool)(n:Int)(t:List UInt8)(b:Bool)(e:Int)(l1:Nat)(ks:List Ex)(d:Nat):((ok&&bareB n t b e l1 ks.length)&&rm.rmL ks d)=(ok&&bareB n t b e l1 ks.length):=by
 cases h:bareB n t b e l1 ks.length
 ·rw [Bool.and_false,Bool.false_and]
 ·have:ks=[]:=List.eq_nil_of_length_eq_zero (of_decide_eq_true h).2.2.2.2.2
  subst this;rw [rm.rmL,Bool.and_true]
theorem rmay_all:∀ (s:Nat) (x:Ex) (v:Value) (W:World) (d:Nat),SizeOf.sizeOf x≤s→Sm x→Rd W x v→Calls Tryz.prog 30 #[v,.int .i64 (d:Int)] W fun e W'=>e=.returned (.bool (rm x d))∧Q W W':=by
 intro s
 induction s with
 |zero=>
  intro x v W d hs
  cases x with
  |mk k n t b e rs ks=>simp at hs
 |succ s ih=>
  intro x v W d hsz hs hr
  obtain ⟨k,n,t,b,e,rs,ks,rv',kv,ao,cap,rfl,hp⟩:=hr.prt;obtain ⟨ar,cr,hrv,hl⟩:=hp.rl;have hsl:Sl rf 5 W (.slice ar rs.length cr) rs:=hrv ▸ hp.rl
  have hkl:=hp.kl;subst hkl hrv;have hx:=hp.ex;have hcap:ks.length≤9223372036854775807:=by have h1:=hp.le;have h2:=hp.mx;unfold maxLen at h2;omega
  have HKid:Hid (∀ i (hi:i<ks.length) V,Q W V→∃ b' off c0 c1 c2 c3 c4 c5 c6,ao=some ⟨b',off,none⟩∧Kid V ks[i] b' (off+i*7) c0 c1 c2 c3 c4 c5 c6):=hid (fun i hi V q=>by
   obtain ⟨b',off,ha,hl⟩:=(hp.on q).kd (by intro h;rw [h]at hi;simp at hi)
   obtain ⟨c0,c1,c2,c3,c4,c5,c6,hk⟩:=hl.kid i hi;exact ⟨b',off,c0,c1,c2,c3,c4,c5,c6,ha,hk⟩)
  have hkids:∀ y∈ks,Sm y:=sm_kids k n t.data.toList b e rs ks (hx ▸ hs)
  have IH:Hid (∀ i (hi:i<ks.length) v V,Rd V ks[i] v→Calls Tryz.prog 30 #[v,.int .i64 ((d:Int)+1)] V fun e W'=>e=.returned (.bool (rm ks[i] (d+1)))∧Q V W'):=hid (fun i hi v V hr=>by
   have h1:=kid_size (k:=k) (n:=n) (t:=t.data.toList) (b:=b) (e:=e) (rs:=rs) i hi;rw [←hx]at h1;have:=ih ks[i] v V (d+1) (by omega) (hkids _ (List.getElem_mem hi)) hr
   rw [show ((d+1:Nat):Int)=(d:Int)+1 by omega]at this
   exact this)
  clear ih hr;subst hx;rw [Sm]at hs;obtain ⟨s1,s2,_⟩:=hs;have st:t.size≤1000000:=by rw [←len_data];exact s1
  have hm:Hid (∀ y∈rs,MRe W y):=hid (fun y hy=>mre_of y (s2 y hy))
  rw [rm,mayN];by_cases h1:k=1
  ·subst h1
   rw [if_pos rfl,bare_leaf];exact rn_1 n t b e ar rs.length cr ao ks.length cap W d
  by_cases h2:k=2
  ·subst h2
   rw [if_neg (by decide),if_pos rfl,bare_leaf]
   exact rn_2 n t b e ar rs.length cr ao ks.length cap W d (by omega)
  by_cases h3:k=3
  ·subst h3
   rw [if_neg (by decide),if_neg (by decide),if_pos rfl,bare_leaf]
   exact rn_3 n t b e ar rs.length cr ao ks.length cap W d
  by_cases h4:k=4
  ·subst h4
   rw [if_neg (by decide),if_neg (by decide),if_neg (by decide),if_pos rfl,bare_leaf]
   exact rn_4 n t b e ar rs.length cr ao ks.length cap W d
  by_cases h5:k=5
  ·subst h5
   rw [if_neg (by decide),if_neg (by decide),if_neg (by decide),if_neg (by decide),if_pos rfl,bare_leaf]
   exact rn_5 n t b e ar rs.length cr ao ks.length cap W d rs hsl hm
  by_cases h6:k=6
  ·subst h6
   rw [if_neg (by decide),if_neg (by decide),if_neg (by decide),if_neg (by decide),if_neg (by decide),if_pos rfl,bare_leaf]
   exact rn_6 n t b e ar rs.length cr ao ks.length cap W d rs hsl hm
  by_cases h7:k=7
  ·subst h7
   rw [if_neg (by decide),if_neg (by decide),if_neg (by decide),if_neg (by decide),if_neg (by decide),if_neg (by decide),if_pos rfl]
   exact rn_7 n t b e ar rs.length cr ao ks.length cap W d ks rfl hcap HKid IH
  by_cases h8:k=8
  ·subst h8
   rw [if_neg (by decide),if_neg (by decide),if_neg (by decide),if_neg (by decide),if_neg (by decide),if_neg (by decide),if_neg (by decide),if_pos rfl]
   exact rn_8 n t b e ar rs.length cr ao ks.length cap W d ks rfl hcap HKid IH
  by_cases h9:k=9
  ·subst h9
   rw [if_neg (by decide),if_neg (by decide),if_neg (by decide),if_neg (by decide),if_neg (by decide),if_neg (by decide),if_neg (by decide),if_neg (by decide),if_pos rfl]
   exact rn_9 n t b e ar rs.length cr ao ks.length cap W d (by omega) ks rfl hcap HKid IH
  rw [if_neg h1,if_neg h2,if_neg h3,if_neg h4,if_neg h5,if_neg h6,if_neg h7,if_neg h8,if_neg h9,Bool.false_and,Bool.and_false];exact rn_k k n t b e ar rs.length cr ao ks.length cap W d (by omega)
theorem rcount_any(x:Ex)(v:Value)(W:World)(hr:Rd W x v):Calls Tryz.prog 29 #[v] W fun e W'=>e=.returned (.int .i64 (min (nodes x) 201:Nat))∧Q W W':=by
 have HC:=hid (fun W' (q:Q W W')=>count_any (SizeOf.sizeOf x) x v W' 0 0 0 (Nat.le_refl _) rfl (by omega) (Rd.on q _ _ hr))
 have hn:=cnt_nodes x 0 (by omega)
 rw [Nat.zero_add]at hn;rw [←hn];obtain ⟨k,n,t,b,e,a1,l1,c1,a2,l2,c2,rfl⟩:=hr.shape;obtain ⟨c,hc⟩:∃ c,cnt x 0=c:=⟨_,rfl⟩;rw [hc]at HC ⊢;clear hn hc hr;by_cases h:200<c
 ·have h':(200:Int)<(c:Int):=by omega
  have HR:Hid (min c 201=201):=by show _=_;omega
  go_enter Tryz.func29,Tryz.ntmps29
  go_wp2_with (go_at_call 54;refine (HC.out _ ((Q.refl _).alloc _)).mono ?_;rintro e9 w1 ⟨rfl,q1⟩;have Q1:Hid (Q W w1):=hid (((Q.refl _).alloc _).trans q1);clear q1)
  go_ret
  exact ⟨by rw [HR.out];rfl,Q1.out⟩
 ·have h':¬ (200:Int)<(c:Int):=by omega
  have HR:Hid (min c 201=c):=by show _=_;omega
  go_enter Tryz.func29,Tryz.ntmps29
  go_wp2_with (go_at_call 54;refine (HC.out _ ((Q.refl _).alloc _)).mono ?_;rintro e9 w1 ⟨rfl,q1⟩;have Q1:Hid (Q W w1):=hid (((Q.refl _).alloc _).trans q1);clear q1)
  go_ret
  exact ⟨by rw [HR.out];rfl,Q1.out⟩
theorem rmayexpr_any(x:Ex)(v:Value)(W:World)(hs:Sm x)(hr:Rd W x v):Calls Tryz.prog 12 #[v] W fun e W'=>e=.returned (.bool (fitB x&&mall mayN x))∧Q W W':=by
 have HC:=hid (fun W' (q:Q W W')=>rcount_any x v W' (Rd.on q _ _ hr))
 have HA:=hid (fun W' (q:Q W W')=>rmay_all (SizeOf.sizeOf x) x v W' 1 (Nat.le_refl _) hs (Rd.on q _ _ hr))
 have he:(fitB x&&mall mayN x)=(decide (min (nodes x) 201≤200)&&rm x 1):=by
  rw [rm_shl x 1 50 rfl];unfold fitB
  have:decide (nodes x≤200)=decide (min (nodes x) 201≤200):=by
   by_cases h:nodes x≤200
   ·rw [decide_eq_true h,decide_eq_true (by omega)]
   ·rw [decide_eq_false h,decide_eq_false (by omega)]
  rw [this,Bool.and_assoc]
 rw [he];obtain ⟨k,n,t,b,e,a1,l1,c1,a2,l2,c2,rfl⟩:=hr.shape;have HX:=hid (Bx.start W (.int .i64 k) (.int .i64 n) (.string t) (.bool b) (.int .i64 e) (.slice a1 l1 c1) (.slice a2 l2 c2) 26);obtain ⟨c,hc⟩:∃ c,min (nodes x) 201=c:=⟨_,rfl⟩;obtain ⟨r,hrr⟩:∃ r,rm x 1=r:=⟨_,rfl⟩;rw [hc]at HC ⊢;rw [hrr]at HA ⊢;clear hr hs he hc hrr;by_cases h:c≤200
 ·have h':(c:Int)≤200:=by omega
  rw [decide_eq_true h,Bool.true_and];go_enter Tryz.func12,Tryz.ntmps12
  go_wp2_with (first|(go_at_call 29;refine (HC.out _ ((Q.refl _).alloc _)).mono ?_;rintro e9 w1 ⟨rfl,q1⟩;have Q1:Hid (Q W w1):=hid (((Q.refl _).alloc _).trans q1);have X1:=hid (HX.out.on q1);clear q1;obtain ⟨_,_,g0,g1,g2,g3,g4,g5,g6⟩:=X1.out)|(go_at_call 30;refine (HA.out _ Q1.out).mono ?_;rintro e9 w2 ⟨rfl,q2⟩;have Q2:Hid (Q W w2):=hid (Q1.out.trans q2);clear q2))
  go_ret
  exact ⟨rfl,Q2.out⟩
 ·have h':¬ (c:Int)≤200:=by omega
  rw [decide_eq_false h,Bool.false_and];go_enter Tryz.func12,Tryz.ntmps12
  go_wp2_with (go_at_call 29;refine (HC.out _ ((Q.refl _).alloc _)).mono ?_;rintro e9 w1 ⟨rfl,q1⟩;have Q1:Hid (Q W w1):=hid (((Q.refl _).alloc _).trans q1);clear q1)
  go_ret
  exact ⟨rfl,Q1.out⟩
end Go.Proofs.YtoikodohcieipaaGreatDoor
