/- counterpaneref5.may, MayExpr a. -/
import Derived.Test.YtngnakdbhkjbjaaGreatDoorKm48
import Derived.Test.YtngnakdbhkjbjaaGreatDoorKm47
import Derived.Test.YtngnakdbhkjbjaaGreatDoorKm43
import Derived.Test.YtngnakdbhkjbjaaGreatDoorKm39
import Derived.Test.YtngnakdbhkjbjaaGreatDoorKm44
import Derived.Test.YtngnakdbhkjbjaaGreatDoorKm00
import Derived.Test.YtngnakdbhkjbjaaGreatDoorKm17
import Derived.Test.YtngnakdbhkjbjaaGreatDoorKm12
import Derived.Test.YtngnakdbhkjbjaaGreatDoorKm13
import Derived.Test.YtngnakdbhkjbjaaGreatDoorKm36
import Derived.Test.YtngnakdbhkjbjaaGreatDoorKm10
import Derived.Test.YtngnakdbhkjbjaaGreatDoorKm04
import Derived.Test.YtngnakdbhkjbjaaGreatDoorKm45
import Derived.Test.YtngnakdbhkjbjaaGreatDoorKm20
import Derived.Test.YtngnakdbhkjbjaaGreatDoorKm21
import Derived.Test.YtngnakdbhkjbjaaGreatDoorKm32
import Derived.Test.YtngnakdbhkjbjaaGreatDoorKm24
import Derived.Test.YtngnakdbhkjbjaaGreatDoorKm22
import Derived.Test.YtngnakdbhkjbjaaGreatDoorKm29
import Derived.Test.YtngnakdbhkjbjaaGreatDoorKm28
import Derived.Test.YtngnakdbhkjbjaaGreatDoorKm35
import Derived.Test.YtngnakdbhkjbjaaGreatDoorKm37
import Derived.Test.YtngnakdbhkjbjaaGreatDoorKm40
import Derived.Test.YtngnakdbhkjbjaaGreatDoorKm42
set_option linter.unusedVariables false
set_option linter.unusedSimpArgs false
set_option maxRecDepth 100000
set_option maxHeartbeats 8000000
namespace Go.Proofs.YtngnakdbhkjbjaaGreatDoor
open Go.RowKit
theorem mre_of{W:World}(x:Rf)(hs:x.1.length≤2000000):MRe W x:=by
 intro V q
 exact rmay_any ⟨x.1.toArray⟩ x.2.1 x.2.2.1 x.2.2.2.1 x.2.2.2.2 V (by show x.1.toArray.size≤4000000000;simp;omega)
theorem bare_leaf(ok:Bool)(n:Int)(t:List UInt8)(b:Bool)(e:Int)(l1:Nat)(ks:List Ex)(d:Nat):((ok&&bareB n t b e l1 ks.length)&&rm.rmL ks d)=(ok&&bareB n t b e l1 ks.length):=by
 cases h:bareB n t b e l1 ks.length
 ·rw [Bool.and_false,Bool.false_and]
 ·have:ks=[]:=List.eq_nil_of_length_eq_zero (of_decide_eq_true h).2.2.2.2.2
  subst this;rw [rm.rmL,Bool.and_true]
theorem rmay_all:∀ (s:Nat) (x:Ex) (v:Value) (W:World) (d:Nat),SizeOf.sizeOf x≤s→Sm x→Rd W x v→Calls Tryz.prog 70 #[v,.int .i64 (d:Int)] W fun e W'=>e=.returned (.bool (rm x d))∧Q W W':=by
 intro s
 induction s with
 |zero=>
  intro x v W d hs
  cases x with
  |mk k n t b e rs ks=>simp at hs
 |succ s ih=>
  intro x v W d hsz hs hr
  obtain ⟨k,n,t,b,e,rs,ks,rv',kv,ao,cap,rfl,hp⟩:=hr.prt;obtain ⟨ar,cr,hrv,hl⟩:=hp.rl;have hsl:Sl rf 5 W (.slice ar rs.length cr) rs:=hrv ▸ hp.rl
  have hkl:=hp.kl;subst hkl hrv;have hx:=hp.ex;have hcap:ks.length≤9223372036854775807:=by have h1:=hp.le;have h2:=hp.mx;unfold maxLen at h2;omega
  have HKid:Hid (∀ i (hi:i<ks.length) V,Q W V→∃ b' off c0 c1 c2 c3 c4 c5 c6,ao=some ⟨b',off,none⟩∧Kid V ks[i] b' (off+i*7) c0 c1 c2 c3 c4 c5 c6):=hid (fun i hi V q=>by
   obtain ⟨b',off,ha,hl⟩:=(hp.on q).kd (by intro h;rw [h]at hi;simp at hi)
   obtain ⟨c0,c1,c2,c3,c4,c5,c6,hk⟩:=hl.kid i hi;exact ⟨b',off,c0,c1,c2,c3,c4,c5,c6,ha,hk⟩)
  have hkids:∀ y∈ks,Sm y:=sm_kids k n t.data.toList b e rs ks (hx ▸ hs)
  have IH:Hid (∀ i (hi:i<ks.length) v V,Rd V ks[i] v→Calls Tryz.prog 70 #[v,.int .i64 ((d:Int)+1)] V fun e W'=>e=.returned (.bool (rm ks[i] (d+1)))∧Q V W'):=hid (fun i hi v V hr=>by
   have h1:=kid_size (k:=k) (n:=n) (t:=t.data.toList) (b:=b) (e:=e) (rs:=rs) i hi;rw [←hx]at h1;have:=ih ks[i] v V (d+1) (by omega) (hkids _ (List.getElem_mem hi)) hr
   rw [show ((d+1:Nat):Int)=(d:Int)+1 by omega]at this
   exact this)
  clear ih hr;subst hx;rw [Sm]at hs;obtain ⟨s1,s2,_⟩:=hs;have st:t.size≤1000000:=by rw [←len_data];exact s1
  have hm:Hid (∀ y∈rs,MRe W y):=hid (fun y hy=>mre_of y (s2 y hy))
  rw [rm,mayN];by_cases h1:k=1
  ·subst h1
   rw [if_pos rfl,bare_leaf];exact rn_1 n t b e ar rs.length cr ao ks.length cap W d
  by_cases h2:k=2
  ·subst h2
   rw [if_neg (by decide),if_pos rfl,bare_leaf]
   exact rn_2 n t b e ar rs.length cr ao ks.length cap W d (by omega)
  by_cases h3:k=3
  ·subst h3
   rw [if_neg (by decide),if_neg (by decide),if_pos rfl,bare_leaf]
   exact rn_3 n t b e ar rs.length cr ao ks.length cap W d
  by_cases h4:k=4
  ·subst h4
   rw [if_neg (by decide),if_neg (by decide),if_neg (by decide),if_pos rfl,bare_leaf]
   exact rn_4 n t b e ar rs.length cr ao ks.length cap W d
  by_cases h5:k=5
  ·subst h5
   rw [if_neg (by decide),if_neg (by decide),if_neg (by decide),if_neg (by decide),if_pos rfl,bare_leaf]
   exact rn_5 n t b e ar rs.length cr ao ks.length cap W d rs hsl hm
  by_cases h6:k=6
  ·subst h6
   rw [if_neg (by decide),if_neg (by decide),if_neg (by decide),if_neg (by decide),if_neg (by decide),if_pos rfl,bare_leaf]
   exact rn_6 n t b e ar rs.length cr ao ks.length cap W d rs hsl hm
  by_cases h7:k=7
  ·subst h7
   rw [if_neg (by decide),if_neg (by decide),if_neg (by decide),if_neg (by decide),if_neg (by decide),if_neg (by decide),if_pos rfl]
   exact rn_7 n t b e ar rs.length cr ao ks.length cap W d ks rfl hcap HKid IH
  by_cases h8:k=8
  ·subst h8
   rw [if_neg (by decide),if_neg (by decide),if_neg (by decide),if_neg (by decide),if_neg (by decide),if_neg (by decide),if_neg (by decide),if_pos rfl]
   exact rn_8 n t b e ar rs.length cr ao ks.length cap W d ks rfl hcap HKid IH
  by_cases h9:k=9
  ·subst h9
   rw [if_neg (by decide),if_neg (by decide),if_neg (by decide),if_neg (by decide),if_neg (by decide),if_neg (by decide),if_neg (by decide),if_neg (by decide),if_pos rfl]
   exact rn_9 n t b e ar rs.length cr ao ks.length cap W d (by omega) ks rfl hcap HKid IH
  rw [if_neg h1,if_neg h2,if_neg h3,if_neg h4,if_neg h5,if_neg h6,if_neg h7,if_neg h8,if_neg h9,Bool.false_and,Bool.and_false];exact rn_k k n t b e ar rs.length cr ao ks.length cap W d (by omega)
theorem rcount_any(x:Ex)(v:Value)(W:World)(hr:Rd W x v):Calls Tryz.prog 69 #[v] W fun e W'=>e=.returned (.int .i64 (min (nodes x) 201:Nat))∧Q W W':=by
 have HC:=hid (fun W' (q:Q W W')=>count_any (SizeOf.sizeOf x) x v W' 0 0 0 (Nat.le_refl _) rfl (by omega) (Rd.on q _ _ hr))
 have hn:=cnt_nodes x 0 (by omega)
 rw [Nat.zero_add]at hn;rw [←hn];obtain ⟨k,n,t,b,e,a1,l1,c1,a2,l2,c2,rfl⟩:=hr.shape;obtain ⟨c,hc⟩:∃ c,cnt x 0=c:=⟨_,rfl⟩;rw [hc]at HC ⊢;clear hn hc hr;by_cases h:200<c
 ·have h':(200:Int)<(c:Int):=by omega
  have HR:Hid (min c 201=201):=by show _=_;omega
  go_enter Tryz.func69,Tryz.ntmps69
  go_wp2_with (go_at_call 85;refine (HC.out _ ((Q.refl _).alloc _)).mono ?_;rintro e9 w1 ⟨rfl,q1⟩;have Q1:Hid (Q W w1):=hid (((Q.refl _).alloc _).trans q1);clear q1)
  go_ret
  exact ⟨by rw [HR.out];rfl,Q1.out⟩
 ·have h':¬ (200:Int)<(c:Int):=by omega
  have HR:Hid (min c 201=c):=by show _=_;omega
  go_enter Tryz.func69,Tryz.ntmps69
  go_wp2_with (go_at_call 85;refine (HC.out _ ((Q.refl _).alloc _)).mono ?_;rintro e9 w1 ⟨rfl,q1⟩;have Q1:Hid (Q W w1):=hid (((Q.refl _).alloc _).trans q1);clear q1)
  go_ret
  exact ⟨by rw [HR.out];rfl,Q1.out⟩
theorem rmayexpr_any(x:Ex)(v:Value)(W:World)(hs:Sm x)(hr:Rd W x v):Calls Tryz.prog 52 #[v] W fun e W'=>e=.returned (.bool (fitB x&&mall mayN x))∧Q W W':=by
 have HC:=hid (fun W' (q:Q W W')=>rcount_any x v W' (Rd.on q _ _ hr))
 have HA:=hid (fun W' (q:Q W W')=>rmay_all (SizeOf.sizeOf x) x v W' 1 (Nat.le_refl _) hs (Rd.on q _ _ hr))
 have he:(fitB x&&mall mayN x)=(decide (min (nodes x) 201≤200)&&rm x 1):=by
  rw [rm_shl x 1 50 rfl];unfold fitB
  have:decide (nodes x≤200)=decide (min (nodes x) 201≤200):=by
   by_cases h:nodes x≤200
   ·rw [decide_eq_true h,decide_eq_true (by omega)]
   ·rw [decide_eq_false h,decide_eq_false (by omega)]
  rw [this,Bool.and_assoc]
 rw [he];obtain ⟨k,n,t,b,e,a1,l1,c1,a2,l2,c2,rfl⟩:=hr.shape;have HX:=hid (Bx.start W (.int .i64 k) (.int .i64 n) (.string t) (.bool b) (.int .i64 e) (.slice a1 l1 c1) (.slice a2 l2 c2) 28);obtain ⟨c,hc⟩:∃ c,min (nodes x) 201=c:=⟨_,rfl⟩;obtain ⟨r,hrr⟩:∃ r,rm x 1=r:=⟨_,rfl⟩;rw [hc]at HC ⊢;rw [hrr]at HA ⊢;clear hr hs he hc hrr;by_cases h:c≤200
 ·have h':(c:Int)≤200:=by omega
  rw [decide_eq_true h,Bool.true_and];go_enter Tryz.func52,Tryz.ntmps52
  go_wp2_with (first|(go_at_call 69;refine (HC.out _ ((Q.refl _).alloc _)).mono ?_;rintro e9 w1 ⟨rfl,q1⟩;have Q1:Hid (Q W w1):=hid (((Q.refl _).alloc _).trans q1);have X1:=hid (HX.out.on q1);clear q1;obtain ⟨_,_,g0,g1,g2,g3,g4,g5,g6⟩:=X1.out)|(go_at_call 70;refine (HA.out _ Q1.out).mono ?_;rintro e9 w2 ⟨rfl,q2⟩;have Q2:Hid (Q W w2):=hid (Q1.out.trans q2);clear q2))
  go_ret
  exact ⟨rfl,Q2.out⟩
 ·have h':¬ (c:Int)≤200:=by omega
  rw [decide_eq_false h,Bool.false_and];go_enter Tryz.func52,Tryz.ntmps52
  go_wp2_with (go_at_call 69;refine (HC.out _ ((Q.refl _).alloc _)).mono ?_;rintro e9 w1 ⟨rfl,q1⟩;have Q1:Hid (Q W w1):=hid (((Q.refl _).alloc _).trans q1);clear q1)
  go_ret
  exact ⟨rfl,Q1.out⟩
theorem rmayc_form(vk vn:Int)(vt:ByteArray)(vb:Bool)(ve:Int)(k m:Int)(t:ByteArray)(bb:Bool)(er:Int)(a1:Option Addr)(l1 c1:Nat)(a2:Option Addr)(l2 c2:Nat)(X:Ex)(w:World)(hs:Sm X)(hr:Rd w X (.agg #[.int .i64 k,.int .i64 m,.string t,.bool bb,.int .i64 er,.slice a1 l1 c1,.slice a2 l2 c2])):Calls Tryz.prog 28 #[.agg #[.bool true,.int .i64 vk,.int .i64 vn,.string vt,.bool vb,.int .i64 ve,.int .i64 k,.int .i64 m,.string t,.bool bb,.int .i64 er,.slice a1 l1 c1,.slice a2 l2 c2]] w fun e W'=>e=.returned (.bool ((fitB X&&mall mayN X)&&decide (vk=0∧vn=0∧vt.data.toList=[]∧vb=false∧ve=0)))∧Q w W':=by
 have HM:=hid (fun W' (q:Q w W')=>rmayexpr_any X _ W' hs (Rd.on q _ _ hr))
 have HV:=hid (fun W'=>req_any vk vn vt vb ve 0 0 ⟨#[]⟩ false 0 W')
 unfold vx at HV
 rw [show (⟨#[]⟩:ByteArray).data.toList=[] from rfl]at HV
 generalize decide (vk=0∧vn=0∧vt.data.toList=[]∧vb=false∧ve=0)=r2 at HV ⊢;clear hr hs;cases h1:(fitB X&&mall mayN X)
 ·rw [h1]at HM
  go_enter Tryz.func28,Tryz.ntmps28
  go_wp2_with (go_at_call 52;refine (HM.out _ ((Q.refl _).alloc _)).mono ?_;rintro e9 w1 ⟨rfl,q1⟩;have Q1:Hid (Q w w1):=hid (((Q.refl _).alloc _).trans q1);clear q1)
  go_ret
  exact ⟨by simp,Q1.out⟩
 ·rw [h1]at HM
  go_enter Tryz.func28,Tryz.ntmps28
  go_wp2_with (first|(go_at_call 52;refine (HM.out _ ((Q.refl _).alloc _)).mono ?_;rintro e9 w1 ⟨rfl,q1⟩;have Q1:Hid (Q w w1):=hid (((Q.refl _).alloc _).trans q1);have Z1:=hid ((cb_new w [.bool true,.int .i64 vk,.int .i64 vn,.string vt,.bool vb,.int .i64 ve,.int .i64 k,.int .i64 m,.string t,.bool bb,.int .i64 er,.slice a1 l1 c1,.slice a2 l2 c2] 30).on q1);clear q1;have d0:=Z1.out.c 0 _ rfl;have d1:=Z1.out.c 1 _ rfl;have d2:=Z1.out.c 2 _ rfl;have d3:=Z1.out.c 3 _ rfl;have d4:=Z1.out.c 4 _ rfl;have d5:=Z1.out.c 5 _ rfl;have d6:=Z1.out.c 6 _ rfl;have d7:=Z1.out.c 7 _ rfl;have d8:=Z1.out.c 8 _ rfl;have d9:=Z1.out.c 9 _ rfl;have d10:=Z1.out.c 10 _ rfl;have d11:=Z1.out.c 11 _ rfl;have d12:=Z1.out.c 12 _ rfl)|(go_at_call 50;refine (HV.out _).mono ?_;rintro e9 w2 ⟨rfl,q2⟩;have Q2:=hid (Q1.out.trans q2);clear q2))
  go_ret
  exact ⟨by simp,Q2.out⟩
theorem rmayc_val(vk vn:Int)(vt:ByteArray)(vb:Bool)(ve:Int)(k m:Int)(t:ByteArray)(bb:Bool)(er:Int)(a1:Option Addr)(l1 c1:Nat)(a2:Option Addr)(l2 c2:Nat)(X:Ex)(w:World)(hv:vt.size≤1000000)(hr:Rd w X (.agg #[.int .i64 k,.int .i64 m,.string t,.bool bb,.int .i64 er,.slice a1 l1 c1,.slice a2 l2 c2])):Calls Tryz.prog 28 #[.agg #[.bool false,.int .i64 vk,.int .i64 vn,.string vt,.bool vb,.int .i64 ve,.int .i64 k,.int .i64 m,.string t,.bool bb,.int .i64 er,.slice a1 l1 c1,.slice a2 l2 c2]] w fun e W'=>e=.returned (.bool (V.mayB vk vn vt.data.toList vb ve&&isZ X))∧Q w W':=by
 have HM:=hid (fun W' (q:Q w W')=>V.rmay_any vk vn vt vb ve W' (by omega))
 unfold V.vv at HM
 rw [Lib.toList_data]at HM;have HV:=hid (fun W' (q:Q w W')=>eqexpr_any _ X zeroE _ _ W' (Nat.le_refl _) (Rd.on q _ _ hr) (rd_zero W'))
 clear hr hv;cases h1:V.mayB vk vn vt.data.toList vb ve
 ·rw [h1]at HM
  go_enter Tryz.func28,Tryz.ntmps28
  go_wp2_with (go_at_call 53;refine (HM.out _ ((Q.refl _).alloc _)).mono ?_;rintro e9 w1 ⟨rfl,q1⟩;have Q1:Hid (Q w w1):=hid (((Q.refl _).alloc _).trans q1);clear q1)
  go_ret
  exact ⟨by simp,Q1.out⟩
 ·rw [h1]at HM
  go_enter Tryz.func28,Tryz.ntmps28
  go_wp2_with (first|(go_at_call 53;refine (HM.out _ ((Q.refl _).alloc _)).mono ?_;rintro e9 w1 ⟨rfl,q1⟩;have Q1:Hid (Q w w1):=hid (((Q.refl _).alloc _).trans q1);have Z1:=hid ((cb_new w [.bool false,.int .i64 vk,.int .i64 vn,.string vt,.bool vb,.int .i64 ve,.int .i64 k,.int .i64 m,.string t,.bool bb,.int .i64 er,.slice a1 l1 c1,.slice a2 l2 c2] 30).on q1);clear q1;have d0:=Z1.out.c 0 _ rfl;have d1:=Z1.out.c 1 _ rfl;have d2:=Z1.out.c 2 _ rfl;have d3:=Z1.out.c 3 _ rfl;have d4:=Z1.out.c 4 _ rfl;have d5:=Z1.out.c 5 _ rfl;have d6:=Z1.out.c 6 _ rfl;have d7:=Z1.out.c 7 _ rfl;have d8:=Z1.out.c 8 _ rfl;have d9:=Z1.out.c 9 _ rfl;have d10:=Z1.out.c 10 _ rfl;have d11:=Z1.out.c 11 _ rfl;have d12:=Z1.out.c 12 _ rfl)|(go_at_call 51;refine (HV.out _ Q1.out).mono ?_;rintro e9 w2 ⟨ha,q2⟩;have he:=ans_isZ ha;subst he;have Q2:=hid (Q1.out.trans q2);clear q2 ha))
  go_ret
  exact ⟨by simp,Q2.out⟩
def mcB(f:Bool)(vk vn:Int)(l:List UInt8)(vb:Bool)(ve:Int)(Y:Ex):Bool:=if f then ((fitB Y&&mall mayN Y)&&decide (vk=0∧vn=0∧l=[]∧vb=false∧ve=0)) else (V.mayB vk vn l vb ve&&isZ Y)
theorem smay_any(f:Bool)(vk vn:Int)(vt:ByteArray)(vb:Bool)(ve:Int)(k m:Int)(t:ByteArray)(bb:Bool)(er:Int)(a1:Option Addr)(l1 c1:Nat)(a2:Option Addr)(l2 c2:Nat)(X:Ex)(w:World)(hg:Gd w)(hv:vt.size≤1000000)(hs:Sm X)(hn:nodes X≤1000)(hr:Rd w X (.agg #[.int .i64 k,.int .i64 m,.string t,.bool bb,.int .i64 er,.slice a1 l1 c1,.slice a2 l2 c2])):Calls Tryz.prog 20 #[.agg #[.bool f,.int .i64 vk,.int .i64 vn,.string vt,.bool vb,.int .i64 ve,.int .i64 k,.int .i64 m,.string t,.bool bb,.int .i64 er,.slice a1 l1 c1,.slice a2 l2 c2]] w fun e W'=>e=.returned (.bool (mcB f vk vn vt.data.toList vb ve X))∧Q w W':=by
 cases f with
 |true=>exact smay_form vk vn vt vb ve k m t bb er a1 l1 c1 a2 l2 c2 X w hg hs hr
 |false=>exact smay_val vk vn vt vb ve k m t bb er a1 l1 c1 a2 l2 c2 X w hg hv hn hr
theorem rmayc_any(f:Bool)(vk vn:Int)(vt:ByteArray)(vb:Bool)(ve:Int)(k m:Int)(t:ByteArray)(bb:Bool)(er:Int)(a1:Option Addr)(l1 c1:Nat)(a2:Option Addr)(l2 c2:Nat)(X:Ex)(w:World)(hv:vt.size≤1000000)(hs:Sm X)(hr:Rd w X (.agg #[.int .i64 k,.int .i64 m,.string t,.bool bb,.int .i64 er,.slice a1 l1 c1,.slice a2 l2 c2])):Calls Tryz.prog 28 #[.agg #[.bool f,.int .i64 vk,.int .i64 vn,.string vt,.bool vb,.int .i64 ve,.int .i64 k,.int .i64 m,.string t,.bool bb,.int .i64 er,.slice a1 l1 c1,.slice a2 l2 c2]] w fun e W'=>e=.returned (.bool (mcB f vk vn vt.data.toList vb ve X))∧Q w W':=by
 cases f with
 |true=>exact rmayc_form vk vn vt vb ve k m t bb er a1 l1 c1 a2 l2 c2 X w hs hr
 |false=>exact rmayc_val vk vn vt vb ve k m t bb er a1 l1 c1 a2 l2 c2 X w hv hr
def lmB(k a t:Int):Bool:=L.mayB k a t
theorem axmay_any(k a t:Int)(w:World):Calls Tryz.prog 21 #[.agg #[.int .i64 k,.int .i64 a,.int .i64 t]] w fun e w'=>e=.returned (.bool (lmB k a t))∧Q w w':=
 (L.may_any k a t w).mono fun e w' h=>⟨h.1,h.2 ▸ (Q.refl _).alloc _⟩
theorem raxmay_any(k a t:Int)(w:World):Calls Tryz.prog 29 #[.agg #[.int .i64 k,.int .i64 a,.int .i64 t]] w fun e w'=>e=.returned (.bool (lmB k a t))∧Q w w':=
 (L.rmay_any k a t w).mono fun e w' h=>⟨h.1,h.2 ▸ (Q.refl _).alloc _⟩
def zRow(x:Rv):Bool:=decide (x.row=0∧x.col=0)
def zCell(x:Rv)(X:Ex):Bool:=decide (x.f=false∧(x.vk=0∧x.vn=0∧x.vt.data.toList=[]∧x.vb=false∧x.ve=0))&&isZ X
def zLine(x:Rv):Bool:=decide (x.lk=0∧x.la=0∧x.lt=0)
def zFm(x:Rv):Bool:=decide (x.fm=0)
def zNm(x:Rv):Bool:=decide (x.nm.data.toList=[])
def mayO(x:Rv)(X:Ex)(M:List R.Rg.Rc)(mr:Bool):Bool:=
 idB x.sh.data.toList&&(
  if x.k=1 then (lnB x.row&&(lnB x.col&&mcB x.f x.vk x.vn x.vt.data.toList x.vb x.ve X))&&(zLine x&&(M.isEmpty&&(zFm x&&zNm x)))
  else (zRow x&&zCell x X)&&(
   if x.k=2∨x.k=3 then lmB x.lk x.la x.lt&&(M.isEmpty&&(zFm x&&zNm x))
   else zLine x&&(
    if x.k=4 then (mr&&fmB x.fm)&&zNm x
    else (M.isEmpty&&zFm x)&&(
     if x.k=5∨x.k=6 then nmB x.nm.data.toList
     else zNm x&&decide (x.k=7)))))
structure OK1 (x:Rv) (X:Ex) (M:List R.Rg.Rc):Prop where
 sh:x.sh.size≤1000000
 nm:x.nm.size≤1000000
 vt:x.vt.size≤1000000
 sm:Sm X
 nd:nodes X≤1000
 ml:M.length≤1000000
theorem oe_ex(x y:Rv)(X Y:Ex)(L M:List R.Rg.Rc):∃ b:Bool,(b=true↔oE x y X Y L M):=by
 by_cases h:oE x y X Y L M
 ·exact ⟨true,fun _=>h,fun _=>rfl⟩
 ·exact ⟨false,fun e=>absurd e Bool.false_ne_true,fun e=>absurd e h⟩
theorem e_nil:(⟨#[]⟩:ByteArray).data.toList=[]:=rfl
theorem opm1(sh:ByteArray)(row:Int)(col:Int)(f:Bool)(vk:Int)(vn:Int)(vt:ByteArray)(vb:Bool)(ve:Int)(tk:Int)(tm:Int)(tt:ByteArray)(tb:Bool)(te:Int)(a1:Option Addr)(l1:Nat)(c1:Nat)(a2:Option Addr)(l2:Nat)(c2:Nat)(lk:Int)(la:Int)(lt:Int)(ra:Option Addr)(rl:Nat)(rc:Nat)(fm:Int)(nm:ByteArray)(X:Ex)(M:List R.Rg.Rc)(mr:Bool)(w:World)(hg:Gd w)(ht:Rd w X (.agg #[.int .i64 tk,.int .i64 tm,.string tt,.bool tb,.int .i64 te,.slice a1 l1 c1,.slice a2 l2 c2]))(hr:R.Sl R.rc 4 w (.slice ra rl rc) M)(hvt:vt.size≤1000000)(hsh:sh.size≤1000000)(hnm:nm.size≤1000000)(hs:Sm X)(hn:nodes X≤1000)(hM:M.length≤1000000000000)(hmr:MR M mr):Calls Tryz.prog 8 #[.agg #[.int .i64 1,.string sh,.int .i64 row,.int .i64 col,.bool f,.int .i64 vk,.int .i64 vn,.string vt,.bool vb,.int .i64 ve,.int .i64 tk,.int .i64 tm,.string tt,.bool tb,.int .i64 te,.slice a1 l1 c1,.slice a2 l2 c2,.int .i64 lk,.int .i64 la,.int .i64 lt,.slice ra rl rc,.int .i64 fm,.string nm]] w fun e V'=>e=.returned (.bool (mayO (⟨1,sh,row,col,f,vk,vn,vt,vb,ve,tk,tm,tt,tb,te,a1,l1,c1,a2,l2,c2,lk,la,lt,ra,rl,rc,fm,nm⟩:Rv) X M mr))∧Q w V':=by
 have HI:=hid (fun V (q:Q w V)=>id_any sh V (hg.on q).1 (by omega))
 obtain ⟨eb,heb⟩:=oe_ex (⟨1,sh,0,0,false,0,0,⟨#[]⟩,false,0,0,0,⟨#[]⟩,false,0,none,0,0,none,0,0,lk,la,lt,ra,rl,rc,fm,nm⟩:Rv) (⟨1,sh,0,0,false,0,0,⟨#[]⟩,false,0,0,0,⟨#[]⟩,false,0,none,0,0,none,0,0,0,0,0,none,0,0,0,⟨#[]⟩⟩:Rv) zeroE zeroE M [];have HE:=hid (fun V (q:Q w V)=>opeq_any (⟨1,sh,0,0,false,0,0,⟨#[]⟩,false,0,0,0,⟨#[]⟩,false,0,none,0,0,none,0,0,lk,la,lt,ra,rl,rc,fm,nm⟩:Rv) (⟨1,sh,0,0,false,0,0,⟨#[]⟩,false,0,0,0,⟨#[]⟩,false,0,none,0,0,none,0,0,0,0,0,none,0,0,0,⟨#[]⟩⟩:Rv) zeroE zeroE M [] eb V ⟨rd_zero V,hr.on q⟩ ⟨rd_zero V,R.sl_nil V⟩ (by decide) hM (by simp) heb)
 unfold Rv.v at HE
 have H1:=hid (fun V (q:Q w V)=>(mayLine_any' row V).mono fun e V' h=>(⟨h.1,h.2 ▸ Q.refl _⟩:e=.returned (.bool (lnB row))∧Q V V'))
 have H2:=hid (fun V (q:Q w V)=>(mayLine_any' col V).mono fun e V' h=>(⟨h.1,h.2 ▸ Q.refl _⟩:e=.returned (.bool (lnB col))∧Q V V'))
 have H3:=hid (fun V (q:Q w V)=>smay_any f vk vn vt vb ve tk tm tt tb te a1 l1 c1 a2 l2 c2 X V (hg.on q) hvt hs hn (Rd.on q _ _ ht))
 refine (om1 1 sh (.int .i64 row) (.int .i64 col) (.bool f) (.int .i64 vk) (.int .i64 vn) (.string vt) (.bool vb) (.int .i64 ve) (.int .i64 tk) (.int .i64 tm) (.string tt) (.bool tb) (.int .i64 te) (.slice a1 l1 c1) (.slice a2 l2 c2) (.int .i64 lk) (.int .i64 la) (.int .i64 lt) (.slice ra rl rc) (.int .i64 fm) (.string nm) w (lnB row) (lnB col) (mcB f vk vn vt.data.toList vb ve X) (idB sh.data.toList) eb (by decide) (hid (by kernel_rfl)) H1 H2 H3 HI HE).mono fun e V' h=>⟨h.1.trans (ret_bool ?_),h.2⟩
 have hz:eb=(zLine ⟨1,sh,row,col,f,vk,vn,vt,vb,ve,tk,tm,tt,tb,te,a1,l1,c1,a2,l2,c2,lk,la,lt,ra,rl,rc,fm,nm⟩&&(M.isEmpty&&(zFm ⟨1,sh,row,col,f,vk,vn,vt,vb,ve,tk,tm,tt,tb,te,a1,l1,c1,a2,l2,c2,lk,la,lt,ra,rl,rc,fm,nm⟩&&zNm ⟨1,sh,row,col,f,vk,vn,vt,vb,ve,tk,tm,tt,tb,te,a1,l1,c1,a2,l2,c2,lk,la,lt,ra,rl,rc,fm,nm⟩))):=by
  rw [Bool.eq_iff_iff,heb];simp only [oE,vE,zRow,zCell,zLine,zFm,zNm,Bool.and_eq_true,decide_eq_true_eq,isZ_iff,List.isEmpty_iff,true_and,and_true,e_nil]
  first|exact Iff.rfl|(constructor <;> (intro hh;simp_all))
 rw [hz];unfold mayO
 rw [if_pos rfl];simp only [Bool.and_true,Bool.true_and,Bool.and_assoc,Bool.and_comm,Bool.and_left_comm]
theorem opm2(sh:ByteArray)(row:Int)(col:Int)(f:Bool)(vk:Int)(vn:Int)(vt:ByteArray)(vb:Bool)(ve:Int)(tk:Int)(tm:Int)(tt:ByteArray)(tb:Bool)(te:Int)(a1:Option Addr)(l1:Nat)(c1:Nat)(a2:Option Addr)(l2:Nat)(c2:Nat)(lk:Int)(la:Int)(lt:Int)(ra:Option Addr)(rl:Nat)(rc:Nat)(fm:Int)(nm:ByteArray)(X:Ex)(M:List R.Rg.Rc)(mr:Bool)(w:World)(hg:Gd w)(ht:Rd w X (.agg #[.int .i64 tk,.int .i64 tm,.string tt,.bool tb,.int .i64 te,.slice a1 l1 c1,.slice a2 l2 c2]))(hr:R.Sl R.rc 4 w (.slice ra rl rc) M)(hvt:vt.size≤1000000)(hsh:sh.size≤1000000)(hnm:nm.size≤1000000)(hs:Sm X)(hn:nodes X≤1000)(hM:M.length≤1000000000000)(hmr:MR M mr):Calls Tryz.prog 8 #[.agg #[.int .i64 2,.string sh,.int .i64 row,.int .i64 col,.bool f,.int .i64 vk,.int .i64 vn,.string vt,.bool vb,.int .i64 ve,.int .i64 tk,.int .i64 tm,.string tt,.bool tb,.int .i64 te,.slice a1 l1 c1,.slice a2 l2 c2,.int .i64 lk,.int .i64 la,.int .i64 lt,.slice ra rl rc,.int .i64 fm,.string nm]] w fun e V'=>e=.returned (.bool (mayO (⟨2,sh,row,col,f,vk,vn,vt,vb,ve,tk,tm,tt,tb,te,a1,l1,c1,a2,l2,c2,lk,la,lt,ra,rl,rc,fm,nm⟩:Rv) X M mr))∧Q w V':=by
 have HI:=hid (fun V (q:Q w V)=>id_any sh V (hg.on q).1 (by omega))
 obtain ⟨eb,heb⟩:=oe_ex (⟨2,sh,row,col,f,vk,vn,vt,vb,ve,tk,tm,tt,tb,te,a1,l1,c1,a2,l2,c2,0,0,0,ra,rl,rc,fm,nm⟩:Rv) (⟨2,sh,0,0,false,0,0,⟨#[]⟩,false,0,0,0,⟨#[]⟩,false,0,none,0,0,none,0,0,0,0,0,none,0,0,0,⟨#[]⟩⟩:Rv) X zeroE M [];have HE:=hid (fun V (q:Q w V)=>opeq_any (⟨2,sh,row,col,f,vk,vn,vt,vb,ve,tk,tm,tt,tb,te,a1,l1,c1,a2,l2,c2,0,0,0,ra,rl,rc,fm,nm⟩:Rv) (⟨2,sh,0,0,false,0,0,⟨#[]⟩,false,0,0,0,⟨#[]⟩,false,0,none,0,0,none,0,0,0,0,0,none,0,0,0,⟨#[]⟩⟩:Rv) X zeroE M [] eb V ⟨Rd.on q _ _ ht,hr.on q⟩ ⟨rd_zero V,R.sl_nil V⟩ hn hM (by simp) heb)
 unfold Rv.v at HE
 have H1:=hid (fun V (q:Q w V)=>axmay_any lk la lt V)
 refine (om2 2 sh (.int .i64 row) (.int .i64 col) (.bool f) (.int .i64 vk) (.int .i64 vn) (.string vt) (.bool vb) (.int .i64 ve) (.int .i64 tk) (.int .i64 tm) (.string tt) (.bool tb) (.int .i64 te) (.slice a1 l1 c1) (.slice a2 l2 c2) (.int .i64 lk) (.int .i64 la) (.int .i64 lt) (.slice ra rl rc) (.int .i64 fm) (.string nm) w (lmB lk la lt) (idB sh.data.toList) eb (by decide) (by decide) (hid (by kernel_rfl)) H1 HI HE).mono fun e V' h=>⟨h.1.trans (ret_bool ?_),h.2⟩
 have hz:eb=(zRow ⟨2,sh,row,col,f,vk,vn,vt,vb,ve,tk,tm,tt,tb,te,a1,l1,c1,a2,l2,c2,lk,la,lt,ra,rl,rc,fm,nm⟩&&(zCell ⟨2,sh,row,col,f,vk,vn,vt,vb,ve,tk,tm,tt,tb,te,a1,l1,c1,a2,l2,c2,lk,la,lt,ra,rl,rc,fm,nm⟩ X&&(M.isEmpty&&(zFm ⟨2,sh,row,col,f,vk,vn,vt,vb,ve,tk,tm,tt,tb,te,a1,l1,c1,a2,l2,c2,lk,la,lt,ra,rl,rc,fm,nm⟩&&zNm ⟨2,sh,row,col,f,vk,vn,vt,vb,ve,tk,tm,tt,tb,te,a1,l1,c1,a2,l2,c2,lk,la,lt,ra,rl,rc,fm,nm⟩)))):=by
  rw [Bool.eq_iff_iff,heb];simp only [oE,vE,zRow,zCell,zLine,zFm,zNm,Bool.and_eq_true,decide_eq_true_eq,isZ_iff,List.isEmpty_iff,true_and,and_true,e_nil]
  first|exact Iff.rfl|(constructor <;> (intro hh;simp_all))
 rw [hz];unfold mayO
 rw [if_neg (by simp),if_pos (by simp)]
 simp only [Bool.and_true,Bool.true_and,Bool.and_assoc,Bool.and_comm,Bool.and_left_comm]
theorem opm3(sh:ByteArray)(row:Int)(col:Int)(f:Bool)(vk:Int)(vn:Int)(vt:ByteArray)(vb:Bool)(ve:Int)(tk:Int)(tm:Int)(tt:ByteArray)(tb:Bool)(te:Int)(a1:Option Addr)(l1:Nat)(c1:Nat)(a2:Option Addr)(l2:Nat)(c2:Nat)(lk:Int)(la:Int)(lt:Int)(ra:Option Addr)(rl:Nat)(rc:Nat)(fm:Int)(nm:ByteArray)(X:Ex)(M:List R.Rg.Rc)(mr:Bool)(w:World)(hg:Gd w)(ht:Rd w X (.agg #[.int .i64 tk,.int .i64 tm,.string tt,.bool tb,.int .i64 te,.slice a1 l1 c1,.slice a2 l2 c2]))(hr:R.Sl R.rc 4 w (.slice ra rl rc) M)(hvt:vt.size≤1000000)(hsh:sh.size≤1000000)(hnm:nm.size≤1000000)(hs:Sm X)(hn:nodes X≤1000)(hM:M.length≤1000000000000)(hmr:MR M mr):Calls Tryz.prog 8 #[.agg #[.int .i64 3,.string sh,.int .i64 row,.int .i64 col,.bool f,.int .i64 vk,.int .i64 vn,.string vt,.bool vb,.int .i64 ve,.int .i64 tk,.int .i64 tm,.string tt,.bool tb,.int .i64 te,.slice a1 l1 c1,.slice a2 l2 c2,.int .i64 lk,.int .i64 la,.int .i64 lt,.slice ra rl rc,.int .i64 fm,.string nm]] w fun e V'=>e=.returned (.bool (mayO (⟨3,sh,row,col,f,vk,vn,vt,vb,ve,tk,tm,tt,tb,te,a1,l1,c1,a2,l2,c2,lk,la,lt,ra,rl,rc,fm,nm⟩:Rv) X M mr))∧Q w V':=by
 have HI:=hid (fun V (q:Q w V)=>id_any sh V (hg.on q).1 (by omega))
 obtain ⟨eb,heb⟩:=oe_ex (⟨3,sh,row,col,f,vk,vn,vt,vb,ve,tk,tm,tt,tb,te,a1,l1,c1,a2,l2,c2,0,0,0,ra,rl,rc,fm,nm⟩:Rv) (⟨3,sh,0,0,false,0,0,⟨#[]⟩,false,0,0,0,⟨#[]⟩,false,0,none,0,0,none,0,0,0,0,0,none,0,0,0,⟨#[]⟩⟩:Rv) X zeroE M [];have HE:=hid (fun V (q:Q w V)=>opeq_any (⟨3,sh,row,col,f,vk,vn,vt,vb,ve,tk,tm,tt,tb,te,a1,l1,c1,a2,l2,c2,0,0,0,ra,rl,rc,fm,nm⟩:Rv) (⟨3,sh,0,0,false,0,0,⟨#[]⟩,false,0,0,0,⟨#[]⟩,false,0,none,0,0,none,0,0,0,0,0,none,0,0,0,⟨#[]⟩⟩:Rv) X zeroE M [] eb V ⟨Rd.on q _ _ ht,hr.on q⟩ ⟨rd_zero V,R.sl_nil V⟩ hn hM (by simp) heb)
 unfold Rv.v at HE
 have H1:=hid (fun V (q:Q w V)=>axmay_any lk la lt V)
 refine (om3 3 sh (.int .i64 row) (.int .i64 col) (.bool f) (.int .i64 vk) (.int .i64 vn) (.string vt) (.bool vb) (.int .i64 ve) (.int .i64 tk) (.int .i64 tm) (.string tt) (.bool tb) (.int .i64 te) (.slice a1 l1 c1) (.slice a2 l2 c2) (.int .i64 lk) (.int .i64 la) (.int .i64 lt) (.slice ra rl rc) (.int .i64 fm) (.string nm) w (lmB lk la lt) (idB sh.data.toList) eb (by decide) (by decide) (by decide) (hid (by kernel_rfl)) H1 HI HE).mono fun e V' h=>⟨h.1.trans (ret_bool ?_),h.2⟩
 have hz:eb=(zRow ⟨3,sh,row,col,f,vk,vn,vt,vb,ve,tk,tm,tt,tb,te,a1,l1,c1,a2,l2,c2,lk,la,lt,ra,rl,rc,fm,nm⟩&&(zCell ⟨3,sh,row,col,f,vk,vn,vt,vb,ve,tk,tm,tt,tb,te,a1,l1,c1,a2,l2,c2,lk,la,lt,ra,rl,rc,fm,nm⟩ X&&(M.isEmpty&&(zFm ⟨3,sh,row,col,f,vk,vn,vt,vb,ve,tk,tm,tt,tb,te,a1,l1,c1,a2,l2,c2,lk,la,lt,ra,rl,rc,fm,nm⟩&&zNm ⟨3,sh,row,col,f,vk,vn,vt,vb,ve,tk,tm,tt,tb,te,a1,l1,c1,a2,l2,c2,lk,la,lt,ra,rl,rc,fm,nm⟩)))):=by
  rw [Bool.eq_iff_iff,heb];simp only [oE,vE,zRow,zCell,zLine,zFm,zNm,Bool.and_eq_true,decide_eq_true_eq,isZ_iff,List.isEmpty_iff,true_and,and_true,e_nil]
  first|exact Iff.rfl|(constructor <;> (intro hh;simp_all))
 rw [hz];unfold mayO
 rw [if_neg (by simp),if_pos (by simp)]
 simp only [Bool.and_true,Bool.true_and,Bool.and_assoc,Bool.and_comm,Bool.and_left_comm]
theorem opm4(sh:ByteArray)(row:Int)(col:Int)(f:Bool)(vk:Int)(vn:Int)(vt:ByteArray)(vb:Bool)(ve:Int)(tk:Int)(tm:Int)(tt:ByteArray)(tb:Bool)(te:Int)(a1:Option Addr)(l1:Nat)(c1:Nat)(a2:Option Addr)(l2:Nat)(c2:Nat)(lk:Int)(la:Int)(lt:Int)(ra:Option Addr)(rl:Nat)(rc:Nat)(fm:Int)(nm:ByteArray)(X:Ex)(M:List R.Rg.Rc)(mr:Bool)(w:World)(hg:Gd w)(ht:Rd w X (.agg #[.int .i64 tk,.int .i64 tm,.string tt,.bool tb,.int .i64 te,.slice a1 l1 c1,.slice a2 l2 c2]))(hr:R.Sl R.rc 4 w (.slice ra rl rc) M)(hvt:vt.size≤1000000)(hsh:sh.size≤1000000)(hnm:nm.size≤1000000)(hs:Sm X)(hn:nodes X≤1000)(hM:M.length≤1000000000000)(hmr:MR M mr):Calls Tryz.prog 8 #[.agg #[.int .i64 4,.string sh,.int .i64 row,.int .i64 col,.bool f,.int .i64 vk,.int .i64 vn,.string vt,.bool vb,.int .i64 ve,.int .i64 tk,.int .i64 tm,.string tt,.bool tb,.int .i64 te,.slice a1 l1 c1,.slice a2 l2 c2,.int .i64 lk,.int .i64 la,.int .i64 lt,.slice ra rl rc,.int .i64 fm,.string nm]] w fun e V'=>e=.returned (.bool (mayO (⟨4,sh,row,col,f,vk,vn,vt,vb,ve,tk,tm,tt,tb,te,a1,l1,c1,a2,l2,c2,lk,la,lt,ra,rl,rc,fm,nm⟩:Rv) X M mr))∧Q w V':=by
 have HI:=hid (fun V (q:Q w V)=>id_any sh V (hg.on q).1 (by omega))
 obtain ⟨eb,heb⟩:=oe_ex (⟨4,sh,row,col,f,vk,vn,vt,vb,ve,tk,tm,tt,tb,te,a1,l1,c1,a2,l2,c2,lk,la,lt,none,0,0,0,nm⟩:Rv) (⟨4,sh,0,0,false,0,0,⟨#[]⟩,false,0,0,0,⟨#[]⟩,false,0,none,0,0,none,0,0,0,0,0,none,0,0,0,⟨#[]⟩⟩:Rv) X zeroE [] [];have HE:=hid (fun V (q:Q w V)=>opeq_any (⟨4,sh,row,col,f,vk,vn,vt,vb,ve,tk,tm,tt,tb,te,a1,l1,c1,a2,l2,c2,lk,la,lt,none,0,0,0,nm⟩:Rv) (⟨4,sh,0,0,false,0,0,⟨#[]⟩,false,0,0,0,⟨#[]⟩,false,0,none,0,0,none,0,0,0,0,0,none,0,0,0,⟨#[]⟩⟩:Rv) X zeroE [] [] eb V ⟨Rd.on q _ _ ht,R.sl_nil V⟩ ⟨rd_zero V,R.sl_nil V⟩ hn (by simp) (by simp) heb)
 unfold Rv.v at HE
 have H1:=hid (fun V (q:Q w V)=>mayRects_any _ M mr V (hr.on q) hmr)
 have H2:=hid (fun V (q:Q w V)=>(mayFormat_any fm V).mono fun e V' h=>(⟨h.1,h.2 ▸ Q.refl _⟩:e=.returned (.bool (fmB fm))∧Q V V'))
 refine (om4 4 sh (.int .i64 row) (.int .i64 col) (.bool f) (.int .i64 vk) (.int .i64 vn) (.string vt) (.bool vb) (.int .i64 ve) (.int .i64 tk) (.int .i64 tm) (.string tt) (.bool tb) (.int .i64 te) (.slice a1 l1 c1) (.slice a2 l2 c2) (.int .i64 lk) (.int .i64 la) (.int .i64 lt) (.slice ra rl rc) (.int .i64 fm) (.string nm) w mr (fmB fm) (idB sh.data.toList) eb (by decide) (by decide) (by decide) (by decide) (hid (by kernel_rfl)) H1 H2 HI HE).mono fun e V' h=>⟨h.1.trans (ret_bool ?_),h.2⟩
 have hz:eb=(zRow ⟨4,sh,row,col,f,vk,vn,vt,vb,ve,tk,tm,tt,tb,te,a1,l1,c1,a2,l2,c2,lk,la,lt,ra,rl,rc,fm,nm⟩&&(zCell ⟨4,sh,row,col,f,vk,vn,vt,vb,ve,tk,tm,tt,tb,te,a1,l1,c1,a2,l2,c2,lk,la,lt,ra,rl,rc,fm,nm⟩ X&&(zLine ⟨4,sh,row,col,f,vk,vn,vt,vb,ve,tk,tm,tt,tb,te,a1,l1,c1,a2,l2,c2,lk,la,lt,ra,rl,rc,fm,nm⟩&&zNm ⟨4,sh,row,col,f,vk,vn,vt,vb,ve,tk,tm,tt,tb,te,a1,l1,c1,a2,l2,c2,lk,la,lt,ra,rl,rc,fm,nm⟩))):=by
  rw [Bool.eq_iff_iff,heb];simp only [oE,vE,zRow,zCell,zLine,zFm,zNm,Bool.and_eq_true,decide_eq_true_eq,isZ_iff,List.isEmpty_iff,true_and,and_true,e_nil]
  first|exact Iff.rfl|(constructor <;> (intro hh;simp_all))
 rw [hz];unfold mayO
 rw [if_neg (by simp),if_neg (by simp),if_pos rfl]
 simp only [Bool.and_true,Bool.true_and,Bool.and_assoc,Bool.and_comm,Bool.and_left_comm]
theorem opm5(sh:ByteArray)(row:Int)(col:Int)(f:Bool)(vk:Int)(vn:Int)(vt:ByteArray)(vb:Bool)(ve:Int)(tk:Int)(tm:Int)(tt:ByteArray)(tb:Bool)(te:Int)(a1:Option Addr)(l1:Nat)(c1:Nat)(a2:Option Addr)(l2:Nat)(c2:Nat)(lk:Int)(la:Int)(lt:Int)(ra:Option Addr)(rl:Nat)(rc:Nat)(fm:Int)(nm:ByteArray)(X:Ex)(M:List R.Rg.Rc)(mr:Bool)(w:World)(hg:Gd w)(ht:Rd w X (.agg #[.int .i64 tk,.int .i64 tm,.string tt,.bool tb,.int .i64 te,.slice a1 l1 c1,.slice a2 l2 c2]))(hr:R.Sl R.rc 4 w (.slice ra rl rc) M)(hvt:vt.size≤1000000)(hsh:sh.size≤1000000)(hnm:nm.size≤1000000)(hs:Sm X)(hn:nodes X≤1000)(hM:M.length≤1000000000000)(hmr:MR M mr):Calls Tryz.prog 8 #[.agg #[.int .i64 5,.string sh,.int .i64 row,.int .i64 col,.bool f,.int .i64 vk,.int .i64 vn,.string vt,.bool vb,.int .i64 ve,.int .i64 tk,.int .i64 tm,.string tt,.bool tb,.int .i64 te,.slice a1 l1 c1,.slice a2 l2 c2,.int .i64 lk,.int .i64 la,.int .i64 lt,.slice ra rl rc,.int .i64 fm,.string nm]] w fun e V'=>e=.returned (.bool (mayO (⟨5,sh,row,col,f,vk,vn,vt,vb,ve,tk,tm,tt,tb,te,a1,l1,c1,a2,l2,c2,lk,la,lt,ra,rl,rc,fm,nm⟩:Rv) X M mr))∧Q w V':=by
 have HI:=hid (fun V (q:Q w V)=>id_any sh V (hg.on q).1 (by omega))
 obtain ⟨eb,heb⟩:=oe_ex (⟨5,sh,row,col,f,vk,vn,vt,vb,ve,tk,tm,tt,tb,te,a1,l1,c1,a2,l2,c2,lk,la,lt,ra,rl,rc,fm,⟨#[]⟩⟩:Rv) (⟨5,sh,0,0,false,0,0,⟨#[]⟩,false,0,0,0,⟨#[]⟩,false,0,none,0,0,none,0,0,0,0,0,none,0,0,0,⟨#[]⟩⟩:Rv) X zeroE M [];have HE:=hid (fun V (q:Q w V)=>opeq_any (⟨5,sh,row,col,f,vk,vn,vt,vb,ve,tk,tm,tt,tb,te,a1,l1,c1,a2,l2,c2,lk,la,lt,ra,rl,rc,fm,⟨#[]⟩⟩:Rv) (⟨5,sh,0,0,false,0,0,⟨#[]⟩,false,0,0,0,⟨#[]⟩,false,0,none,0,0,none,0,0,0,0,0,none,0,0,0,⟨#[]⟩⟩:Rv) X zeroE M [] eb V ⟨Rd.on q _ _ ht,hr.on q⟩ ⟨rd_zero V,R.sl_nil V⟩ hn hM (by simp) heb)
 unfold Rv.v at HE
 have H1:=hid (fun V (q:Q w V)=>(mayName_any' nm V (by omega)).mono fun e V' h=>(⟨h.1,h.2 ▸ Q.refl _⟩:e=.returned (.bool (nmB nm.data.toList))∧Q V V'))
 refine (om5 5 sh (.int .i64 row) (.int .i64 col) (.bool f) (.int .i64 vk) (.int .i64 vn) (.string vt) (.bool vb) (.int .i64 ve) (.int .i64 tk) (.int .i64 tm) (.string tt) (.bool tb) (.int .i64 te) (.slice a1 l1 c1) (.slice a2 l2 c2) (.int .i64 lk) (.int .i64 la) (.int .i64 lt) (.slice ra rl rc) (.int .i64 fm) (.string nm) w (nmB nm.data.toList) (idB sh.data.toList) eb (by decide) (by decide) (by decide) (by decide) (by decide) (hid (by kernel_rfl)) H1 HI HE).mono fun e V' h=>⟨h.1.trans (ret_bool ?_),h.2⟩
 have hz:eb=(zRow ⟨5,sh,row,col,f,vk,vn,vt,vb,ve,tk,tm,tt,tb,te,a1,l1,c1,a2,l2,c2,lk,la,lt,ra,rl,rc,fm,nm⟩&&(zCell ⟨5,sh,row,col,f,vk,vn,vt,vb,ve,tk,tm,tt,tb,te,a1,l1,c1,a2,l2,c2,lk,la,lt,ra,rl,rc,fm,nm⟩ X&&(zLine ⟨5,sh,row,col,f,vk,vn,vt,vb,ve,tk,tm,tt,tb,te,a1,l1,c1,a2,l2,c2,lk,la,lt,ra,rl,rc,fm,nm⟩&&(M.isEmpty&&zFm ⟨5,sh,row,col,f,vk,vn,vt,vb,ve,tk,tm,tt,tb,te,a1,l1,c1,a2,l2,c2,lk,la,lt,ra,rl,rc,fm,nm⟩)))):=by
  rw [Bool.eq_iff_iff,heb];simp only [oE,vE,zRow,zCell,zLine,zFm,zNm,Bool.and_eq_true,decide_eq_true_eq,isZ_iff,List.isEmpty_iff,true_and,and_true,e_nil]
  first|exact Iff.rfl|(constructor <;> (intro hh;simp_all))
 rw [hz];unfold mayO
 rw [if_neg (by simp),if_neg (by simp),if_neg (by simp),if_pos (by simp)]
 simp only [Bool.and_true,Bool.true_and,Bool.and_assoc,Bool.and_comm,Bool.and_left_comm]
theorem opm6(sh:ByteArray)(row:Int)(col:Int)(f:Bool)(vk:Int)(vn:Int)(vt:ByteArray)(vb:Bool)(ve:Int)(tk:Int)(tm:Int)(tt:ByteArray)(tb:Bool)(te:Int)(a1:Option Addr)(l1:Nat)(c1:Nat)(a2:Option Addr)(l2:Nat)(c2:Nat)(lk:Int)(la:Int)(lt:Int)(ra:Option Addr)(rl:Nat)(rc:Nat)(fm:Int)(nm:ByteArray)(X:Ex)(M:List R.Rg.Rc)(mr:Bool)(w:World)(hg:Gd w)(ht:Rd w X (.agg #[.int .i64 tk,.int .i64 tm,.string tt,.bool tb,.int .i64 te,.slice a1 l1 c1,.slice a2 l2 c2]))(hr:R.Sl R.rc 4 w (.slice ra rl rc) M)(hvt:vt.size≤1000000)(hsh:sh.size≤1000000)(hnm:nm.size≤1000000)(hs:Sm X)(hn:nodes X≤1000)(hM:M.length≤1000000000000)(hmr:MR M mr):Calls Tryz.prog 8 #[.agg #[.int .i64 6,.string sh,.int .i64 row,.int .i64 col,.bool f,.int .i64 vk,.int .i64 vn,.string vt,.bool vb,.int .i64 ve,.int .i64 tk,.int .i64 tm,.string tt,.bool tb,.int .i64 te,.slice a1 l1 c1,.slice a2 l2 c2,.int .i64 lk,.int .i64 la,.int .i64 lt,.slice ra rl rc,.int .i64 fm,.string nm]] w fun e V'=>e=.returned (.bool (mayO (⟨6,sh,row,col,f,vk,vn,vt,vb,ve,tk,tm,tt,tb,te,a1,l1,c1,a2,l2,c2,lk,la,lt,ra,rl,rc,fm,nm⟩:Rv) X M mr))∧Q w V':=by
 have HI:=hid (fun V (q:Q w V)=>id_any sh V (hg.on q).1 (by omega))
 obtain ⟨eb,heb⟩:=oe_ex (⟨6,sh,row,col,f,vk,vn,vt,vb,ve,tk,tm,tt,tb,te,a1,l1,c1,a2,l2,c2,lk,la,lt,ra,rl,rc,fm,⟨#[]⟩⟩:Rv) (⟨6,sh,0,0,false,0,0,⟨#[]⟩,false,0,0,0,⟨#[]⟩,false,0,none,0,0,none,0,0,0,0,0,none,0,0,0,⟨#[]⟩⟩:Rv) X zeroE M [];have HE:=hid (fun V (q:Q w V)=>opeq_any (⟨6,sh,row,col,f,vk,vn,vt,vb,ve,tk,tm,tt,tb,te,a1,l1,c1,a2,l2,c2,lk,la,lt,ra,rl,rc,fm,⟨#[]⟩⟩:Rv) (⟨6,sh,0,0,false,0,0,⟨#[]⟩,false,0,0,0,⟨#[]⟩,false,0,none,0,0,none,0,0,0,0,0,none,0,0,0,⟨#[]⟩⟩:Rv) X zeroE M [] eb V ⟨Rd.on q _ _ ht,hr.on q⟩ ⟨rd_zero V,R.sl_nil V⟩ hn hM (by simp) heb)
 unfold Rv.v at HE
 have H1:=hid (fun V (q:Q w V)=>(mayName_any' nm V (by omega)).mono fun e V' h=>(⟨h.1,h.2 ▸ Q.refl _⟩:e=.returned (.bool (nmB nm.data.toList))∧Q V V'))
 refine (om6 6 sh (.int .i64 row) (.int .i64 col) (.bool f) (.int .i64 vk) (.int .i64 vn) (.string vt) (.bool vb) (.int .i64 ve) (.int .i64 tk) (.int .i64 tm) (.string tt) (.bool tb) (.int .i64 te) (.slice a1 l1 c1) (.slice a2 l2 c2) (.int .i64 lk) (.int .i64 la) (.int .i64 lt) (.slice ra rl rc) (.int .i64 fm) (.string nm) w (nmB nm.data.toList) (idB sh.data.toList) eb (by decide) (by decide) (by decide) (by decide) (by decide) (by decide) (hid (by kernel_rfl)) H1 HI HE).mono fun e V' h=>⟨h.1.trans (ret_bool ?_),h.2⟩
 have hz:eb=(zRow ⟨6,sh,row,col,f,vk,vn,vt,vb,ve,tk,tm,tt,tb,te,a1,l1,c1,a2,l2,c2,lk,la,lt,ra,rl,rc,fm,nm⟩&&(zCell ⟨6,sh,row,col,f,vk,vn,vt,vb,ve,tk,tm,tt,tb,te,a1,l1,c1,a2,l2,c2,lk,la,lt,ra,rl,rc,fm,nm⟩ X&&(zLine ⟨6,sh,row,col,f,vk,vn,vt,vb,ve,tk,tm,tt,tb,te,a1,l1,c1,a2,l2,c2,lk,la,lt,ra,rl,rc,fm,nm⟩&&(M.isEmpty&&zFm ⟨6,sh,row,col,f,vk,vn,vt,vb,ve,tk,tm,tt,tb,te,a1,l1,c1,a2,l2,c2,lk,la,lt,ra,rl,rc,fm,nm⟩)))):=by
  rw [Bool.eq_iff_iff,heb];simp only [oE,vE,zRow,zCell,zLine,zFm,zNm,Bool.and_eq_true,decide_eq_true_eq,isZ_iff,List.isEmpty_iff,true_and,and_true,e_nil]
  first|exact Iff.rfl|(constructor <;> (intro hh;simp_all))
 rw [hz];unfold mayO
 rw [if_neg (by simp),if_neg (by simp),if_neg (by simp),if_pos (by simp)]
 simp only [Bool.and_true,Bool.true_and,Bool.and_assoc,Bool.and_comm,Bool.and_left_comm]
theorem opm7(sh:ByteArray)(row:Int)(col:Int)(f:Bool)(vk:Int)(vn:Int)(vt:ByteArray)(vb:Bool)(ve:Int)(tk:Int)(tm:Int)(tt:ByteArray)(tb:Bool)(te:Int)(a1:Option Addr)(l1:Nat)(c1:Nat)(a2:Option Addr)(l2:Nat)(c2:Nat)(lk:Int)(la:Int)(lt:Int)(ra:Option Addr)(rl:Nat)(rc:Nat)(fm:Int)(nm:ByteArray)(X:Ex)(M:List R.Rg.Rc)(mr:Bool)(w:World)(hg:Gd w)(ht:Rd w X (.agg #[.int .i64 tk,.int .i64 tm,.string tt,.bool tb,.int .i64 te,.slice a1 l1 c1,.slice a2 l2 c2]))(hr:R.Sl R.rc 4 w (.slice ra rl rc) M)(hvt:vt.size≤1000000)(hsh:sh.size≤1000000)(hnm:nm.size≤1000000)(hs:Sm X)(hn:nodes X≤1000)(hM:M.length≤1000000000000)(hmr:MR M mr):Calls Tryz.prog 8 #[.agg #[.int .i64 7,.string sh,.int .i64 row,.int .i64 col,.bool f,.int .i64 vk,.int .i64 vn,.string vt,.bool vb,.int .i64 ve,.int .i64 tk,.int .i64 tm,.string tt,.bool tb,.int .i64 te,.slice a1 l1 c1,.slice a2 l2 c2,.int .i64 lk,.int .i64 la,.int .i64 lt,.slice ra rl rc,.int .i64 fm,.string nm]] w fun e V'=>e=.returned (.bool (mayO (⟨7,sh,row,col,f,vk,vn,vt,vb,ve,tk,tm,tt,tb,te,a1,l1,c1,a2,l2,c2,lk,la,lt,ra,rl,rc,fm,nm⟩:Rv) X M mr))∧Q w V':=by
 have HI:=hid (fun V (q:Q w V)=>id_any sh V (hg.on q).1 (by omega))
 obtain ⟨eb,heb⟩:=oe_ex (⟨7,sh,row,col,f,vk,vn,vt,vb,ve,tk,tm,tt,tb,te,a1,l1,c1,a2,l2,c2,lk,la,lt,ra,rl,rc,fm,nm⟩:Rv) (⟨7,sh,0,0,false,0,0,⟨#[]⟩,false,0,0,0,⟨#[]⟩,false,0,none,0,0,none,0,0,0,0,0,none,0,0,0,⟨#[]⟩⟩:Rv) X zeroE M [];have HE:=hid (fun V (q:Q w V)=>opeq_any (⟨7,sh,row,col,f,vk,vn,vt,vb,ve,tk,tm,tt,tb,te,a1,l1,c1,a2,l2,c2,lk,la,lt,ra,rl,rc,fm,nm⟩:Rv) (⟨7,sh,0,0,false,0,0,⟨#[]⟩,false,0,0,0,⟨#[]⟩,false,0,none,0,0,none,0,0,0,0,0,none,0,0,0,⟨#[]⟩⟩:Rv) X zeroE M [] eb V ⟨Rd.on q _ _ ht,hr.on q⟩ ⟨rd_zero V,R.sl_nil V⟩ hn hM (by simp) heb)
 unfold Rv.v at HE
 refine (om7 7 sh (.int .i64 row) (.int .i64 col) (.bool f) (.int .i64 vk) (.int .i64 vn) (.string vt) (.bool vb) (.int .i64 ve) (.int .i64 tk) (.int .i64 tm) (.string tt) (.bool tb) (.int .i64 te) (.slice a1 l1 c1) (.slice a2 l2 c2) (.int .i64 lk) (.int .i64 la) (.int .i64 lt) (.slice ra rl rc) (.int .i64 fm) (.string nm) w (idB sh.data.toList) eb (by decide) (by decide) (by decide) (by decide) (by decide) (by decide) (by decide) (hid (by kernel_rfl)) HI HE).mono fun e V' h=>⟨h.1.trans (ret_bool ?_),h.2⟩
 have hz:eb=(zRow ⟨7,sh,row,col,f,vk,vn,vt,vb,ve,tk,tm,tt,tb,te,a1,l1,c1,a2,l2,c2,lk,la,lt,ra,rl,rc,fm,nm⟩&&(zCell ⟨7,sh,row,col,f,vk,vn,vt,vb,ve,tk,tm,tt,tb,te,a1,l1,c1,a2,l2,c2,lk,la,lt,ra,rl,rc,fm,nm⟩ X&&(zLine ⟨7,sh,row,col,f,vk,vn,vt,vb,ve,tk,tm,tt,tb,te,a1,l1,c1,a2,l2,c2,lk,la,lt,ra,rl,rc,fm,nm⟩&&(M.isEmpty&&(zFm ⟨7,sh,row,col,f,vk,vn,vt,vb,ve,tk,tm,tt,tb,te,a1,l1,c1,a2,l2,c2,lk,la,lt,ra,rl,rc,fm,nm⟩&&zNm ⟨7,sh,row,col,f,vk,vn,vt,vb,ve,tk,tm,tt,tb,te,a1,l1,c1,a2,l2,c2,lk,la,lt,ra,rl,rc,fm,nm⟩))))):=by
  rw [Bool.eq_iff_iff,heb];simp only [oE,vE,zRow,zCell,zLine,zFm,zNm,Bool.and_eq_true,decide_eq_true_eq,isZ_iff,List.isEmpty_iff,true_and,and_true,e_nil]
  first|exact Iff.rfl|(constructor <;> (intro hh;simp_all))
 rw [hz];unfold mayO
 rw [if_neg (by simp),if_neg (by simp),if_neg (by simp),if_neg (by simp),decide_eq_true (rfl:(7:Int)=7)]
 simp only [Bool.and_true,Bool.true_and,Bool.and_assoc,Bool.and_comm,Bool.and_left_comm]
theorem opmay_any(x:Rv)(X:Ex)(M:List R.Rg.Rc)(mr:Bool)(w:World)(hg:Gd w)(hx:RO w x X M)(ok:OK1 x X M)(hmr:MR M mr):Calls Tryz.prog 8 #[x.v] w fun e V'=>e=.returned (.bool (mayO x X M mr))∧Q w V':=by
 obtain ⟨ht,hr⟩:=hx;obtain ⟨osh,onm,ovt,os,on,oM⟩:=ok;obtain ⟨k,sh,row,col,f,vk,vn,vt,vb,ve,tk,tm,tt,tb,te,a1,l1,c1,a2,l2,c2,lk,la,lt,ra,rl,rc,fm,nm⟩:=x;unfold Rv.v
 by_cases h1:k=1
 ·subst h1
  exact opm1 sh row col f vk vn vt vb ve tk tm tt tb te a1 l1 c1 a2 l2 c2 lk la lt ra rl rc fm nm X M mr w hg ht hr ovt osh onm os on (by omega) hmr
 by_cases h2:k=2
 ·subst h2
  exact opm2 sh row col f vk vn vt vb ve tk tm tt tb te a1 l1 c1 a2 l2 c2 lk la lt ra rl rc fm nm X M mr w hg ht hr ovt osh onm os on (by omega) hmr
 by_cases h3:k=3
 ·subst h3
  exact opm3 sh row col f vk vn vt vb ve tk tm tt tb te a1 l1 c1 a2 l2 c2 lk la lt ra rl rc fm nm X M mr w hg ht hr ovt osh onm os on (by omega) hmr
 by_cases h4:k=4
 ·subst h4
  exact opm4 sh row col f vk vn vt vb ve tk tm tt tb te a1 l1 c1 a2 l2 c2 lk la lt ra rl rc fm nm X M mr w hg ht hr ovt osh onm os on (by omega) hmr
 by_cases h5:k=5
 ·subst h5
  exact opm5 sh row col f vk vn vt vb ve tk tm tt tb te a1 l1 c1 a2 l2 c2 lk la lt ra rl rc fm nm X M mr w hg ht hr ovt osh onm os on (by omega) hmr
 by_cases h6:k=6
 ·subst h6
  exact opm6 sh row col f vk vn vt vb ve tk tm tt tb te a1 l1 c1 a2 l2 c2 lk la lt ra rl rc fm nm X M mr w hg ht hr ovt osh onm os on (by omega) hmr
 by_cases h7:k=7
 ·subst h7
  exact opm7 sh row col f vk vn vt vb ve tk tm tt tb te a1 l1 c1 a2 l2 c2 lk la lt ra rl rc fm nm X M mr w hg ht hr ovt osh onm os on (by omega) hmr
 have H0:Calls Tryz.prog 8 #[.agg #[.int .i64 k,.string sh,.int .i64 row,.int .i64 col,.bool f,.int .i64 vk,.int .i64 vn,.string vt,.bool vb,.int .i64 ve,.int .i64 tk,.int .i64 tm,.string tt,.bool tb,.int .i64 te,.slice a1 l1 c1,.slice a2 l2 c2,.int .i64 lk,.int .i64 la,.int .i64 lt,.slice ra rl rc,.int .i64 fm,.string nm]] w fun e V'=>e=.returned (.bool false)∧Q w V':=om0 k sh (.int .i64 row) (.int .i64 col) (.bool f) (.int .i64 vk) (.int .i64 vn) (.string vt) (.bool vb) (.int .i64 ve) (.int .i64 tk) (.int .i64 tm) (.string tt) (.bool tb) (.int .i64 te) (.slice a1 l1 c1) (.slice a2 l2 c2) (.int .i64 lk) (.int .i64 la) (.int .i64 lt) (.slice ra rl rc) (.int .i64 fm) (.string nm) w (by simpa using h1) (by simpa using h2) (by simpa using h3) (by simpa using h4) (by simpa using h5) (by simpa using h6) (by simpa using h7) (hid (by kernel_rfl))
 refine H0.mono fun e V' h=>⟨h.1.trans (ret_bool ?_),h.2⟩
 unfold mayO
 rw [if_neg h1,if_neg (fun x=>x.elim h2 h3),if_neg h4,if_neg (fun x=>x.elim h5 h6),decide_eq_false h7]
 simp
theorem Rv.len(x:Rv):x.L.length=23:=rfl
theorem Rv.one(x:Rv):x.L.toArray.all (·.oneCell')=true:=by
 cases x
 unfold Rv.L
 kernel_rfl
def OpG(W:World)(x:Rv)(b:Bool):Prop:=∃ X M mr,RO W x X M∧OK1 x X M∧MR M mr∧b=mayO x X M mr
theorem OpG.on{W W':World}{x:Rv}{b:Bool}(h:OpG W x b)(q:Q W W'):OpG W' x b:=by
 obtain ⟨X,M,mr,h1,h2,h3,h4⟩:=h;exact ⟨X,M,mr,h1.on q,h2,h3,h4⟩
theorem opmay_g(x:Rv)(b:Bool)(w:World)(hg:Gd w)(h:OpG w x b):Calls Tryz.prog 8 #[.agg x.L.toArray] w fun e V'=>e=.returned (.bool b)∧Q w V':=by
 obtain ⟨X,M,mr,h1,h2,h3,rfl⟩:=h;exact opmay_any x X M mr w hg h1 h2 h3
def zero23:Array Value:=#[.int .i64 0,.string ⟨#[]⟩,.int .i64 0,.int .i64 0,.bool false,.int .i64 0,.int .i64 0,.string ⟨#[]⟩,.bool false,.int .i64 0,.int .i64 0,.int .i64 0,.string ⟨#[]⟩,.bool false,.int .i64 0,.slice none 0 0,.slice none 0 0,.int .i64 0,.int .i64 0,.int .i64 0,.slice none 0 0,.int .i64 0,.string ⟨#[]⟩]
theorem wpl_lay(w:World){ops:Array Oper}{rest:List Oper}{o:Oper}{a:Act}{Q:Exit→Act→World→Prop}(x y:Operand)(ho:o.op=.store 35 x y)(hgd:o.guard=none)(z:Rv)
  (hx:a.eval x=.pointer (some ⟨w.heap.size,0,none⟩)) (hy:a.eval y=.agg z.L.toArray)
  {W:World} (hW:W=w.alloc (.cells zero23 35)) (h:wpList Tryz.prog ops Q rest (a.put o.dst undef) (w.alloc (.cells z.L.toArray 35))):wpList Tryz.prog ops Q (o::rest) a W:=by
 subst hW;refine wpList_store_row hgd 35 x y ho w.heap.size z.L.toArray hx hy 35 zero23 (heap_alloc_last w _) info35 rfl z.one ?_
 rw [World.setRow_alloc_new];exact h
theorem wpl_loadm{w:World}{ops:Array Oper}{rest:List Oper}{o:Oper}{a:Act}{Q:Exit→Act→World→Prop}(x:Operand)(ho:o.op=.load 35 x)(hw:Region.wanted o (yielded ops a.tmps)=true)
  (b off:Nat) (z:Rv) (hz:w.rangeAt b off z.L) (hx:a.eval x=.pointer (some ⟨b,off,none⟩))
  (h:wpList Tryz.prog ops Q rest (a.put o.dst (.agg z.L.toArray)) w):wpList Tryz.prog ops Q (o::rest) a w:=by
 simp only [wpList,hw,if_true]
 exact .inl (wp_load_mid 35 x ho b off hx z.L _ hz Tryz.underlying35 rfl info35 h)
theorem all_no'{xs:List Rv}{mb:Rv→Bool}{n:Nat}(h:n<xs.length)(hm:mb xs[n]=false):xs.all mb=false:=by
 rw [List.all_eq_false]
 exact ⟨_,List.getElem_mem h,by simp [hm]⟩
theorem all_succ{xs:List Rv}{mb:Rv→Bool}{n:Nat}(h:n<xs.length)(hm:mb xs[n]=true)(ha:(xs.take n).all mb=true):(xs.take (n+1)).all mb=true:=by
 rw [List.take_succ_eq_append_getElem h,List.all_append,ha];simp [hm]
theorem batch_any(v:Value)(xs:List Rv)(mb:Rv→Bool)(w:World)(hg:Gd w)(h:Sl Rv.L 23 w v xs)(ho:∀ x∈xs,OpG w x (mb x)):Calls Tryz.prog 15 #[v] w fun e V'=>e=.returned (.bool (decide (xs.length≤32)&&xs.all mb))∧Q w V':=by
 have HS:=hid h;have HG:=hid hg;have HO:=hid ho;obtain ⟨ao,cap,rfl,h1,h2⟩:=h.len;clear h hg ho;have h3:xs.length≤9223372036854775807:=Nat.le_trans h1 (by unfold maxLen at h2;omega)
 by_cases h32:(32:Int)<(xs.length:Int)
 ·have HR:Hid ((decide (xs.length≤32)&&xs.all mb)=false):=hid (by rw [decide_eq_false (by omega)];rfl)
  generalize (decide (xs.length≤32)&&xs.all mb)=r at HR ⊢;go_enter Tryz.func15,Tryz.ntmps15
  go_wp2_with fail
  go_ret
  exact ⟨ret_bool HR.out.symm,Q.refl _⟩
 ·have HR:Hid ((decide (xs.length≤32)&&xs.all mb)=xs.all mb):=hid (by rw [decide_eq_true (by omega)];rfl)
  generalize (decide (xs.length≤32)&&xs.all mb)=r at HR ⊢;go_enter Tryz.func15,Tryz.ntmps15
  go_wp2_with fail
  go_loopw [10] (fun s W=>∃ (n:Nat),n≤xs.length∧s=.int .i64 n∧Hid ((xs.take n).all mb=true)∧Q w W) (fun s _=>xs.length-(intOf s).toNat)
  case atStart=>exact ⟨0,Nat.zero_le _,rfl,hid rfl,Q.refl _⟩
  case round=>
   obtain ⟨n,hn,rfl,ha,hq⟩:=hrel;have HQ:=hid hq;clear hq;by_cases hlt:n<xs.length
   ·have hlt':(n:Int)<(xs.length:Int):=by omega
    obtain ⟨g,off,cap',e,_,_,hc⟩:=(HS.out.on HQ.out).at hlt;cases e
    have HX:=hid ((HO.out _ (List.getElem_mem hlt)).on HQ.out);have HRg:Hid (wr.rangeAt g (off+n*23) (xs[n]).L):=hid (fun j u hu=>hc j u hu)
    have HYes:=hid (fun hm=>all_succ hlt hm ha.out)
    have HNo:=hid (fun hm=>all_no' (mb:=mb) hlt hm)
    clear hc;generalize xs[n]=x at HX HRg HYes HNo;cases hm:mb x
    ·have HN:=hid (HNo.out hm)
     rw [hm]at HX;clear HYes HNo hm;go_wp2_with (first
      |(with_reducible refine wpl_loadm _ (by with_unfolding_all rfl) (by with_unfolding_all rfl) g (off+n*23) x (by with_unfolding_all exact HRg.out) (by with_unfolding_all rfl) ?_)
      |(with_reducible refine wpl_lay wr _ _ (by with_unfolding_all rfl) (by with_unfolding_all rfl) x (by with_unfolding_all rfl) (by with_unfolding_all rfl) (by with_unfolding_all rfl) ?_)
      |(with_reducible refine wpl_loadg _ (by with_unfolding_all rfl) (by with_unfolding_all rfl) wr.heap.size (by with_unfolding_all rfl) x.L (by with_unfolding_all exact cq_new wr x.L) (by with_unfolding_all rfl) ?_)
      |(go_at_call 8;refine (opmay_g x _ _ (HG.out.on (HQ.out.alloc _)) (HX.out.on ((Q.refl _).alloc _))).mono ?_;rintro e9 y1 ⟨rfl,q9⟩;have QY:Hid (Q w y1):=hid ((HQ.out.alloc _).trans q9);clear q9))
     go_ret
     exact ⟨ret_bool (by rw [HR.out,HN.out]),QY.out⟩
    ·have HN:=hid (HYes.out hm)
     rw [hm]at HX;clear HYes HNo hm;go_wp2_with (first
      |(with_reducible refine wpl_loadm _ (by with_unfolding_all rfl) (by with_unfolding_all rfl) g (off+n*23) x (by with_unfolding_all exact HRg.out) (by with_unfolding_all rfl) ?_)
      |(with_reducible refine wpl_lay wr _ _ (by with_unfolding_all rfl) (by with_unfolding_all rfl) x (by with_unfolding_all rfl) (by with_unfolding_all rfl) (by with_unfolding_all rfl) ?_)
      |(with_reducible refine wpl_loadg _ (by with_unfolding_all rfl) (by with_unfolding_all rfl) wr.heap.size (by with_unfolding_all rfl) x.L (by with_unfolding_all exact cq_new wr x.L) (by with_unfolding_all rfl) ?_)
      |(go_at_call 8;refine (opmay_g x _ _ (HG.out.on (HQ.out.alloc _)) (HX.out.on ((Q.refl _).alloc _))).mono ?_;rintro e9 y1 ⟨rfl,q9⟩;have QY:Hid (Q w y1):=hid ((HQ.out.alloc _).trans q9);clear q9))
     go_roundw
     case rel=>exact ⟨n+1,by omega,by go_num,HN,QY.out⟩
     case measure=>simp [intOf];omega
   ·have HN:Hid (xs.all mb=true):=by
     show _=_
     have:=ha.out
     rw [List.take_of_length_le (by omega)]at this
     exact this
    go_wp2_with fail
    go_ret
    exact ⟨ret_bool (by rw [HR.out,HN.out]),HQ.out⟩
theorem some_all(W0:World)(p:Nat)(hp0:W0.heap.size≤p):∀ (s:Nat) (x:Ex) (v:Value) (W:World) (d l:Nat),SizeOf.sizeOf x≤s→RdI W0 x v→Q W0 W→p<W.heap.size→W.cell? ⟨p,0,none⟩=some (.int .i64 (l:Int))→W.frozen? ⟨p,0,none⟩=false→1≤l→l≤220→d≤60→Calls Tryz.prog 60 #[v,.int .i64 (d:Int),.pointer (some ⟨p,0,none⟩)] W fun e W'=>RepS W0 p W (cutE x d l) e W':=by
 intro s
 induction s with
 |zero=>
  intro x v W d l hs
  cases x with
  |mk k n t b e rs ks=>simp at hs
 |succ s ih=>
  intro x v W d l hs hr hq hp hc hf h1 h2 hd
  cases x with
  |mk k n t b e rs ks=>
   unfold RdI at hr
   obtain ⟨rv',kv,hv,hsl,ao,cap,hk,hle,hmx,hkd⟩:=hr;obtain ⟨a1,c1,hrv,hl⟩:=hsl;have hsl':Sl rf 5 W0 (.slice a1 rs.length c1) rs:=⟨a1,c1,rfl,hl⟩
   subst hk hrv hv;have hstep:=some_step W0 p k n ⟨t.toArray⟩ b e rs ks a1 c1 ao cap W d l (hid hsl') (hid ⟨hle,hmx⟩) (hid hkd) (hid hq) hp0 hp hc hf h1 h2 hd
    (hid (fun i hi v W d l hr hq hp hc hf h1 h2 hd=>ih ks[i] v W d l (by have:=kid_size (k:=k) (n:=n) (t:=t) (b:=b) (e:=e) (rs:=rs) i hi;omega) hr hq hp hc hf h1 h2 hd))
   exact hstep
theorem cutx_any(x:Ex)(v:Value)(W0 W:World)(hr:RdI W0 x v)(hq0:Q W0 W):Calls Tryz.prog 41 #[v] W fun e W'=>∃ v',e=.returned v'∧Rdg (fun b=>b<W0.heap.size∨W.heap.size≤b) W' (cutE x 1 220).1 v'∧Q W W':=by
 have hw0:=hq0.size;have HS:=hid (fun p (hp:W0.heap.size≤p) V (q:Q W0 V) (hpv:p<V.heap.size) (hc:V.cell? ⟨p,0,none⟩=some (.int .i64 ((220:Nat):Int))) (hf:V.frozen? ⟨p,0,none⟩=false)=>some_all W0 p hp (SizeOf.sizeOf x) x v V 1 220 (Nat.le_refl _) hr q hpv hc hf (by omega) (by omega) (by omega))
 obtain ⟨k,n,t,b,e,a1,l1,c1,a2,l2,c2,rfl⟩:=hr.shape;clear hr;have t2:=tb_new (W.alloc (.cells #[.int .i64 k,.int .i64 n,.string t,.bool b,.int .i64 e,.slice a1 l1 c1,.slice a2 l2 c2] 28)) (.int .i64 0) (.int .i64 0) (.string ⟨#[]⟩) (.bool false) (.int .i64 0) (.slice none 0 0) (.slice none 0 0) 28;rw [show (W.alloc (.cells #[.int .i64 k,.int .i64 n,.string t,.bool b,.int .i64 e,.slice a1 l1 c1,.slice a2 l2 c2] 28)).heap.size=W.heap.size+1 by simp]at t2
 have T2:=hid (t2.on (p:=W.heap.size) ((Qx.refl _ _).alloc (.cells #[.int .i64 220] 3)) (by omega))
 clear t2;have hsz:(((W.alloc (.cells #[.int .i64 k,.int .i64 n,.string t,.bool b,.int .i64 e,.slice a1 l1 c1,.slice a2 l2 c2] 28)).alloc (.cells #[.int .i64 0,.int .i64 0,.string ⟨#[]⟩,.bool false,.int .i64 0,.slice none 0 0,.slice none 0 0] 28)).alloc (.cells #[.int .i64 220] 3)).heap.size=W.heap.size+3:=by simp
 have HV:=hid (HS.out (W.heap.size+1+1) (by omega) (((W.alloc (.cells #[.int .i64 k,.int .i64 n,.string t,.bool b,.int .i64 e,.slice a1 l1 c1,.slice a2 l2 c2] 28)).alloc (.cells #[.int .i64 0,.int .i64 0,.string ⟨#[]⟩,.bool false,.int .i64 0,.slice none 0 0,.slice none 0 0] 28)).alloc (.cells #[.int .i64 220] 3)) (((hq0.alloc _).alloc _).alloc _) (by rw [hsz];omega) (by
  have h:=(World.cell?_alloc_new ((W.alloc (.cells #[.int .i64 k,.int .i64 n,.string t,.bool b,.int .i64 e,.slice a1 l1 c1,.slice a2 l2 c2] 28)).alloc (.cells #[.int .i64 0,.int .i64 0,.string ⟨#[]⟩,.bool false,.int .i64 0,.slice none 0 0,.slice none 0 0] 28)) #[.int .i64 220] 3 0);simp only [World.alloc,Array.size_push]at h ⊢
  simpa using h) (by
  have h:=(World.frozen?_alloc_new ((W.alloc (.cells #[.int .i64 k,.int .i64 n,.string t,.bool b,.int .i64 e,.slice a1 l1 c1,.slice a2 l2 c2] 28)).alloc (.cells #[.int .i64 0,.int .i64 0,.string ⟨#[]⟩,.bool false,.int .i64 0,.slice none 0 0,.slice none 0 0] 28)) #[.int .i64 220] 3 0);simp only [World.alloc,Array.size_push]at h ⊢
  simpa using h))
 go_enter Tryz.func41,Tryz.ntmps41
 go_wp2_with (go_at_call 60;refine HV.out.mono ?_;rintro e8 w5 ⟨v8,rfl,hr8,q8,_,_⟩;obtain ⟨k8,m8,t8,bb8,er8,a18,l18,c18,a28,l28,c28,rfl⟩:=hr8.shape;have R8:=hid hr8;have Q8:=hid q8;have T8:=hid (T2.out.on q8 (by omega));clear hr8 q8;obtain ⟨z0,z1,z2,z3,z4,z5,z6,zf⟩:=T8.out;have y0:=zf 0;have y1:=zf 1;have y2:=zf 2;have y3:=zf 3;have y4:=zf 4;have y5:=zf 5;have y6:=zf 6;clear zf)
 refine bodyPost_ret (v:=.agg #[.int .i64 k8,.int .i64 m8,.string t8,.bool bb8,.int .i64 er8,.slice a18 l18 c18,.slice a28 l28 c28]) (by simp [results,Tryz.results41,go_sem,z0,z1,z2,z3,z4,z5,z6]) rfl ?_
 have QF:Qx (W.heap.size+1) w5 (((((((w5.setCell ⟨W.heap.size+1,0,none⟩ (.int .i64 k8)).setCell ⟨W.heap.size+1,1,none⟩ (.int .i64 m8)).setCell ⟨W.heap.size+1,2,none⟩ (.string t8)).setCell ⟨W.heap.size+1,3,none⟩ (.bool bb8)).setCell ⟨W.heap.size+1,4,none⟩ (.int .i64 er8)).setCell ⟨W.heap.size+1,5,none⟩ (.slice a18 l18 c18)).setCell ⟨W.heap.size+1,6,none⟩ (.slice a28 l28 c28)):=(((((((Qx.refl _ _).own _ _).own _ _).own _ _).own _ _).own _ _).own _ _).own _ _
 have hq5:Q W w5:=by
  have h:=Q8.out;refine ⟨h.os,h.tape,h.output,by have:=h.size;omega,fun i hi=>(h.block i (by omega) (fun e=>by have:=Option.some.inj e;omega)).trans ?_⟩
  exact Q.block ((((Q.refl W).alloc _).alloc _).alloc _) hi
 refine ⟨_,rfl,Rdg.mono (fun b hb=>by rw [hsz]at hb;omega) _ _ (Rdg.on QF (fun b hb=>by rw [hsz]at hb;omega) _ _ R8.out),?_⟩
 exact ⟨QF.os.trans hq5.os,QF.tape.trans hq5.tape,QF.output.trans hq5.output,Nat.le_trans hq5.size QF.size,fun i hi=>(QF.block i (Nat.lt_of_lt_of_le hi hq5.size) (fun e=>by have:=Option.some.inj e;omega)).trans (Q.block hq5 hi)⟩
theorem Cb.put1{W:World}{q:Nat}{cs:List Value}(h:Cb W q cs)(j:Nat)(hj:j<cs.length)(d:Value):Cb (W.setCell ⟨q,j,none⟩ d) q (cs.set j d):=by
 refine ⟨fun i u hu=>?_,fun i=>?_,by simpa [World.setCell] using h.l⟩
 ·by_cases e:i=j
  ·subst e
   rw [List.getElem?_set_self hj]at hu;cases hu
   exact World.cell?_setCell_same _ _ _ (h.c i _ (List.getElem?_eq_getElem hj))
  ·rw [List.getElem?_set_ne (fun x=>e x.symm)]at hu
   rw [World.cell?_setCell_other _ _ _ _ (by simp;try omega)]
   exact h.c i u hu
 ·simp only [World.frozen?_setCell]
  exact h.f i
theorem Cb.onx{p:Nat}{W W':World}{q:Nat}{cs:List Value}(h:Cb W q cs)(x:Qx p W W')(hq:q≠p):Cb W' q cs:=
 ⟨fun j u hu=>(x.cell h.l hq).trans (h.c j u hu),fun j=>(World.frozen?_of_block (x.block q h.l (fun e=>hq (Option.some.inj e)))).trans (h.f j),Nat.lt_of_lt_of_le h.l x.size⟩
theorem Q.viaq{p:Nat}{a b c:World}(h:Q a b)(k:Qx p b c)(hp:a.heap.size≤p):Q a c:=
 ⟨k.os.trans h.os,k.tape.trans h.tape,k.output.trans h.output,Nat.le_trans h.size k.size,fun i hi=>(k.block i (Nat.lt_of_lt_of_le hi h.size) (fun e=>by have:=Option.some.inj e;omega)).trans (Q.block h hi)⟩
theorem cutc_any(f:Bool)(vk vn:Int)(vt:ByteArray)(vb:Bool)(ve:Int)(k m:Int)(t:ByteArray)(bb:Bool)(er:Int)(a1:Option Addr)(l1 c1:Nat)(a2:Option Addr)(l2 c2:Nat)(X:Ex)(W0 W:World)(hr:RdI W0 X (.agg #[.int .i64 k,.int .i64 m,.string t,.bool bb,.int .i64 er,.slice a1 l1 c1,.slice a2 l2 c2]))(hq0:Q W0 W):Calls Tryz.prog 18 #[.agg #[.bool f,.int .i64 vk,.int .i64 vn,.string vt,.bool vb,.int .i64 ve,.int .i64 k,.int .i64 m,.string t,.bool bb,.int .i64 er,.slice a1 l1 c1,.slice a2 l2 c2]] W fun e W'=>∃ (k8 m8:Int) (t8:ByteArray) (bb8:Bool) (er8:Int) (a18:Option Addr) (l18 c18:Nat) (a28:Option Addr) (l28 c28:Nat),e=.returned (.agg #[.bool f,.int .i64 vk,.int .i64 vn,.string (cuT vt),.bool vb,.int .i64 ve,.int .i64 k8,.int .i64 m8,.string t8,.bool bb8,.int .i64 er8,.slice a18 l18 c18,.slice a28 l28 c28])∧Rdg (fun b=>b<W0.heap.size∨W.heap.size≤b) W' (cutE X 1 220).1 (.agg #[.int .i64 k8,.int .i64 m8,.string t8,.bool bb8,.int .i64 er8,.slice a18 l18 c18,.slice a28 l28 c28])∧Q W W':=by
 have hw0:=hq0.size;have HC:=hid (fun V (q:Q W0 V)=>cutx_any X _ W0 V hr q)
 have HV:=hid (fun V=>cut2_any vk vn vt vb ve V)
 unfold vx at HV
 have HQ0:=hid hq0;generalize (cutE X 1 220).1=Y at HC ⊢;clear hr hq0;go_enter Tryz.func18,Tryz.ntmps18
 go_upto_region 1 with fail
 have Z0:=hid ((cb_new W [.bool f,.int .i64 vk,.int .i64 vn,.string vt,.bool vb,.int .i64 ve,.int .i64 k,.int .i64 m,.string t,.bool bb,.int .i64 er,.slice a1 l1 c1,.slice a2 l2 c2] 30).on ((Q.refl _).alloc (.cells #[.bool false,.int .i64 0,.int .i64 0,.string ⟨#[]⟩,.bool false,.int .i64 0,.int .i64 0,.int .i64 0,.string ⟨#[]⟩,.bool false,.int .i64 0,.slice none 0 0,.slice none 0 0] 30)));have R0:=hid (cb_new (W.alloc (.cells #[.bool f,.int .i64 vk,.int .i64 vn,.string vt,.bool vb,.int .i64 ve,.int .i64 k,.int .i64 m,.string t,.bool bb,.int .i64 er,.slice a1 l1 c1,.slice a2 l2 c2] 30)) [.bool false,.int .i64 0,.int .i64 0,.string ⟨#[]⟩,.bool false,.int .i64 0,.int .i64 0,.int .i64 0,.string ⟨#[]⟩,.bool false,.int .i64 0,.slice none 0 0,.slice none 0 0] 30);have Q0:Hid (Q W ((W.alloc (.cells #[.bool f,.int .i64 vk,.int .i64 vn,.string vt,.bool vb,.int .i64 ve,.int .i64 k,.int .i64 m,.string t,.bool bb,.int .i64 er,.slice a1 l1 c1,.slice a2 l2 c2] 30)).alloc (.cells #[.bool false,.int .i64 0,.int .i64 0,.string ⟨#[]⟩,.bool false,.int .i64 0,.int .i64 0,.int .i64 0,.string ⟨#[]⟩,.bool false,.int .i64 0,.slice none 0 0,.slice none 0 0] 30))):=hid (((Q.refl W).alloc _).alloc _)
 have hz0:((W.alloc (.cells #[.bool f,.int .i64 vk,.int .i64 vn,.string vt,.bool vb,.int .i64 ve,.int .i64 k,.int .i64 m,.string t,.bool bb,.int .i64 er,.slice a1 l1 c1,.slice a2 l2 c2] 30)).alloc (.cells #[.bool false,.int .i64 0,.int .i64 0,.string ⟨#[]⟩,.bool false,.int .i64 0,.int .i64 0,.int .i64 0,.string ⟨#[]⟩,.bool false,.int .i64 0,.slice none 0 0,.slice none 0 0] 30)).heap.size=W.heap.size+2:=by simp
 rw [show ([.bool f,.int .i64 vk,.int .i64 vn,.string vt,.bool vb,.int .i64 ve,.int .i64 k,.int .i64 m,.string t,.bool bb,.int .i64 er,.slice a1 l1 c1,.slice a2 l2 c2]:List Value).toArray=#[.bool f,.int .i64 vk,.int .i64 vn,.string vt,.bool vb,.int .i64 ve,.int .i64 k,.int .i64 m,.string t,.bool bb,.int .i64 er,.slice a1 l1 c1,.slice a2 l2 c2] from rfl]at Z0
 rw [show ([.bool false,.int .i64 0,.int .i64 0,.string ⟨#[]⟩,.bool false,.int .i64 0,.int .i64 0,.int .i64 0,.string ⟨#[]⟩,.bool false,.int .i64 0,.slice none 0 0,.slice none 0 0]:List Value).toArray=#[.bool false,.int .i64 0,.int .i64 0,.string ⟨#[]⟩,.bool false,.int .i64 0,.int .i64 0,.int .i64 0,.string ⟨#[]⟩,.bool false,.int .i64 0,.slice none 0 0,.slice none 0 0] from rfl,show (W.alloc (.cells #[.bool f,.int .i64 vk,.int .i64 vn,.string vt,.bool vb,.int .i64 ve,.int .i64 k,.int .i64 m,.string t,.bool bb,.int .i64 er,.slice a1 l1 c1,.slice a2 l2 c2] 30)).heap.size=W.heap.size+1 by simp]at R0
 generalize (W.alloc (.cells #[.bool f,.int .i64 vk,.int .i64 vn,.string vt,.bool vb,.int .i64 ve,.int .i64 k,.int .i64 m,.string t,.bool bb,.int .i64 er,.slice a1 l1 c1,.slice a2 l2 c2] 30)).alloc (.cells #[.bool false,.int .i64 0,.int .i64 0,.string ⟨#[]⟩,.bool false,.int .i64 0,.int .i64 0,.int .i64 0,.string ⟨#[]⟩,.bool false,.int .i64 0,.slice none 0 0,.slice none 0 0] 30)=V0 at Z0 R0 Q0 hz0 ⊢;have d0:=Z0.out.c 0 _ rfl;have d1:=Z0.out.c 1 _ rfl;have d2:=Z0.out.c 2 _ rfl;have d3:=Z0.out.c 3 _ rfl;have d4:=Z0.out.c 4 _ rfl;have d5:=Z0.out.c 5 _ rfl;have d6:=Z0.out.c 6 _ rfl;have d7:=Z0.out.c 7 _ rfl;have d8:=Z0.out.c 8 _ rfl;have d9:=Z0.out.c 9 _ rfl;have d10:=Z0.out.c 10 _ rfl;have d11:=Z0.out.c 11 _ rfl;have d12:=Z0.out.c 12 _ rfl;go_upto_region 2 with (go_at_call 40;refine (HV.out _).mono ?_;rintro e8 w1 ⟨rfl,q1⟩;have Z1:=hid (Z0.out.on q1);have R1:=hid (R0.out.on q1);have Q1:=hid (Q0.out.trans q1);have hz1:W.heap.size+2≤w1.heap.size:=(by have:=q1.size;omega);clear q1;have p0:=Z1.out.c 0 _ rfl;have p1:=Z1.out.c 1 _ rfl;have p2:=Z1.out.c 2 _ rfl;have p3:=Z1.out.c 3 _ rfl;have p4:=Z1.out.c 4 _ rfl;have p5:=Z1.out.c 5 _ rfl;have p6:=Z1.out.c 6 _ rfl;have p7:=Z1.out.c 7 _ rfl;have p8:=Z1.out.c 8 _ rfl;have p9:=Z1.out.c 9 _ rfl;have p10:=Z1.out.c 10 _ rfl;have p11:=Z1.out.c 11 _ rfl;have p12:=Z1.out.c 12 _ rfl;have pf1:=Z1.out.f 1;have pf2:=Z1.out.f 2;have pf3:=Z1.out.f 3;have pf4:=Z1.out.f 4;have pf5:=Z1.out.f 5)
 obtain ⟨V1,hV1⟩:∃ V1,V1=(((((w1.setCell ⟨W.heap.size,1,none⟩ (.int .i64 vk)).setCell ⟨W.heap.size,2,none⟩ (.int .i64 vn)).setCell ⟨W.heap.size,3,none⟩ (.string (cuT vt))).setCell ⟨W.heap.size,4,none⟩ (.bool vb)).setCell ⟨W.heap.size,5,none⟩ (.int .i64 ve)):=⟨_,rfl⟩;have X1:Qx W.heap.size w1 V1:=by rw [hV1];exact ((((((Qx.refl _ _).own _ _).own _ _).own _ _).own _ _).own _ _)
 have Z2:Hid (Cb V1 W.heap.size [.bool f,.int .i64 vk,.int .i64 vn,.string (cuT vt),.bool vb,.int .i64 ve,.int .i64 k,.int .i64 m,.string t,.bool bb,.int .i64 er,.slice a1 l1 c1,.slice a2 l2 c2]):=hid (by rw [hV1];exact (((((Z1.out.put1 1 (by simp) (.int .i64 vk)).put1 2 (by simp) (.int .i64 vn)).put1 3 (by simp) (.string (cuT vt))).put1 4 (by simp) (.bool vb)).put1 5 (by simp) (.int .i64 ve)))
 have R2:=hid (R1.out.onx X1 (by omega))
 have Q2:=hid (Q1.out.viaq X1 (Nat.le_refl _));have hz2:W.heap.size+2≤V1.heap.size:=Nat.le_trans hz1 X1.size
 rw [←hV1];clear hV1 X1 Z0 R0 Q0 hz0 Z1 R1 Q1 hz1 d0 d1 d2 d3 d4 d5 d6 d7 d8 d9 d10 d11 d12 p0 p1 p2 p3 p4 p5 p6 p7 p8 p9 p10 p11 p12 pf1 pf2 pf3 pf4 pf5;have HC1:=hid (HC.out V1 (HQ0.out.trans Q2.out));have d0:=Z2.out.c 0 _ rfl;have d1:=Z2.out.c 1 _ rfl;have d2:=Z2.out.c 2 _ rfl;have d3:=Z2.out.c 3 _ rfl;have d4:=Z2.out.c 4 _ rfl;have d5:=Z2.out.c 5 _ rfl;have d6:=Z2.out.c 6 _ rfl;have d7:=Z2.out.c 7 _ rfl;have d8:=Z2.out.c 8 _ rfl;have d9:=Z2.out.c 9 _ rfl;have d10:=Z2.out.c 10 _ rfl;have d11:=Z2.out.c 11 _ rfl;have d12:=Z2.out.c 12 _ rfl;go_upto_region 3 with (go_at_call 41;refine HC1.out.mono ?_;rintro e8 w2 ⟨vA,rfl,hrA,q2⟩;obtain ⟨k8,m8,t8,bb8,er8,a18,l18,c18,a28,l28,c28,rfl⟩:=hrA.shape;have RA:=hid hrA;have Z3:=hid (Z2.out.on q2);have R3:=hid (R2.out.on q2);have Q3:=hid (Q2.out.trans q2);have hz3:W.heap.size+2≤w2.heap.size:=(by have:=q2.size;omega);clear q2 hrA;have p0:=Z3.out.c 0 _ rfl;have p1:=Z3.out.c 1 _ rfl;have p2:=Z3.out.c 2 _ rfl;have p3:=Z3.out.c 3 _ rfl;have p4:=Z3.out.c 4 _ rfl;have p5:=Z3.out.c 5 _ rfl;have p6:=Z3.out.c 6 _ rfl;have p7:=Z3.out.c 7 _ rfl;have p8:=Z3.out.c 8 _ rfl;have p9:=Z3.out.c 9 _ rfl;have p10:=Z3.out.c 10 _ rfl;have p11:=Z3.out.c 11 _ rfl;have p12:=Z3.out.c 12 _ rfl;have pf6:=Z3.out.f 6;have pf7:=Z3.out.f 7;have pf8:=Z3.out.f 8;have pf9:=Z3.out.f 9;have pf10:=Z3.out.f 10;have pf11:=Z3.out.f 11;have pf12:=Z3.out.f 12)
 obtain ⟨V2,hV2⟩:∃ V2,V2=(((((((w2.setCell ⟨W.heap.size,6,none⟩ (.int .i64 k8)).setCell ⟨W.heap.size,7,none⟩ (.int .i64 m8)).setCell ⟨W.heap.size,8,none⟩ (.string t8)).setCell ⟨W.heap.size,9,none⟩ (.bool bb8)).setCell ⟨W.heap.size,10,none⟩ (.int .i64 er8)).setCell ⟨W.heap.size,11,none⟩ (.slice a18 l18 c18)).setCell ⟨W.heap.size,12,none⟩ (.slice a28 l28 c28)):=⟨_,rfl⟩;have X3:Qx W.heap.size w2 V2:=by rw [hV2];exact ((((((((Qx.refl _ _).own _ _).own _ _).own _ _).own _ _).own _ _).own _ _).own _ _)
 have Z4:Hid (Cb V2 W.heap.size [.bool f,.int .i64 vk,.int .i64 vn,.string (cuT vt),.bool vb,.int .i64 ve,.int .i64 k8,.int .i64 m8,.string t8,.bool bb8,.int .i64 er8,.slice a18 l18 c18,.slice a28 l28 c28]):=hid (by rw [hV2];exact (((((((Z3.out.put1 6 (by simp) (.int .i64 k8)).put1 7 (by simp) (.int .i64 m8)).put1 8 (by simp) (.string t8)).put1 9 (by simp) (.bool bb8)).put1 10 (by simp) (.int .i64 er8)).put1 11 (by simp) (.slice a18 l18 c18)).put1 12 (by simp) (.slice a28 l28 c28)))
 have R4:=hid (R3.out.onx X3 (by omega))
 have Q4:=hid (Q3.out.viaq X3 (Nat.le_refl _));have RB:=hid (Rdg.on X3 (fun b hb=>by omega) _ _ RA.out)
 rw [←hV2];clear hV2 X3 Z2 R2 Q2 Z3 R3 Q3 RA d0 d1 d2 d3 d4 d5 d6 d7 d8 d9 d10 d11 d12 p0 p1 p2 p3 p4 p5 p6 p7 p8 p9 p10 p11 p12 pf6 pf7 pf8 pf9 pf10 pf11 pf12;have d0:=Z4.out.c 0 _ rfl;have d1:=Z4.out.c 1 _ rfl;have d2:=Z4.out.c 2 _ rfl;have d3:=Z4.out.c 3 _ rfl;have d4:=Z4.out.c 4 _ rfl;have d5:=Z4.out.c 5 _ rfl;have d6:=Z4.out.c 6 _ rfl;have d7:=Z4.out.c 7 _ rfl;have d8:=Z4.out.c 8 _ rfl;have d9:=Z4.out.c 9 _ rfl;have d10:=Z4.out.c 10 _ rfl;have d11:=Z4.out.c 11 _ rfl;have d12:=Z4.out.c 12 _ rfl;have r0:=R4.out.c 0 _ rfl;have r1:=R4.out.c 1 _ rfl;have r2:=R4.out.c 2 _ rfl;have r3:=R4.out.c 3 _ rfl;have r4:=R4.out.c 4 _ rfl;have r5:=R4.out.c 5 _ rfl;have r6:=R4.out.c 6 _ rfl;have r7:=R4.out.c 7 _ rfl;have r8:=R4.out.c 8 _ rfl;have r9:=R4.out.c 9 _ rfl;have r10:=R4.out.c 10 _ rfl;have r11:=R4.out.c 11 _ rfl;have r12:=R4.out.c 12 _ rfl;have rf0:=R4.out.f 0;have rf1:=R4.out.f 1;have rf2:=R4.out.f 2;have rf3:=R4.out.f 3;have rf4:=R4.out.f 4;have rf5:=R4.out.f 5;have rf6:=R4.out.f 6;have rf7:=R4.out.f 7;have rf8:=R4.out.f 8;have rf9:=R4.out.f 9;have rf10:=R4.out.f 10;have rf11:=R4.out.f 11;have rf12:=R4.out.f 12;go_wp2_with fail
 refine bodyPost_ret (v:=.agg #[.bool f,.int .i64 vk,.int .i64 vn,.string (cuT vt),.bool vb,.int .i64 ve,.int .i64 k8,.int .i64 m8,.string t8,.bool bb8,.int .i64 er8,.slice a18 l18 c18,.slice a28 l28 c28]) (by simp [results,Tryz.results18,go_sem,r0,r1,r2,r3,r4,r5,r6,r7,r8,r9,r10,r11,r12]) rfl ?_
 have X5:Qx (W.heap.size+1) V2 (((((((((((((V2.setCell ⟨W.heap.size+1,0,none⟩ (.bool f)).setCell ⟨W.heap.size+1,1,none⟩ (.int .i64 vk)).setCell ⟨W.heap.size+1,2,none⟩ (.int .i64 vn)).setCell ⟨W.heap.size+1,3,none⟩ (.string (cuT vt))).setCell ⟨W.heap.size+1,4,none⟩ (.bool vb)).setCell ⟨W.heap.size+1,5,none⟩ (.int .i64 ve)).setCell ⟨W.heap.size+1,6,none⟩ (.int .i64 k8)).setCell ⟨W.heap.size+1,7,none⟩ (.int .i64 m8)).setCell ⟨W.heap.size+1,8,none⟩ (.string t8)).setCell ⟨W.heap.size+1,9,none⟩ (.bool bb8)).setCell ⟨W.heap.size+1,10,none⟩ (.int .i64 er8)).setCell ⟨W.heap.size+1,11,none⟩ (.slice a18 l18 c18)).setCell ⟨W.heap.size+1,12,none⟩ (.slice a28 l28 c28)):=((((((((((((((Qx.refl _ _).own _ _).own _ _).own _ _).own _ _).own _ _).own _ _).own _ _).own _ _).own _ _).own _ _).own _ _).own _ _).own _ _)
 exact ⟨k8,m8,t8,bb8,er8,a18,l18,c18,a28,l28,c28,rfl,Rdg.mono (fun b hb=>by omega) _ _ (Rdg.on X5 (fun b hb=>by omega) _ _ RB.out),Q4.out.viaq X5 (by omega)⟩
theorem max4(ts:Array TypeId)(t:TypeId)(x y z u:Int)(w:World):(Builtin.max_ ts t #[.int .i64 x,.int .i64 y,.int .i64 z,.int .i64 u]).run Tryz.prog w=.ok (.int .i64 (max (max (max x y) z) u)) w:=by
 have h:(if u > (if z > (if y > x then y else x) then z else (if y > x then y else x)) then u else (if z > (if y > x then y else x) then z else (if y > x then y else x)))=max (max (max x y) z) u:=by omega
 rw [←h];simp [Builtin.max_,Builtin.max2,Sem.run_bind,Sem.run_pure]
def nlB(x:Rv):Bool:=decide (x.row≤1099511627776∧x.col≤1099511627776∧x.la≤1099511627776∧x.lt≤1099511627776)
theorem near_any(x:Rv)(M:List R.Rg.Rc)(w:World)(h:R.Sl R.rc 4 w (.slice x.ra x.rl x.rc) M):Calls Tryz.prog 37 #[.agg x.L.toArray] w fun e V'=>e=.returned (.bool (nlB x&&inB 1099511627776 M))∧Q w V':=by
 have HN:=hid (fun V (q:Q w V)=>ends_any _ M 1099511627776 V (h.on q))
 generalize inB 1099511627776 M=mb at HN ⊢;clear h;have Z1:=hid (cq_new w x.L);have d2:=Z1.out.c 2 _ rfl;have d3:=Z1.out.c 3 _ rfl;have d18:=Z1.out.c 18 _ rfl;have d19:=Z1.out.c 19 _ rfl;have d20:=Z1.out.c 20 _ rfl;have HB:Hid (nlB x=decide (x.row≤1099511627776∧x.col≤1099511627776∧x.la≤1099511627776∧x.lt≤1099511627776)):=hid rfl
 generalize nlB x=nb at HB ⊢;obtain ⟨row,hrow⟩:∃ r,r=x.row:=⟨_,rfl⟩;obtain ⟨col,hcol⟩:∃ r,r=x.col:=⟨_,rfl⟩;obtain ⟨la,hla⟩:∃ r,r=x.la:=⟨_,rfl⟩;obtain ⟨lt,hlt⟩:∃ r,r=x.lt:=⟨_,rfl⟩;rw [←hrow,←hcol,←hla,←hlt]at HB;rw [←hrow]at d2;rw [←hcol]at d3;rw [←hla]at d18;rw [←hlt]at d19;clear hrow hcol hla hlt;generalize x.ra=ra at *;generalize x.rl=rl at *;generalize x.rc=rc at *;go_enter Tryz.func37,Tryz.ntmps37
 go_upto_region 1 with fail
 have QA:Hid (Q w (w.alloc (.cells x.L.toArray 35))):=hid ((Q.refl w).alloc _)
 generalize w.alloc (.cells x.L.toArray 35)=w1 at *;generalize w.heap.size=b0 at *;obtain ⟨mx,hmx⟩:∃ m,max (max (max row col) la) lt=m:=⟨_,rfl⟩;have HMX:∀ W,(Builtin.max_ #[2,2,2,2] 2 #[.int .i64 row,.int .i64 col,.int .i64 la,.int .i64 lt]).run Tryz.prog W=.ok (.int .i64 mx) W:=fun W=>by rw [max4,hmx]
 have HB2:Hid (nb=decide (mx≤1099511627776)):=hid (by rw [HB.out,Bool.eq_iff_iff,decide_eq_true_eq,decide_eq_true_eq];omega)
 clear hmx HB;cases nb with
 |true=>
  have hh:=of_decide_eq_true HB2.out.symm;go_wp2_with (go_at_call 49;refine (HN.out _ QA.out).mono ?_;rintro e9 y1 ⟨rfl,q9⟩;have QY:Hid (Q w y1):=hid (QA.out.trans q9);clear q9)
  go_ret
  exact ⟨ret_bool rfl,QY.out⟩
 |false=>
  have hh:=of_decide_eq_false HB2.out.symm;go_wp2_with (go_at_call 49;refine (HN.out _ QA.out).mono ?_;rintro e9 y1 ⟨rfl,q9⟩;have QY:Hid (Q w y1):=hid (QA.out.trans q9);clear q9)
  go_ret
  exact ⟨ret_bool rfl,QA.out⟩
def OpE(W:World)(x:Rv)(b nb:Bool):Prop:=∃ X M mr,RO W x X M∧OK1 x X M∧MR M mr∧b=mayO x X M mr∧nb=(nlB x&&inB 1099511627776 M)
theorem OpE.on{W W':World}{x:Rv}{b nb:Bool}(h:OpE W x b nb)(q:Q W W'):OpE W' x b nb:=by
 obtain ⟨X,M,mr,h1,h2,h3,h4⟩:=h;exact ⟨X,M,mr,h1.on q,h2,h3,h4⟩
theorem OpE.g{W:World}{x:Rv}{b nb:Bool}(h:OpE W x b nb):OpG W x b:=by
 obtain ⟨X,M,mr,h1,h2,h3,h4,_⟩:=h;exact ⟨X,M,mr,h1,h2,h3,h4⟩
theorem near_g(x:Rv)(b nb:Bool)(w:World)(h:OpE w x b nb):Calls Tryz.prog 37 #[.agg x.L.toArray] w fun e V'=>e=.returned (.bool nb)∧Q w V':=by
 obtain ⟨X,M,mr,h1,h2,h3,_,rfl⟩:=h;exact near_any x M w h1.r
def on1(c:Int)(nb:Rv→Bool)(x:Rv):Bool:=nb x&&(decide (x.k≠5) || decide (ownK x.sh.data.toList=c))
def edB(c:Int)(xs:List Rv)(mb nb:Rv→Bool):Bool:=decide (0≤c∧c<16∧0<xs.length)&&((decide (xs.length≤32)&&xs.all mb)&&xs.all (on1 c nb))
theorem edit_any(c:Int)(v:Value)(xs:List Rv)(mb nb:Rv→Bool)(w:World)(hg:Gd w)(h:Sl Rv.L 23 w v xs)(ho:∀ x∈xs,OpE w x (mb x) (nb x)):Calls Tryz.prog 12 #[.int .i64 c,v] w fun e V'=>e=.returned (.bool (edB c xs mb nb))∧Q w V':=by
 have HS:=hid h;have HG:=hid hg;have HO:=hid ho;have HBt:=hid (batch_any v xs mb w hg h (fun x hx=>(ho x hx).g))
 obtain ⟨ao,cap,rfl,h1,h2⟩:=h.len;clear h hg ho;have h3:xs.length≤9223372036854775807:=Nat.le_trans h1 (by unfold maxLen at h2;omega)
 by_cases c0:c<0
 ·have HR:Hid (edB c xs mb nb=false):=hid (by unfold edB;rw [decide_eq_false (by omega)];rfl)
  generalize edB c xs mb nb=r at HR ⊢;go_enter Tryz.func12,Tryz.ntmps12
  go_wp2_with fail
  go_ret
  exact ⟨ret_bool HR.out.symm,Q.refl _⟩
 by_cases c1:16≤c
 ·have HR:Hid (edB c xs mb nb=false):=hid (by unfold edB;rw [decide_eq_false (by omega)];rfl)
  generalize edB c xs mb nb=r at HR ⊢;go_enter Tryz.func12,Tryz.ntmps12
  go_wp2_with fail
  go_ret
  exact ⟨ret_bool HR.out.symm,Q.refl _⟩
 by_cases c2:xs.length=0
 ·have HR:Hid (edB c xs mb nb=false):=hid (by unfold edB;rw [decide_eq_false (by omega)];rfl)
  generalize edB c xs mb nb=r at HR ⊢;have e0:((xs.length:Int) == 0)=true:=by rw [c2];rfl
  clear c2;go_enter Tryz.func12,Tryz.ntmps12
  go_wp2_with fail
  go_ret
  exact ⟨ret_bool HR.out.symm,Q.refl _⟩
 have e0:((xs.length:Int) == 0)=false:=by rw [beq_eq_false_iff_ne];omega
 have HR:Hid (edB c xs mb nb=((decide (xs.length≤32)&&xs.all mb)&&xs.all (on1 c nb))):=hid (by unfold edB;rw [decide_eq_true (by omega)];rfl)
 generalize edB c xs mb nb=r at HR ⊢;obtain ⟨bt,hbt⟩:∃ bt,(decide (xs.length≤32)&&xs.all mb)=bt:=⟨_,rfl⟩;rw [hbt]at HBt HR;clear hbt c2;cases bt with
 |false=>
  go_enter Tryz.func12,Tryz.ntmps12
  go_wp2_with (go_at_call 15;refine HBt.out.mono ?_;rintro e9 y1 ⟨rfl,q9⟩;have QY:Hid (Q w y1):=hid q9;clear q9)
  go_ret
  exact ⟨ret_bool (by rw [HR.out];rfl),QY.out⟩
 |true=>
  rw [Bool.true_and]at HR;go_enter Tryz.func12,Tryz.ntmps12
  go_wp2_with (go_at_call 15;refine HBt.out.mono ?_;rintro e9 y1 ⟨rfl,q9⟩;have QY:Hid (Q w y1):=hid q9;clear q9)
  go_loopw [25] (fun s W=>∃ (n:Nat),n≤xs.length∧s=.int .i64 n∧Hid ((xs.take n).all (on1 c nb)=true)∧Q w W) (fun s _=>xs.length-(intOf s).toNat)
  case atStart=>exact ⟨0,Nat.zero_le _,rfl,hid rfl,QY.out⟩
  case round=>
   obtain ⟨n,hn,rfl,ha,hq⟩:=hrel;have HQ:=hid hq;clear hq;by_cases hlt:n<xs.length
   ·have hlt':(n:Int)<(xs.length:Int):=by omega
    obtain ⟨g,off,cap',e,_,_,hc⟩:=(HS.out.on HQ.out).at hlt;cases e
    have HX:=hid ((HO.out _ (List.getElem_mem hlt)).on HQ.out);have HRg:Hid (wr.rangeAt g (off+n*23) (xs[n]).L):=hid (fun j u hu=>hc j u hu)
    have HYes:=hid (fun hm=>all_succ (mb:=on1 c nb) hlt hm ha.out)
    have HNo:=hid (fun hm=>all_no' (mb:=on1 c nb) hlt hm)
    have hsz:(xs[n]).sh.size≤1000000:=by obtain ⟨_,_,_,_,k1,_⟩:=HX.out;exact k1.sh
    clear hc;generalize xs[n]=x at HX HRg HYes HNo hsz;have HW:=hid (fun V (q:Q w V)=>owner_any x.sh V (HG.out.on q).1 (by omega))
    have HU:Hid (on1 c nb x=(nb x&&(decide (x.k≠5) || decide (ownK x.sh.data.toList=c)))):=hid rfl
    generalize on1 c nb x=ob at HYes HNo HU;generalize ownK x.sh.data.toList=ow at HW HU;clear hsz;cases hm:nb x
    ·have HN:=hid (HNo.out (by rw [HU.out,hm];rfl))
     rw [hm]at HX;clear HYes HNo hm HU HW;go_wp2_with (first
      |(with_reducible refine wpl_loadm _ (by with_unfolding_all rfl) (by with_unfolding_all rfl) g (off+n*23) x (by with_unfolding_all exact HRg.out) (by with_unfolding_all rfl) ?_)
      |(with_reducible refine wpl_lay wr _ _ (by with_unfolding_all rfl) (by with_unfolding_all rfl) x (by with_unfolding_all rfl) (by with_unfolding_all rfl) (by with_unfolding_all rfl) ?_)
      |(with_reducible refine wpl_loadg _ (by with_unfolding_all rfl) (by with_unfolding_all rfl) wr.heap.size (by with_unfolding_all rfl) x.L (by with_unfolding_all exact cq_new wr x.L) (by with_unfolding_all rfl) ?_)
      |(go_at_call 37;refine (near_g x _ _ _ (HX.out.on ((Q.refl _).alloc _))).mono ?_;rintro e9 y2 ⟨rfl,q9⟩;have QY2:Hid (Q w y2):=hid ((HQ.out.alloc _).trans q9);clear q9))
     go_ret
     exact ⟨ret_bool (by rw [HR.out,HN.out]),QY2.out⟩
    ·rw [hm]at HX HU
     rw [Bool.true_and]at HU;clear hm;by_cases hk:x.k=5
     ·have ek:(x.k == 5)=true:=by simpa using hk
      by_cases hw:ow=c
      ·have ew:(ow != c)=false:=by simpa using hw
       have HN:=hid (HYes.out (by rw [HU.out,decide_eq_true hw];simp))
       clear HYes HNo HU hw hk;go_wp2_with (first
        |(with_reducible refine wpl_loadm _ (by with_unfolding_all rfl) (by with_unfolding_all rfl) g (off+n*23) x (by with_unfolding_all exact HRg.out) (by with_unfolding_all rfl) ?_)
        |(with_reducible refine wpl_lay wr _ _ (by with_unfolding_all rfl) (by with_unfolding_all rfl) x (by with_unfolding_all rfl) (by with_unfolding_all rfl) (by with_unfolding_all rfl) ?_)
        |(with_reducible refine wpl_loadg _ (by with_unfolding_all rfl) (by with_unfolding_all rfl) wr.heap.size (by with_unfolding_all rfl) x.L (by with_unfolding_all exact cq_new wr x.L) (by with_unfolding_all rfl) ?_)
        |(go_at_call 37;refine (near_g x _ _ _ (HX.out.on ((Q.refl _).alloc _))).mono ?_;rintro e9 y2 ⟨rfl,q9⟩;have QY2:Hid (Q w y2):=hid ((HQ.out.alloc _).trans q9);have ZY:=hid ((cq_new wr x.L).on q9);clear q9;have d0:=ZY.out.c 0 _ rfl;have d1:=ZY.out.c 1 _ rfl)
        |(go_at_call 38;refine (HW.out _ QY2.out).mono ?_;rintro e9 y3 ⟨rfl,q9⟩;have QY3:Hid (Q w y3):=hid (QY2.out.trans q9);clear q9))
       go_roundw
       case rel=>exact ⟨n+1,by omega,by go_num,HN,QY3.out⟩
       case measure=>simp [intOf];omega
      ·have ew:(ow != c)=true:=by simpa using hw
       have HN:=hid (HNo.out (by rw [HU.out,decide_eq_false hw,decide_eq_false (fun x=>x hk)];rfl))
       clear HYes HNo HU hw hk;go_wp2_with (first
        |(with_reducible refine wpl_loadm _ (by with_unfolding_all rfl) (by with_unfolding_all rfl) g (off+n*23) x (by with_unfolding_all exact HRg.out) (by with_unfolding_all rfl) ?_)
        |(with_reducible refine wpl_lay wr _ _ (by with_unfolding_all rfl) (by with_unfolding_all rfl) x (by with_unfolding_all rfl) (by with_unfolding_all rfl) (by with_unfolding_all rfl) ?_)
        |(with_reducible refine wpl_loadg _ (by with_unfolding_all rfl) (by with_unfolding_all rfl) wr.heap.size (by with_unfolding_all rfl) x.L (by with_unfolding_all exact cq_new wr x.L) (by with_unfolding_all rfl) ?_)
        |(go_at_call 37;refine (near_g x _ _ _ (HX.out.on ((Q.refl _).alloc _))).mono ?_;rintro e9 y2 ⟨rfl,q9⟩;have QY2:Hid (Q w y2):=hid ((HQ.out.alloc _).trans q9);have ZY:=hid ((cq_new wr x.L).on q9);clear q9;have d0:=ZY.out.c 0 _ rfl;have d1:=ZY.out.c 1 _ rfl)
        |(go_at_call 38;refine (HW.out _ QY2.out).mono ?_;rintro e9 y3 ⟨rfl,q9⟩;have QY3:Hid (Q w y3):=hid (QY2.out.trans q9);clear q9))
       go_ret
       exact ⟨ret_bool (by rw [HR.out,HN.out]),QY3.out⟩
     ·have ek:(x.k == 5)=false:=by simpa using hk
      have HN:=hid (HYes.out (by rw [HU.out,decide_eq_true hk];rfl))
      clear HYes HNo HU hk HW;go_wp2_with (first
       |(with_reducible refine wpl_loadm _ (by with_unfolding_all rfl) (by with_unfolding_all rfl) g (off+n*23) x (by with_unfolding_all exact HRg.out) (by with_unfolding_all rfl) ?_)
       |(with_reducible refine wpl_lay wr _ _ (by with_unfolding_all rfl) (by with_unfolding_all rfl) x (by with_unfolding_all rfl) (by with_unfolding_all rfl) (by with_unfolding_all rfl) ?_)
       |(with_reducible refine wpl_loadg _ (by with_unfolding_all rfl) (by with_unfolding_all rfl) wr.heap.size (by with_unfolding_all rfl) x.L (by with_unfolding_all exact cq_new wr x.L) (by with_unfolding_all rfl) ?_)
       |(go_at_call 37;refine (near_g x _ _ _ (HX.out.on ((Q.refl _).alloc _))).mono ?_;rintro e9 y2 ⟨rfl,q9⟩;have QY2:Hid (Q w y2):=hid ((HQ.out.alloc _).trans q9);have ZY:=hid ((cq_new wr x.L).on q9);clear q9;have d0:=ZY.out.c 0 _ rfl;have d1:=ZY.out.c 1 _ rfl))
      go_roundw
      case rel=>exact ⟨n+1,by omega,by go_num,HN,QY2.out⟩
      case measure=>simp [intOf];omega
   ·have HN:Hid (xs.all (on1 c nb)=true):=by
     show _=_
     have:=ha.out
     rw [List.take_of_length_le (by omega)]at this
     exact this
    go_wp2_with fail
    go_ret
    exact ⟨ret_bool (by rw [HR.out,HN.out]),HQ.out⟩
theorem e_nil':(⟨#[]⟩:ByteArray).data.toList=[]:=rfl
theorem rmayo_any(x:Rv)(X:Ex)(M:List R.Rg.Rc)(mr:Bool)(w:World)(hx:RO w x X M)(ok:OK1 x X M)(hmr:MR M mr):Calls Tryz.prog 9 #[x.v] w fun e V'=>e=.returned (.bool (mayO x X M mr))∧Q w V':=by
 obtain ⟨ht,hr⟩:=hx;obtain ⟨osh,onm,ovt,os,on,oM⟩:=ok;obtain ⟨k,sh,row,col,f,vk,vn,vt,vb,ve,tk,tm,tt,tb,te,a1,l1,c1,a2,l2,c2,lk,la,lt,ra,rl,rc,fm,nm⟩:=x;unfold Rv.v
 dsimp only at ht hr osh onm ovt
 have HI:=hid (fun V=>rid_any sh V (by omega))
 obtain ⟨hrl,hcp⟩:rl=M.length∧M.length≤rc:=by
  obtain ⟨ao,cap,e,h1,_⟩:=hr.len;cases e
  exact ⟨rfl,h1⟩
 cases hid2:idB sh.data.toList with
 |false=>
  rw [hid2]at HI;refine (rm_id k sh (.bool f) (.int .i64 vk) (.int .i64 vn) (.string vt) (.bool vb) (.int .i64 ve) (.int .i64 tk) (.int .i64 tm) (.string tt) (.bool tb) (.int .i64 te) (.slice a1 l1 c1) (.slice a2 l2 c2) ra rc row col lk la lt rl fm nm w HI).mono fun e V' h=>⟨h.1.trans (ret_bool ?_),h.2⟩
  unfold mayO
  rw [show idB ((⟨k,sh,row,col,f,vk,vn,vt,vb,ve,tk,tm,tt,tb,te,a1,l1,c1,a2,l2,c2,lk,la,lt,ra,rl,rc,fm,nm⟩:Rv)).sh.data.toList=false from hid2]
  rfl
 |true=>
 rw [hid2]at HI;obtain ⟨cb,hcb⟩:∃ cb:Bool,cb=true↔(f=false∧(vk=0∧vn=0∧vt.data.toList=(⟨#[]⟩:ByteArray).data.toList∧vb=false∧ve=0)∧X=zeroE):=by
  by_cases h:(f=false∧(vk=0∧vn=0∧vt.data.toList=(⟨#[]⟩:ByteArray).data.toList∧vb=false∧ve=0)∧X=zeroE)
  ·exact ⟨true,fun _=>h,fun _=>rfl⟩
  ·exact ⟨false,fun e=>absurd e Bool.false_ne_true,fun e=>absurd e h⟩
 have HC:=hid (fun V (q:Q w V)=>eqcell_any f vk vn vt vb ve tk tm tt tb te a1 l1 c1 a2 l2 c2 false 0 0 ⟨#[]⟩ false 0 0 0 ⟨#[]⟩ false 0 none 0 0 none 0 0 X zeroE cb V (Rd.on q _ _ ht) (rd_zero V) hcb)
 have hzc:zCell (⟨k,sh,row,col,f,vk,vn,vt,vb,ve,tk,tm,tt,tb,te,a1,l1,c1,a2,l2,c2,lk,la,lt,ra,rl,rc,fm,nm⟩:Rv) X=cb:=by
  rw [Bool.eq_iff_iff,hcb];unfold zCell
  simp only [Bool.and_eq_true,decide_eq_true_eq,isZ_iff,and_assoc,e_nil']
 have hmc:=hid (fun V (q:Q w V)=>rmayc_any f vk vn vt vb ve tk tm tt tb te a1 l1 c1 a2 l2 c2 X V ovt os (Rd.on q _ _ ht))
 unfold mayO
 rw [show idB ((⟨k,sh,row,col,f,vk,vn,vt,vb,ve,tk,tm,tt,tb,te,a1,l1,c1,a2,l2,c2,lk,la,lt,ra,rl,rc,fm,nm⟩:Rv)).sh.data.toList=true from hid2,Bool.true_and]
 by_cases k1:k=1
 ·subst k1
  by_cases b0:lk=0
  ·subst b0
   by_cases b1:la=0
   ·subst b1
    by_cases b2:lt=0
    ·subst b2
     by_cases hM0:M=[]
     ·subst hM0
      simp only [List.length_nil]at hrl
      subst hrl;by_cases hf0:fm=0
      ·subst hf0
       by_cases hN0:nm.data.toList=[]
       ·have en:nm=⟨#[]⟩:=str_eq hN0
        subst en;by_cases r0:0≤row
        ·by_cases r1:row<2199023255552
         ·by_cases q0:0≤col
          ·by_cases q1:col<2199023255552
           ·refine (rm_e1 sh (.bool f) (.int .i64 vk) (.int .i64 vn) (.string vt) (.bool vb) (.int .i64 ve) (.int .i64 tk) (.int .i64 tm) (.string tt) (.bool tb) (.int .i64 te) (.slice a1 l1 c1) (.slice a2 l2 c2) ra rc row col w (mcB f vk vn vt.data.toList vb ve X) r0 r1 q0 q1 HI hmc).mono fun e V' h=>⟨h.1.trans (ret_bool ?_),h.2⟩
            simp [zRow,zLine,zFm,zNm,hzc,lnB,r0,r1,q0,q1]
           ·refine (rm_e1d sh (.bool f) (.int .i64 vk) (.int .i64 vn) (.string vt) (.bool vb) (.int .i64 ve) (.int .i64 tk) (.int .i64 tm) (.string tt) (.bool tb) (.int .i64 te) (.slice a1 l1 c1) (.slice a2 l2 c2) ra rc row col w r0 r1 q0 (Int.not_lt.1 q1) HI ).mono fun e V' h=>⟨h.1.trans (ret_bool ?_),h.2⟩
            simp [zRow,zLine,zFm,zNm,hzc,lnB,q1]
          ·refine (rm_e1c sh (.bool f) (.int .i64 vk) (.int .i64 vn) (.string vt) (.bool vb) (.int .i64 ve) (.int .i64 tk) (.int .i64 tm) (.string tt) (.bool tb) (.int .i64 te) (.slice a1 l1 c1) (.slice a2 l2 c2) ra rc row col w r0 r1 (Int.not_le.1 q0) HI ).mono fun e V' h=>⟨h.1.trans (ret_bool ?_),h.2⟩
           simp [zRow,zLine,zFm,zNm,hzc,lnB,q0]
         ·refine (rm_e1b sh (.bool f) (.int .i64 vk) (.int .i64 vn) (.string vt) (.bool vb) (.int .i64 ve) (.int .i64 tk) (.int .i64 tm) (.string tt) (.bool tb) (.int .i64 te) (.slice a1 l1 c1) (.slice a2 l2 c2) ra rc row col w r0 (Int.not_lt.1 r1) HI ).mono fun e V' h=>⟨h.1.trans (ret_bool ?_),h.2⟩
          simp [zRow,zLine,zFm,zNm,hzc,lnB,r1]
        ·refine (rm_e1a sh (.bool f) (.int .i64 vk) (.int .i64 vn) (.string vt) (.bool vb) (.int .i64 ve) (.int .i64 tk) (.int .i64 tm) (.string tt) (.bool tb) (.int .i64 te) (.slice a1 l1 c1) (.slice a2 l2 c2) ra rc row col w (Int.not_le.1 r0) HI ).mono fun e V' h=>⟨h.1.trans (ret_bool ?_),h.2⟩
         simp [zRow,zLine,zFm,zNm,hzc,lnB,r0]
       ·have en:(nm.toList == [])=false:=by rw [Lib.toList_data];simpa using hN0
        refine (rm_n1 sh (.bool f) (.int .i64 vk) (.int .i64 vn) (.string vt) (.bool vb) (.int .i64 ve) (.int .i64 tk) (.int .i64 tm) (.string tt) (.bool tb) (.int .i64 te) (.slice a1 l1 c1) (.slice a2 l2 c2) ra rc row col nm w en HI ).mono fun e V' h=>⟨h.1.trans (ret_bool ?_),h.2⟩
        simp [zRow,zLine,zFm,zNm,hzc,hN0]
      ·refine (rm_c11 sh (.bool f) (.int .i64 vk) (.int .i64 vn) (.string vt) (.bool vb) (.int .i64 ve) (.int .i64 tk) (.int .i64 tm) (.string tt) (.bool tb) (.int .i64 te) (.slice a1 l1 c1) (.slice a2 l2 c2) ra rc row col fm nm w hf0 HI ).mono fun e V' h=>⟨h.1.trans (ret_bool ?_),h.2⟩
       simp [zRow,zLine,zFm,zNm,hzc,hf0]
     ·have hpos:0<rl:=by rw [hrl];exact List.length_pos_iff.2 hM0
      have hME:M.isEmpty=false:=by rw [List.isEmpty_eq_false_iff];exact hM0
      refine (rm_c10 sh (.bool f) (.int .i64 vk) (.int .i64 vn) (.string vt) (.bool vb) (.int .i64 ve) (.int .i64 tk) (.int .i64 tm) (.string tt) (.bool tb) (.int .i64 te) (.slice a1 l1 c1) (.slice a2 l2 c2) ra rc row col rl fm nm w hpos HI ).mono fun e V' h=>⟨h.1.trans (ret_bool ?_),h.2⟩
      simp [zRow,zLine,zFm,zNm,hzc,hME]
    ·refine (rm_b12 sh (.bool f) (.int .i64 vk) (.int .i64 vn) (.string vt) (.bool vb) (.int .i64 ve) (.int .i64 tk) (.int .i64 tm) (.string tt) (.bool tb) (.int .i64 te) (.slice a1 l1 c1) (.slice a2 l2 c2) ra rc row col lt rl fm nm w b2 HI ).mono fun e V' h=>⟨h.1.trans (ret_bool ?_),h.2⟩
     simp [zRow,zLine,zFm,zNm,hzc,b2]
   ·refine (rm_b11 sh (.bool f) (.int .i64 vk) (.int .i64 vn) (.string vt) (.bool vb) (.int .i64 ve) (.int .i64 tk) (.int .i64 tm) (.string tt) (.bool tb) (.int .i64 te) (.slice a1 l1 c1) (.slice a2 l2 c2) ra rc row col la lt rl fm nm w b1 HI ).mono fun e V' h=>⟨h.1.trans (ret_bool ?_),h.2⟩
    simp [zRow,zLine,zFm,zNm,hzc,b1]
  ·refine (rm_b10 sh (.bool f) (.int .i64 vk) (.int .i64 vn) (.string vt) (.bool vb) (.int .i64 ve) (.int .i64 tk) (.int .i64 tm) (.string tt) (.bool tb) (.int .i64 te) (.slice a1 l1 c1) (.slice a2 l2 c2) ra rc row col lk la lt rl fm nm w b0 HI ).mono fun e V' h=>⟨h.1.trans (ret_bool ?_),h.2⟩
   simp [zRow,zLine,zFm,zNm,hzc,b0]
 ·by_cases hrow:row=0
  ·subst hrow
   by_cases hcol:col=0
   ·subst hcol
    cases cb with
    |false=>
     refine (rm_a3 k sh (.bool f) (.int .i64 vk) (.int .i64 vn) (.string vt) (.bool vb) (.int .i64 ve) (.int .i64 tk) (.int .i64 tm) (.string tt) (.bool tb) (.int .i64 te) (.slice a1 l1 c1) (.slice a2 l2 c2) ra rc lk la lt rl fm nm w k1 HI HC ).mono fun e V' h=>⟨h.1.trans (ret_bool ?_),h.2⟩
     simp [zRow,zLine,zFm,zNm,hzc,k1]
    |true=>
     by_cases k2:k=2
     ·subst k2
      by_cases hM0:M=[]
      ·subst hM0
       simp only [List.length_nil]at hrl
       subst hrl;by_cases hf0:fm=0
       ·subst hf0
        by_cases hN0:nm.data.toList=[]
        ·have en:nm=⟨#[]⟩:=str_eq hN0
         subst en;refine (rm_e2 sh (.bool f) (.int .i64 vk) (.int .i64 vn) (.string vt) (.bool vb) (.int .i64 ve) (.int .i64 tk) (.int .i64 tm) (.string tt) (.bool tb) (.int .i64 te) (.slice a1 l1 c1) (.slice a2 l2 c2) ra rc lk la lt w (lmB lk la lt) HI HC (hid (fun V (q:Q w V)=>raxmay_any lk la lt V))).mono fun e V' h=>⟨h.1.trans (ret_bool ?_),h.2⟩
         simp [zRow,zLine,zFm,zNm,hzc]
        ·have en:(nm.toList == [])=false:=by rw [Lib.toList_data];simpa using hN0
         refine (rm_n2 sh (.bool f) (.int .i64 vk) (.int .i64 vn) (.string vt) (.bool vb) (.int .i64 ve) (.int .i64 tk) (.int .i64 tm) (.string tt) (.bool tb) (.int .i64 te) (.slice a1 l1 c1) (.slice a2 l2 c2) ra rc lk la lt nm w en HI HC ).mono fun e V' h=>⟨h.1.trans (ret_bool ?_),h.2⟩
         simp [zRow,zLine,zFm,zNm,hzc,hN0]
       ·refine (rm_c21 sh (.bool f) (.int .i64 vk) (.int .i64 vn) (.string vt) (.bool vb) (.int .i64 ve) (.int .i64 tk) (.int .i64 tm) (.string tt) (.bool tb) (.int .i64 te) (.slice a1 l1 c1) (.slice a2 l2 c2) ra rc lk la lt fm nm w hf0 HI HC ).mono fun e V' h=>⟨h.1.trans (ret_bool ?_),h.2⟩
        simp [zRow,zLine,zFm,zNm,hzc,hf0]
      ·have hpos:0<rl:=by rw [hrl];exact List.length_pos_iff.2 hM0
       have hME:M.isEmpty=false:=by rw [List.isEmpty_eq_false_iff];exact hM0
       refine (rm_c20 sh (.bool f) (.int .i64 vk) (.int .i64 vn) (.string vt) (.bool vb) (.int .i64 ve) (.int .i64 tk) (.int .i64 tm) (.string tt) (.bool tb) (.int .i64 te) (.slice a1 l1 c1) (.slice a2 l2 c2) ra rc lk la lt rl fm nm w hpos HI HC ).mono fun e V' h=>⟨h.1.trans (ret_bool ?_),h.2⟩
       simp [zRow,zLine,zFm,zNm,hzc,hME]
     ·by_cases k3:k=3
      ·subst k3
       by_cases hM0:M=[]
       ·subst hM0
        simp only [List.length_nil]at hrl
        subst hrl;by_cases hf0:fm=0
        ·subst hf0
         by_cases hN0:nm.data.toList=[]
         ·have en:nm=⟨#[]⟩:=str_eq hN0
          subst en;refine (rm_e3 sh (.bool f) (.int .i64 vk) (.int .i64 vn) (.string vt) (.bool vb) (.int .i64 ve) (.int .i64 tk) (.int .i64 tm) (.string tt) (.bool tb) (.int .i64 te) (.slice a1 l1 c1) (.slice a2 l2 c2) ra rc lk la lt w (lmB lk la lt) HI HC (hid (fun V (q:Q w V)=>raxmay_any lk la lt V))).mono fun e V' h=>⟨h.1.trans (ret_bool ?_),h.2⟩
          simp [zRow,zLine,zFm,zNm,hzc]
         ·have en:(nm.toList == [])=false:=by rw [Lib.toList_data];simpa using hN0
          refine (rm_n3 sh (.bool f) (.int .i64 vk) (.int .i64 vn) (.string vt) (.bool vb) (.int .i64 ve) (.int .i64 tk) (.int .i64 tm) (.string tt) (.bool tb) (.int .i64 te) (.slice a1 l1 c1) (.slice a2 l2 c2) ra rc lk la lt nm w en HI HC ).mono fun e V' h=>⟨h.1.trans (ret_bool ?_),h.2⟩
          simp [zRow,zLine,zFm,zNm,hzc,hN0]
        ·refine (rm_c31 sh (.bool f) (.int .i64 vk) (.int .i64 vn) (.string vt) (.bool vb) (.int .i64 ve) (.int .i64 tk) (.int .i64 tm) (.string tt) (.bool tb) (.int .i64 te) (.slice a1 l1 c1) (.slice a2 l2 c2) ra rc lk la lt fm nm w hf0 HI HC ).mono fun e V' h=>⟨h.1.trans (ret_bool ?_),h.2⟩
         simp [zRow,zLine,zFm,zNm,hzc,hf0]
       ·have hpos:0<rl:=by rw [hrl];exact List.length_pos_iff.2 hM0
        have hME:M.isEmpty=false:=by rw [List.isEmpty_eq_false_iff];exact hM0
        refine (rm_c30 sh (.bool f) (.int .i64 vk) (.int .i64 vn) (.string vt) (.bool vb) (.int .i64 ve) (.int .i64 tk) (.int .i64 tm) (.string tt) (.bool tb) (.int .i64 te) (.slice a1 l1 c1) (.slice a2 l2 c2) ra rc lk la lt rl fm nm w hpos HI HC ).mono fun e V' h=>⟨h.1.trans (ret_bool ?_),h.2⟩
        simp [zRow,zLine,zFm,zNm,hzc,hME]
      ·by_cases b0:lk=0
       ·subst b0
        by_cases b1:la=0
        ·subst b1
         by_cases b2:lt=0
         ·subst b2
          by_cases k4:k=4
          ·subst k4
           by_cases hN0:nm.data.toList=[]
           ·have en:nm=⟨#[]⟩:=str_eq hN0
            subst en;by_cases f0:0≤fm
            ·by_cases f1:fm≤255
             ·by_cases r0:(1:Int)≤(rl:Int)
              ·by_cases r1:(rl:Int)≤256
               ·obtain ⟨l,hl,hll⟩:=nf_ex hr
                have HNm:Hid (∀ V,Q w V→Calls Tryz.prog 31 #[.slice ra rl rc] V fun e V'=>∃ ao1 n1 c1,e=.returned (.slice ao1 n1 c1)∧R.Sl R.rc 4 V' (.slice ao1 n1 c1) l∧Q V V'):=hid (fun V q=>(R.rnorm_known _ M l V (hr.on q) hl).mono fun e V' h=>by
                 obtain ⟨v1,h1,h2,h3⟩:=h;have hs:=h2.sl R.rc_len (by decide)
                 obtain ⟨ao,cap,rfl,_,_⟩:=hs.len;exact ⟨ao,_,cap,h1,hs,h3⟩)
                have HEq:=hid (fun V ao1 n1 c1 (q:Q w V) (h1:R.Sl R.rc 4 V (.slice ao1 n1 c1) l)=>R.eqList_any (.slice ra rl rc) (.slice ao1 n1 c1) M l V (hr.on q) h1 (by omega) hll)
                cases he:R.eqRc M l with
                |false=>
                 rw [he]at HEq;have hmm:=mr_no hmr (fun x=>by rw [R.Rg.nf_uniq hl x.2.2.1,R.eqRc_iff.2 rfl]at he;cases he)
                 refine (rm_g5 sh (.bool f) (.int .i64 vk) (.int .i64 vn) (.string vt) (.bool vb) (.int .i64 ve) (.int .i64 tk) (.int .i64 tm) (.string tt) (.bool tb) (.int .i64 te) (.slice a1 l1 c1) (.slice a2 l2 c2) ra rc rl fm w l HNm HEq f0 f1 r0 r1 HI HC ).mono fun e V' h=>⟨h.1.trans (ret_bool ?_),h.2⟩
                 simp [zRow,zLine,zFm,zNm,hzc,hmm]
                |true=>
                 rw [he]at HEq;have hlM:=(R.eqRc_iff.1 he).symm;subst hlM;have HAr:=hid (fun V (q:Q w V)=>R.rarea_any R.rnorm_known _ l l 257 257 V (hr.on q) hl (by omega) (by omega) rfl)
                 have HIn:=hid (fun V (q:Q w V)=>inside_any _ l 2199023255552 V (hr.on q))
                 by_cases ga:R.Rg.ar 257 0 l≤256
                 ·have hmm:mr=inB 2199023255552 l:=by
                   cases hi:inB 2199023255552 l
                   ·exact mr_no hmr (fun x=>by rw [hi]at x;cases x.2.2.2.2)
                   ·exact hmr.2 ⟨by omega,by omega,hl,ga,hi⟩
                  refine (rm_g7 sh (.bool f) (.int .i64 vk) (.int .i64 vn) (.string vt) (.bool vb) (.int .i64 ve) (.int .i64 tk) (.int .i64 tm) (.string tt) (.bool tb) (.int .i64 te) (.slice a1 l1 c1) (.slice a2 l2 c2) ra rc rl fm w l HNm HEq _ HAr ga _ HIn f0 f1 r0 r1 HI HC ).mono fun e V' h=>⟨h.1.trans (ret_bool ?_),h.2⟩
                  simp [zRow,zLine,zFm,zNm,hzc,hmm,fmB,f0,f1]
                 ·have hmm:=mr_no hmr (fun x=>ga x.2.2.2.1)
                  refine (rm_g6 sh (.bool f) (.int .i64 vk) (.int .i64 vn) (.string vt) (.bool vb) (.int .i64 ve) (.int .i64 tk) (.int .i64 tm) (.string tt) (.bool tb) (.int .i64 te) (.slice a1 l1 c1) (.slice a2 l2 c2) ra rc rl fm w l HNm HEq _ HAr (decide_eq_false ga) f0 f1 r0 r1 HI HC ).mono fun e V' h=>⟨h.1.trans (ret_bool ?_),h.2⟩
                  simp [zRow,zLine,zFm,zNm,hzc,hmm]
               ·have hmm:=mr_no hmr (fun x=>by omega)
                refine (rm_g4 sh (.bool f) (.int .i64 vk) (.int .i64 vn) (.string vt) (.bool vb) (.int .i64 ve) (.int .i64 tk) (.int .i64 tm) (.string tt) (.bool tb) (.int .i64 te) (.slice a1 l1 c1) (.slice a2 l2 c2) ra rc rl fm w f0 f1 r0 (by omega) (decide_eq_false r1) HI HC ).mono fun e V' h=>⟨h.1.trans (ret_bool ?_),h.2⟩
                simp [zRow,zLine,zFm,zNm,hzc,hmm]
              ·have h0:rl=0:=by omega
               subst h0;have hmm:=mr_no hmr (fun x=>by omega)
               refine (rm_g3 sh (.bool f) (.int .i64 vk) (.int .i64 vn) (.string vt) (.bool vb) (.int .i64 ve) (.int .i64 tk) (.int .i64 tm) (.string tt) (.bool tb) (.int .i64 te) (.slice a1 l1 c1) (.slice a2 l2 c2) ra rc fm w f0 f1 HI HC ).mono fun e V' h=>⟨h.1.trans (ret_bool ?_),h.2⟩
               simp [zRow,zLine,zFm,zNm,hzc,hmm]
             ·refine (rm_g2 sh (.bool f) (.int .i64 vk) (.int .i64 vn) (.string vt) (.bool vb) (.int .i64 ve) (.int .i64 tk) (.int .i64 tm) (.string tt) (.bool tb) (.int .i64 te) (.slice a1 l1 c1) (.slice a2 l2 c2) ra rc rl fm w f0 (by omega) (decide_eq_false f1) HI HC ).mono fun e V' h=>⟨h.1.trans (ret_bool ?_),h.2⟩
              simp [zRow,zLine,zFm,zNm,hzc,fmB,f1]
            ·refine (rm_g1 sh (.bool f) (.int .i64 vk) (.int .i64 vn) (.string vt) (.bool vb) (.int .i64 ve) (.int .i64 tk) (.int .i64 tm) (.string tt) (.bool tb) (.int .i64 te) (.slice a1 l1 c1) (.slice a2 l2 c2) ra rc rl fm w (by omega) (decide_eq_false f0) HI HC ).mono fun e V' h=>⟨h.1.trans (ret_bool ?_),h.2⟩
             simp [zRow,zLine,zFm,zNm,hzc,fmB,f0]
           ·have en:(nm.toList == [])=false:=by rw [Lib.toList_data];simpa using hN0
            refine (rm_n4 sh (.bool f) (.int .i64 vk) (.int .i64 vn) (.string vt) (.bool vb) (.int .i64 ve) (.int .i64 tk) (.int .i64 tm) (.string tt) (.bool tb) (.int .i64 te) (.slice a1 l1 c1) (.slice a2 l2 c2) ra rc rl fm nm w en HI HC ).mono fun e V' h=>⟨h.1.trans (ret_bool ?_),h.2⟩
            simp [zRow,zLine,zFm,zNm,hzc,hN0]
          ·by_cases hM0:M=[]
           ·subst hM0
            simp only [List.length_nil]at hrl
            subst hrl;by_cases hf0:fm=0
            ·subst hf0
             by_cases k5:k=5
             ·subst k5
              refine (rm_e5 sh (.bool f) (.int .i64 vk) (.int .i64 vn) (.string vt) (.bool vb) (.int .i64 ve) (.int .i64 tk) (.int .i64 tm) (.string tt) (.bool tb) (.int .i64 te) (.slice a1 l1 c1) (.slice a2 l2 c2) ra rc nm w (nmB nm.data.toList) HI HC (hid (fun V (q:Q w V)=>(rname_any nm V (by omega)).mono fun e V' h=>(⟨h.1,h.2 ▸ Q.refl _⟩:e=.returned (.bool (nmB nm.data.toList))∧Q V V')))).mono fun e V' h=>⟨h.1.trans (ret_bool ?_),h.2⟩
              simp [zRow,zLine,zFm,zNm,hzc]
             ·by_cases k6:k=6
              ·subst k6
               refine (rm_e6 sh (.bool f) (.int .i64 vk) (.int .i64 vn) (.string vt) (.bool vb) (.int .i64 ve) (.int .i64 tk) (.int .i64 tm) (.string tt) (.bool tb) (.int .i64 te) (.slice a1 l1 c1) (.slice a2 l2 c2) ra rc nm w (nmB nm.data.toList) HI HC (hid (fun V (q:Q w V)=>(rname_any nm V (by omega)).mono fun e V' h=>(⟨h.1,h.2 ▸ Q.refl _⟩:e=.returned (.bool (nmB nm.data.toList))∧Q V V')))).mono fun e V' h=>⟨h.1.trans (ret_bool ?_),h.2⟩
               simp [zRow,zLine,zFm,zNm,hzc]
              ·by_cases hN0:nm.data.toList=[]
               ·have en:nm=⟨#[]⟩:=str_eq hN0
                subst en;by_cases k7:k=7
                ·subst k7
                 refine (rm_e7 sh (.bool f) (.int .i64 vk) (.int .i64 vn) (.string vt) (.bool vb) (.int .i64 ve) (.int .i64 tk) (.int .i64 tm) (.string tt) (.bool tb) (.int .i64 te) (.slice a1 l1 c1) (.slice a2 l2 c2) ra rc w HI HC ).mono fun e V' h=>⟨h.1.trans (ret_bool ?_),h.2⟩
                 simp [zRow,zLine,zFm,zNm,hzc]
                ·refine (rm_e0 k sh (.bool f) (.int .i64 vk) (.int .i64 vn) (.string vt) (.bool vb) (.int .i64 ve) (.int .i64 tk) (.int .i64 tm) (.string tt) (.bool tb) (.int .i64 te) (.slice a1 l1 c1) (.slice a2 l2 c2) ra rc w k1 k2 k3 k4 k5 k6 k7 HI HC ).mono fun e V' h=>⟨h.1.trans (ret_bool ?_),h.2⟩
                 simp [zRow,zLine,zFm,zNm,hzc,k1,k2,k3,k4,k5,k6,k7]
               ·have en:(nm.toList == [])=false:=by rw [Lib.toList_data];simpa using hN0
                refine (rm_n0 k sh (.bool f) (.int .i64 vk) (.int .i64 vn) (.string vt) (.bool vb) (.int .i64 ve) (.int .i64 tk) (.int .i64 tm) (.string tt) (.bool tb) (.int .i64 te) (.slice a1 l1 c1) (.slice a2 l2 c2) ra rc nm w k1 k2 k3 k4 k5 k6 en HI HC ).mono fun e V' h=>⟨h.1.trans (ret_bool ?_),h.2⟩
                simp [zRow,zLine,zFm,zNm,hzc,hN0,k1,k2,k3,k4,k5,k6]
            ·refine (rm_c01 k sh (.bool f) (.int .i64 vk) (.int .i64 vn) (.string vt) (.bool vb) (.int .i64 ve) (.int .i64 tk) (.int .i64 tm) (.string tt) (.bool tb) (.int .i64 te) (.slice a1 l1 c1) (.slice a2 l2 c2) ra rc fm nm w k1 k2 k3 k4 hf0 HI HC ).mono fun e V' h=>⟨h.1.trans (ret_bool ?_),h.2⟩
             simp [zRow,zLine,zFm,zNm,hzc,hf0,k1,k2,k3,k4]
           ·have hpos:0<rl:=by rw [hrl];exact List.length_pos_iff.2 hM0
            have hME:M.isEmpty=false:=by rw [List.isEmpty_eq_false_iff];exact hM0
            refine (rm_c00 k sh (.bool f) (.int .i64 vk) (.int .i64 vn) (.string vt) (.bool vb) (.int .i64 ve) (.int .i64 tk) (.int .i64 tm) (.string tt) (.bool tb) (.int .i64 te) (.slice a1 l1 c1) (.slice a2 l2 c2) ra rc rl fm nm w k1 k2 k3 k4 hpos HI HC ).mono fun e V' h=>⟨h.1.trans (ret_bool ?_),h.2⟩
            simp [zRow,zLine,zFm,zNm,hzc,hME,k1,k2,k3,k4]
         ·refine (rm_b02 k sh (.bool f) (.int .i64 vk) (.int .i64 vn) (.string vt) (.bool vb) (.int .i64 ve) (.int .i64 tk) (.int .i64 tm) (.string tt) (.bool tb) (.int .i64 te) (.slice a1 l1 c1) (.slice a2 l2 c2) ra rc lt rl fm nm w k1 k2 k3 b2 HI HC ).mono fun e V' h=>⟨h.1.trans (ret_bool ?_),h.2⟩
          simp [zRow,zLine,zFm,zNm,hzc,b2,k1,k2,k3]
        ·refine (rm_b01 k sh (.bool f) (.int .i64 vk) (.int .i64 vn) (.string vt) (.bool vb) (.int .i64 ve) (.int .i64 tk) (.int .i64 tm) (.string tt) (.bool tb) (.int .i64 te) (.slice a1 l1 c1) (.slice a2 l2 c2) ra rc la lt rl fm nm w k1 k2 k3 b1 HI HC ).mono fun e V' h=>⟨h.1.trans (ret_bool ?_),h.2⟩
         simp [zRow,zLine,zFm,zNm,hzc,b1,k1,k2,k3]
       ·refine (rm_b00 k sh (.bool f) (.int .i64 vk) (.int .i64 vn) (.string vt) (.bool vb) (.int .i64 ve) (.int .i64 tk) (.int .i64 tm) (.string tt) (.bool tb) (.int .i64 te) (.slice a1 l1 c1) (.slice a2 l2 c2) ra rc lk la lt rl fm nm w k1 k2 k3 b0 HI HC ).mono fun e V' h=>⟨h.1.trans (ret_bool ?_),h.2⟩
        simp [zRow,zLine,zFm,zNm,hzc,b0,k1,k2,k3]
   ·refine (rm_a2 k sh (.bool f) (.int .i64 vk) (.int .i64 vn) (.string vt) (.bool vb) (.int .i64 ve) (.int .i64 tk) (.int .i64 tm) (.string tt) (.bool tb) (.int .i64 te) (.slice a1 l1 c1) (.slice a2 l2 c2) ra rc col lk la lt rl fm nm w k1 hcol HI ).mono fun e V' h=>⟨h.1.trans (ret_bool ?_),h.2⟩
    simp [zRow,zLine,zFm,zNm,hzc,hcol,k1]
  ·refine (rm_a1 k sh (.bool f) (.int .i64 vk) (.int .i64 vn) (.string vt) (.bool vb) (.int .i64 ve) (.int .i64 tk) (.int .i64 tm) (.string tt) (.bool tb) (.int .i64 te) (.slice a1 l1 c1) (.slice a2 l2 c2) ra rc row col lk la lt rl fm nm w k1 hrow HI ).mono fun e V' h=>⟨h.1.trans (ret_bool ?_),h.2⟩
   simp [zRow,zLine,zFm,zNm,hzc,hrow,k1]
theorem rmayo_g(x:Rv)(b:Bool)(w:World)(h:OpG w x b):Calls Tryz.prog 9 #[.agg x.L.toArray] w fun e V'=>e=.returned (.bool b)∧Q w V':=by
 obtain ⟨X,M,mr,h1,h2,h3,rfl⟩:=h;exact rmayo_any x X M mr w h1 h2 h3
theorem rbatch_any(v:Value)(xs:List Rv)(mb:Rv→Bool)(w:World)(h:Sl Rv.L 23 w v xs)(ho:∀ x∈xs,OpG w x (mb x)):Calls Tryz.prog 16 #[v] w fun e V'=>e=.returned (.bool (decide (xs.length≤32)&&xs.all mb))∧Q w V':=by
 have HS:=hid h;have HO:=hid ho;obtain ⟨ao,cap,rfl,h1,h2⟩:=h.len;clear h ho;have h3:xs.length≤9223372036854775807:=Nat.le_trans h1 (by unfold maxLen at h2;omega)
 obtain ⟨r,hr⟩:∃ r,(decide (xs.length≤32)&&xs.all mb)=r:=⟨_,rfl⟩;rw [hr];have HR:=hid hr;clear hr;go_enter Tryz.func16,Tryz.ntmps16
 go_wp2_with fail
 go_loopw [3] (fun s W=>∃ (n:Nat),n≤xs.length∧s=.int .i64 n∧Hid ((xs.take n).all mb=true)∧Q w W) (fun s _=>xs.length-(intOf s).toNat)
 case atStart=>exact ⟨0,Nat.zero_le _,rfl,hid rfl,Q.refl _⟩
 case round=>
  obtain ⟨n,hn,rfl,ha,hq⟩:=hrel;have HQ:=hid hq;clear hq;by_cases hlt:n<xs.length
  ·have hlt':(n:Int)<(xs.length:Int):=by omega
   obtain ⟨g,off,cap',e,_,_,hc⟩:=(HS.out.on HQ.out).at hlt;cases e
   have HX:=hid ((HO.out _ (List.getElem_mem hlt)).on HQ.out);have HRg:Hid (wr.rangeAt g (off+n*23) (xs[n]).L):=hid (fun j u hu=>hc j u hu)
   have HYes:=hid (fun hm=>all_succ hlt hm ha.out)
   have HNo:=hid (fun hm=>all_no' (mb:=mb) hlt hm)
   clear hc;generalize xs[n]=x at HX HRg HYes HNo;cases hm:mb x
   ·have HN:=hid (HNo.out hm)
    rw [hm]at HX;clear HYes HNo hm;go_wp2_with (first
     |(with_reducible refine wpl_loadm _ (by with_unfolding_all rfl) (by with_unfolding_all rfl) g (off+n*23) x (by with_unfolding_all exact HRg.out) (by with_unfolding_all rfl) ?_)
     |(go_at_call 9;refine (rmayo_g x _ _ HX.out).mono ?_;rintro e9 y1 ⟨rfl,q9⟩;have QY:Hid (Q w y1):=hid (HQ.out.trans q9);clear q9))
    go_ret
    exact ⟨ret_bool (by rw [←HR.out,HN.out,Bool.and_false]),QY.out⟩
   ·have HN:=hid (HYes.out hm)
    rw [hm]at HX;clear HYes HNo hm;go_wp2_with (first
     |(with_reducible refine wpl_loadm _ (by with_unfolding_all rfl) (by with_unfolding_all rfl) g (off+n*23) x (by with_unfolding_all exact HRg.out) (by with_unfolding_all rfl) ?_)
     |(go_at_call 9;refine (rmayo_g x _ _ HX.out).mono ?_;rintro e9 y1 ⟨rfl,q9⟩;have QY:Hid (Q w y1):=hid (HQ.out.trans q9);clear q9))
    go_roundw
    case rel=>exact ⟨n+1,by omega,by go_num,HN,QY.out⟩
    case measure=>simp [intOf];omega
  ·have HN:Hid (xs.all mb=true):=by
    show _=_
    have:=ha.out
    rw [List.take_of_length_le (by omega)]at this
    exact this
   by_cases h32:(xs.length:Int)≤32
   ·have HE:Hid (r=true):=hid (by rw [←HR.out,HN.out,decide_eq_true (by omega)];rfl)
    go_wp2_with fail
    go_ret
    exact ⟨ret_bool HE.out.symm,HQ.out⟩
   ·have HE:Hid (r=false):=hid (by rw [←HR.out,HN.out,decide_eq_false (by omega)];rfl)
    go_wp2_with fail
    go_ret
    exact ⟨ret_bool HE.out.symm,HQ.out⟩
end Go.Proofs.YtngnakdbhkjbjaaGreatDoor
