/- counterpaneref1.Eq of any two . -/
import Derived.Test.YtngnakdbhkjbjaaGreatDoorKm39
import Derived.Test.YtngnakdbhkjbjaaGreatDoorKm10
import Derived.Test.YtngnakdbhkjbjaaGreatDoorKm00
import Derived.Test.YtngnakdbhkjbjaaGreatDoorKm04
import Derived.Test.YtngnakdbhkjbjaaGreatDoorKm12
import Derived.Laws.CopyOwn
import Derived.Great.BuildSlice
import Derived.Test.YtngnakdbhkjbjaaGreatDoorKm07
import Derived.Test.YtngnakdbhkjbjaaGreatDoorKm23
import Derived.Test.YtngnakdbhkjbjaaGreatDoorKm17
import Derived.Test.YtngnakdbhkjbjaaGreatDoorKm26
set_option linter.unusedVariables false
set_option linter.unusedSimpArgs false
set_option maxRecDepth 100000
set_option maxHeartbeats 8000000
namespace Go.Proofs.YtngnakdbhkjbjaaGreatDoor
open Go.RowKit
theorem req_any(k n:Int)(t:ByteArray)(b:Bool)(e:Int)(k' n':Int)(t':ByteArray)(b':Bool)(e':Int)(w:World):Calls Tryz.prog 50 #[vx k n t b e,vx k' n' t' b' e'] w fun x w'=>x=.returned (.bool (decide (k=k'∧n=n'∧t.data.toList=t'.data.toList∧b=b'∧e=e')))∧Q w w':=by
 rw [show decide (k=k'∧n=n'∧t.data.toList=t'.data.toList∧b=b'∧e=e')=((k == k')&&((n == n')&&((t.toList == t'.toList)&&((b == b')&&(e == e'))))) by
  rw [Lib.toList_data,Lib.toList_data,Bool.eq_iff_iff];simp only [decide_eq_true_eq,Bool.and_eq_true,beq_iff_eq]]
 unfold vx
 cases h0:(k == k')
 ·go_enter Tryz.func50,Tryz.ntmps50
  go_wp2_with fail
  go_ret
  exact ⟨rfl,((Q.refl _).alloc _).alloc _⟩
 ·cases h1:(n == n')
  ·go_enter Tryz.func50,Tryz.ntmps50
   go_wp2_with fail
   go_ret
   exact ⟨rfl,((Q.refl _).alloc _).alloc _⟩
  ·cases h2:(t.toList == t'.toList)
   ·go_enter Tryz.func50,Tryz.ntmps50
    go_wp2_with fail
    go_ret
    exact ⟨rfl,((Q.refl _).alloc _).alloc _⟩
   ·cases h3:(b == b')
    ·go_enter Tryz.func50,Tryz.ntmps50
     go_wp2_with fail
     go_ret
     exact ⟨rfl,((Q.refl _).alloc _).alloc _⟩
    ·cases h4:(e == e')
     all_goals
      go_enter Tryz.func50,Tryz.ntmps50
      go_wp2_with fail
      go_ret
      exact ⟨rfl,((Q.refl _).alloc _).alloc _⟩
theorem samecell_any(f:Bool)(vk vn:Int)(vt:ByteArray)(vb:Bool)(ve:Int)(k m:Int)(t:ByteArray)(bb:Bool)(er:Int)(a1:Option Addr)(l1 c1:Nat)(a2:Option Addr)(l2 c2:Nat)(f':Bool)(vk' vn':Int)(vt':ByteArray)(vb':Bool)(ve':Int)(k' m':Int)(t':ByteArray)(bb':Bool)(er':Int)(a1':Option Addr)(l1' c1':Nat)(a2':Option Addr)(l2' c2':Nat)(X Y:Ex)(b:Bool)(w:World)(hr:Rd w X (.agg #[.int .i64 k,.int .i64 m,.string t,.bool bb,.int .i64 er,.slice a1 l1 c1,.slice a2 l2 c2]))(hr':Rd w Y (.agg #[.int .i64 k',.int .i64 m',.string t',.bool bb',.int .i64 er',.slice a1' l1' c1',.slice a2' l2' c2']))(hn:nodes X≤1000)(hb:b=true↔(f=f'∧(vk=vk'∧vn=vn'∧vt.data.toList=vt'.data.toList∧vb=vb'∧ve=ve')∧X=Y)):Calls Tryz.prog 36 #[.agg #[.bool f,.int .i64 vk,.int .i64 vn,.string vt,.bool vb,.int .i64 ve,.int .i64 k,.int .i64 m,.string t,.bool bb,.int .i64 er,.slice a1 l1 c1,.slice a2 l2 c2],.agg #[.bool f',.int .i64 vk',.int .i64 vn',.string vt',.bool vb',.int .i64 ve',.int .i64 k',.int .i64 m',.string t',.bool bb',.int .i64 er',.slice a1' l1' c1',.slice a2' l2' c2']] w fun e W'=>e=.returned (.bool b)∧Q w W':=by
 have HV:=hid (fun W'=>veq_any vk vn vt vb ve vk' vn' vt' vb' ve' W')
 have HE:=hid (fun W' (q:Q w W')=>eq_any X Y _ _ W' (Rd.on q _ _ hr) (Rd.on q _ _ hr') hn)
 obtain ⟨rr,hrr⟩:∃ rr,decide (vk=vk'∧vn=vn'∧vt.data.toList=vt'.data.toList∧vb=vb'∧ve=ve')=rr:=⟨_,rfl⟩;rw [hrr]at HV;unfold vx at HV
 clear hr hr';by_cases hf:f=f'
 ·have e0:(f == f')=true:=by simpa using hf
  cases rr with
  |true=>
   have hv:=of_decide_eq_true hrr;have HB:Hid (∀ e,Ans (X=Y) e→e=.returned (.bool b)):=hid (fun e ⟨r,he,hr⟩=>by
    rw [he,show r=b from Bool.eq_iff_iff.2 (hr.trans ⟨fun x=>hb.2 ⟨hf,hv,x⟩,fun x=>(hb.1 x).2.2⟩)])
   clear hb hf hv hrr;go_enter Tryz.func36,Tryz.ntmps36
   go_upto_region 1 with fail
   have Z1:=hid ((cb_new w [.bool f,.int .i64 vk,.int .i64 vn,.string vt,.bool vb,.int .i64 ve,.int .i64 k,.int .i64 m,.string t,.bool bb,.int .i64 er,.slice a1 l1 c1,.slice a2 l2 c2] 30).on ((Q.refl _).alloc (.cells #[.bool f',.int .i64 vk',.int .i64 vn',.string vt',.bool vb',.int .i64 ve',.int .i64 k',.int .i64 m',.string t',.bool bb',.int .i64 er',.slice a1' l1' c1',.slice a2' l2' c2'] 30)));have Z2:=hid (cb_new (w.alloc (.cells #[.bool f,.int .i64 vk,.int .i64 vn,.string vt,.bool vb,.int .i64 ve,.int .i64 k,.int .i64 m,.string t,.bool bb,.int .i64 er,.slice a1 l1 c1,.slice a2 l2 c2] 30)) [.bool f',.int .i64 vk',.int .i64 vn',.string vt',.bool vb',.int .i64 ve',.int .i64 k',.int .i64 m',.string t',.bool bb',.int .i64 er',.slice a1' l1' c1',.slice a2' l2' c2'] 30);have QA:Hid (Q w ((w.alloc (.cells #[.bool f,.int .i64 vk,.int .i64 vn,.string vt,.bool vb,.int .i64 ve,.int .i64 k,.int .i64 m,.string t,.bool bb,.int .i64 er,.slice a1 l1 c1,.slice a2 l2 c2] 30)).alloc (.cells #[.bool f',.int .i64 vk',.int .i64 vn',.string vt',.bool vb',.int .i64 ve',.int .i64 k',.int .i64 m',.string t',.bool bb',.int .i64 er',.slice a1' l1' c1',.slice a2' l2' c2'] 30))):=hid (((Q.refl w).alloc _).alloc _)
   rw [show ([.bool f,.int .i64 vk,.int .i64 vn,.string vt,.bool vb,.int .i64 ve,.int .i64 k,.int .i64 m,.string t,.bool bb,.int .i64 er,.slice a1 l1 c1,.slice a2 l2 c2]:List Value).toArray=#[.bool f,.int .i64 vk,.int .i64 vn,.string vt,.bool vb,.int .i64 ve,.int .i64 k,.int .i64 m,.string t,.bool bb,.int .i64 er,.slice a1 l1 c1,.slice a2 l2 c2] from rfl]at Z1
   rw [show ([.bool f',.int .i64 vk',.int .i64 vn',.string vt',.bool vb',.int .i64 ve',.int .i64 k',.int .i64 m',.string t',.bool bb',.int .i64 er',.slice a1' l1' c1',.slice a2' l2' c2']:List Value).toArray=#[.bool f',.int .i64 vk',.int .i64 vn',.string vt',.bool vb',.int .i64 ve',.int .i64 k',.int .i64 m',.string t',.bool bb',.int .i64 er',.slice a1' l1' c1',.slice a2' l2' c2'] from rfl,show (w.alloc (.cells #[.bool f,.int .i64 vk,.int .i64 vn,.string vt,.bool vb,.int .i64 ve,.int .i64 k,.int .i64 m,.string t,.bool bb,.int .i64 er,.slice a1 l1 c1,.slice a2 l2 c2] 30)).heap.size=w.heap.size+1 by simp]at Z2
   generalize ((w.alloc (.cells #[.bool f,.int .i64 vk,.int .i64 vn,.string vt,.bool vb,.int .i64 ve,.int .i64 k,.int .i64 m,.string t,.bool bb,.int .i64 er,.slice a1 l1 c1,.slice a2 l2 c2] 30)).alloc (.cells #[.bool f',.int .i64 vk',.int .i64 vn',.string vt',.bool vb',.int .i64 ve',.int .i64 k',.int .i64 m',.string t',.bool bb',.int .i64 er',.slice a1' l1' c1',.slice a2' l2' c2'] 30))=w2 at Z1 Z2 QA ⊢;generalize w.heap.size+1=b1 at Z2 ⊢;generalize w.heap.size=b0 at Z1 ⊢;have d0:=Z1.out.c 0 _ rfl;have d1:=Z1.out.c 1 _ rfl;have d2:=Z1.out.c 2 _ rfl;have d3:=Z1.out.c 3 _ rfl;have d4:=Z1.out.c 4 _ rfl;have d5:=Z1.out.c 5 _ rfl;have d6:=Z1.out.c 6 _ rfl;have d7:=Z1.out.c 7 _ rfl;have d8:=Z1.out.c 8 _ rfl;have d9:=Z1.out.c 9 _ rfl;have d10:=Z1.out.c 10 _ rfl;have d11:=Z1.out.c 11 _ rfl;have d12:=Z1.out.c 12 _ rfl;have n0:=Z2.out.c 0 _ rfl;have n1:=Z2.out.c 1 _ rfl;have n2:=Z2.out.c 2 _ rfl;have n3:=Z2.out.c 3 _ rfl;have n4:=Z2.out.c 4 _ rfl;have n5:=Z2.out.c 5 _ rfl;have n6:=Z2.out.c 6 _ rfl;have n7:=Z2.out.c 7 _ rfl;have n8:=Z2.out.c 8 _ rfl;have n9:=Z2.out.c 9 _ rfl;have n10:=Z2.out.c 10 _ rfl;have n11:=Z2.out.c 11 _ rfl;have n12:=Z2.out.c 12 _ rfl;go_wp2_with (first|(go_at_call 43;refine (HV.out _).mono ?_;rintro e9 w3 ⟨rfl,q3⟩;have Z13:=hid (Z1.out.on q3);have Z23:=hid (Z2.out.on q3);have Q3:Hid (Q w w3):=hid (QA.out.trans q3);clear q3;have x0:=Z13.out.c 0 _ rfl;have x1:=Z13.out.c 1 _ rfl;have x2:=Z13.out.c 2 _ rfl;have x3:=Z13.out.c 3 _ rfl;have x4:=Z13.out.c 4 _ rfl;have x5:=Z13.out.c 5 _ rfl;have x6:=Z13.out.c 6 _ rfl;have x7:=Z13.out.c 7 _ rfl;have x8:=Z13.out.c 8 _ rfl;have x9:=Z13.out.c 9 _ rfl;have x10:=Z13.out.c 10 _ rfl;have x11:=Z13.out.c 11 _ rfl;have x12:=Z13.out.c 12 _ rfl;have y0:=Z23.out.c 0 _ rfl;have y1:=Z23.out.c 1 _ rfl;have y2:=Z23.out.c 2 _ rfl;have y3:=Z23.out.c 3 _ rfl;have y4:=Z23.out.c 4 _ rfl;have y5:=Z23.out.c 5 _ rfl;have y6:=Z23.out.c 6 _ rfl;have y7:=Z23.out.c 7 _ rfl;have y8:=Z23.out.c 8 _ rfl;have y9:=Z23.out.c 9 _ rfl;have y10:=Z23.out.c 10 _ rfl;have y11:=Z23.out.c 11 _ rfl;have y12:=Z23.out.c 12 _ rfl)|(go_at_call 45;refine (HE.out _ Q3.out).mono ?_;rintro e9 w4 ⟨ha,q4⟩;have he:=HB.out _ ha;subst he;have Q4:Hid (Q w w4):=hid (Q3.out.trans q4);clear q4 ha))
   go_ret
   exact ⟨rfl,Q4.out⟩
  |false=>
   have HB:Hid (b=false):=hid (by
    cases b with
    |false=>rfl
    |true=>exact absurd (hb.1 rfl).2.1 (of_decide_eq_false hrr))
   clear hb hf hrr;go_enter Tryz.func36,Tryz.ntmps36
   go_upto_region 1 with fail
   have Z1:=hid ((cb_new w [.bool f,.int .i64 vk,.int .i64 vn,.string vt,.bool vb,.int .i64 ve,.int .i64 k,.int .i64 m,.string t,.bool bb,.int .i64 er,.slice a1 l1 c1,.slice a2 l2 c2] 30).on ((Q.refl _).alloc (.cells #[.bool f',.int .i64 vk',.int .i64 vn',.string vt',.bool vb',.int .i64 ve',.int .i64 k',.int .i64 m',.string t',.bool bb',.int .i64 er',.slice a1' l1' c1',.slice a2' l2' c2'] 30)));have Z2:=hid (cb_new (w.alloc (.cells #[.bool f,.int .i64 vk,.int .i64 vn,.string vt,.bool vb,.int .i64 ve,.int .i64 k,.int .i64 m,.string t,.bool bb,.int .i64 er,.slice a1 l1 c1,.slice a2 l2 c2] 30)) [.bool f',.int .i64 vk',.int .i64 vn',.string vt',.bool vb',.int .i64 ve',.int .i64 k',.int .i64 m',.string t',.bool bb',.int .i64 er',.slice a1' l1' c1',.slice a2' l2' c2'] 30);have QA:Hid (Q w ((w.alloc (.cells #[.bool f,.int .i64 vk,.int .i64 vn,.string vt,.bool vb,.int .i64 ve,.int .i64 k,.int .i64 m,.string t,.bool bb,.int .i64 er,.slice a1 l1 c1,.slice a2 l2 c2] 30)).alloc (.cells #[.bool f',.int .i64 vk',.int .i64 vn',.string vt',.bool vb',.int .i64 ve',.int .i64 k',.int .i64 m',.string t',.bool bb',.int .i64 er',.slice a1' l1' c1',.slice a2' l2' c2'] 30))):=hid (((Q.refl w).alloc _).alloc _)
   rw [show ([.bool f,.int .i64 vk,.int .i64 vn,.string vt,.bool vb,.int .i64 ve,.int .i64 k,.int .i64 m,.string t,.bool bb,.int .i64 er,.slice a1 l1 c1,.slice a2 l2 c2]:List Value).toArray=#[.bool f,.int .i64 vk,.int .i64 vn,.string vt,.bool vb,.int .i64 ve,.int .i64 k,.int .i64 m,.string t,.bool bb,.int .i64 er,.slice a1 l1 c1,.slice a2 l2 c2] from rfl]at Z1
   rw [show ([.bool f',.int .i64 vk',.int .i64 vn',.string vt',.bool vb',.int .i64 ve',.int .i64 k',.int .i64 m',.string t',.bool bb',.int .i64 er',.slice a1' l1' c1',.slice a2' l2' c2']:List Value).toArray=#[.bool f',.int .i64 vk',.int .i64 vn',.string vt',.bool vb',.int .i64 ve',.int .i64 k',.int .i64 m',.string t',.bool bb',.int .i64 er',.slice a1' l1' c1',.slice a2' l2' c2'] from rfl,show (w.alloc (.cells #[.bool f,.int .i64 vk,.int .i64 vn,.string vt,.bool vb,.int .i64 ve,.int .i64 k,.int .i64 m,.string t,.bool bb,.int .i64 er,.slice a1 l1 c1,.slice a2 l2 c2] 30)).heap.size=w.heap.size+1 by simp]at Z2
   generalize ((w.alloc (.cells #[.bool f,.int .i64 vk,.int .i64 vn,.string vt,.bool vb,.int .i64 ve,.int .i64 k,.int .i64 m,.string t,.bool bb,.int .i64 er,.slice a1 l1 c1,.slice a2 l2 c2] 30)).alloc (.cells #[.bool f',.int .i64 vk',.int .i64 vn',.string vt',.bool vb',.int .i64 ve',.int .i64 k',.int .i64 m',.string t',.bool bb',.int .i64 er',.slice a1' l1' c1',.slice a2' l2' c2'] 30))=w2 at Z1 Z2 QA ⊢;generalize w.heap.size+1=b1 at Z2 ⊢;generalize w.heap.size=b0 at Z1 ⊢;have d0:=Z1.out.c 0 _ rfl;have d1:=Z1.out.c 1 _ rfl;have d2:=Z1.out.c 2 _ rfl;have d3:=Z1.out.c 3 _ rfl;have d4:=Z1.out.c 4 _ rfl;have d5:=Z1.out.c 5 _ rfl;have d6:=Z1.out.c 6 _ rfl;have d7:=Z1.out.c 7 _ rfl;have d8:=Z1.out.c 8 _ rfl;have d9:=Z1.out.c 9 _ rfl;have d10:=Z1.out.c 10 _ rfl;have d11:=Z1.out.c 11 _ rfl;have d12:=Z1.out.c 12 _ rfl;have n0:=Z2.out.c 0 _ rfl;have n1:=Z2.out.c 1 _ rfl;have n2:=Z2.out.c 2 _ rfl;have n3:=Z2.out.c 3 _ rfl;have n4:=Z2.out.c 4 _ rfl;have n5:=Z2.out.c 5 _ rfl;have n6:=Z2.out.c 6 _ rfl;have n7:=Z2.out.c 7 _ rfl;have n8:=Z2.out.c 8 _ rfl;have n9:=Z2.out.c 9 _ rfl;have n10:=Z2.out.c 10 _ rfl;have n11:=Z2.out.c 11 _ rfl;have n12:=Z2.out.c 12 _ rfl;go_wp2_with (go_at_call 43;refine (HV.out _).mono ?_;rintro e9 w3 ⟨rfl,q3⟩;have Q3:Hid (Q w w3):=hid (QA.out.trans q3);clear q3)
   go_ret
   exact ⟨ret_bool HB.out.symm,Q3.out⟩
 ·have e0:(f == f')=false:=by simpa using hf
  have HB:Hid (b=false):=hid (by
   cases b with
   |false=>rfl
   |true=>exact absurd (hb.1 rfl).1 hf)
  clear hb hf hrr;go_enter Tryz.func36,Tryz.ntmps36
  go_upto_region 1 with fail
  have Z1:=hid ((cb_new w [.bool f,.int .i64 vk,.int .i64 vn,.string vt,.bool vb,.int .i64 ve,.int .i64 k,.int .i64 m,.string t,.bool bb,.int .i64 er,.slice a1 l1 c1,.slice a2 l2 c2] 30).on ((Q.refl _).alloc (.cells #[.bool f',.int .i64 vk',.int .i64 vn',.string vt',.bool vb',.int .i64 ve',.int .i64 k',.int .i64 m',.string t',.bool bb',.int .i64 er',.slice a1' l1' c1',.slice a2' l2' c2'] 30)));have Z2:=hid (cb_new (w.alloc (.cells #[.bool f,.int .i64 vk,.int .i64 vn,.string vt,.bool vb,.int .i64 ve,.int .i64 k,.int .i64 m,.string t,.bool bb,.int .i64 er,.slice a1 l1 c1,.slice a2 l2 c2] 30)) [.bool f',.int .i64 vk',.int .i64 vn',.string vt',.bool vb',.int .i64 ve',.int .i64 k',.int .i64 m',.string t',.bool bb',.int .i64 er',.slice a1' l1' c1',.slice a2' l2' c2'] 30);have QA:Hid (Q w ((w.alloc (.cells #[.bool f,.int .i64 vk,.int .i64 vn,.string vt,.bool vb,.int .i64 ve,.int .i64 k,.int .i64 m,.string t,.bool bb,.int .i64 er,.slice a1 l1 c1,.slice a2 l2 c2] 30)).alloc (.cells #[.bool f',.int .i64 vk',.int .i64 vn',.string vt',.bool vb',.int .i64 ve',.int .i64 k',.int .i64 m',.string t',.bool bb',.int .i64 er',.slice a1' l1' c1',.slice a2' l2' c2'] 30))):=hid (((Q.refl w).alloc _).alloc _)
  rw [show ([.bool f,.int .i64 vk,.int .i64 vn,.string vt,.bool vb,.int .i64 ve,.int .i64 k,.int .i64 m,.string t,.bool bb,.int .i64 er,.slice a1 l1 c1,.slice a2 l2 c2]:List Value).toArray=#[.bool f,.int .i64 vk,.int .i64 vn,.string vt,.bool vb,.int .i64 ve,.int .i64 k,.int .i64 m,.string t,.bool bb,.int .i64 er,.slice a1 l1 c1,.slice a2 l2 c2] from rfl]at Z1
  rw [show ([.bool f',.int .i64 vk',.int .i64 vn',.string vt',.bool vb',.int .i64 ve',.int .i64 k',.int .i64 m',.string t',.bool bb',.int .i64 er',.slice a1' l1' c1',.slice a2' l2' c2']:List Value).toArray=#[.bool f',.int .i64 vk',.int .i64 vn',.string vt',.bool vb',.int .i64 ve',.int .i64 k',.int .i64 m',.string t',.bool bb',.int .i64 er',.slice a1' l1' c1',.slice a2' l2' c2'] from rfl,show (w.alloc (.cells #[.bool f,.int .i64 vk,.int .i64 vn,.string vt,.bool vb,.int .i64 ve,.int .i64 k,.int .i64 m,.string t,.bool bb,.int .i64 er,.slice a1 l1 c1,.slice a2 l2 c2] 30)).heap.size=w.heap.size+1 by simp]at Z2
  generalize ((w.alloc (.cells #[.bool f,.int .i64 vk,.int .i64 vn,.string vt,.bool vb,.int .i64 ve,.int .i64 k,.int .i64 m,.string t,.bool bb,.int .i64 er,.slice a1 l1 c1,.slice a2 l2 c2] 30)).alloc (.cells #[.bool f',.int .i64 vk',.int .i64 vn',.string vt',.bool vb',.int .i64 ve',.int .i64 k',.int .i64 m',.string t',.bool bb',.int .i64 er',.slice a1' l1' c1',.slice a2' l2' c2'] 30))=w2 at Z1 Z2 QA ⊢;generalize w.heap.size+1=b1 at Z2 ⊢;generalize w.heap.size=b0 at Z1 ⊢;have d0:=Z1.out.c 0 _ rfl;have d1:=Z1.out.c 1 _ rfl;have d2:=Z1.out.c 2 _ rfl;have d3:=Z1.out.c 3 _ rfl;have d4:=Z1.out.c 4 _ rfl;have d5:=Z1.out.c 5 _ rfl;have d6:=Z1.out.c 6 _ rfl;have d7:=Z1.out.c 7 _ rfl;have d8:=Z1.out.c 8 _ rfl;have d9:=Z1.out.c 9 _ rfl;have d10:=Z1.out.c 10 _ rfl;have d11:=Z1.out.c 11 _ rfl;have d12:=Z1.out.c 12 _ rfl;have n0:=Z2.out.c 0 _ rfl;have n1:=Z2.out.c 1 _ rfl;have n2:=Z2.out.c 2 _ rfl;have n3:=Z2.out.c 3 _ rfl;have n4:=Z2.out.c 4 _ rfl;have n5:=Z2.out.c 5 _ rfl;have n6:=Z2.out.c 6 _ rfl;have n7:=Z2.out.c 7 _ rfl;have n8:=Z2.out.c 8 _ rfl;have n9:=Z2.out.c 9 _ rfl;have n10:=Z2.out.c 10 _ rfl;have n11:=Z2.out.c 11 _ rfl;have n12:=Z2.out.c 12 _ rfl;go_wp2_with fail
  go_ret
  exact ⟨ret_bool HB.out.symm,QA.out⟩
theorem eqcell_any(f:Bool)(vk vn:Int)(vt:ByteArray)(vb:Bool)(ve:Int)(k m:Int)(t:ByteArray)(bb:Bool)(er:Int)(a1:Option Addr)(l1 c1:Nat)(a2:Option Addr)(l2 c2:Nat)(f':Bool)(vk' vn':Int)(vt':ByteArray)(vb':Bool)(ve':Int)(k' m':Int)(t':ByteArray)(bb':Bool)(er':Int)(a1':Option Addr)(l1' c1':Nat)(a2':Option Addr)(l2' c2':Nat)(X Y:Ex)(b:Bool)(w:World)(hr:Rd w X (.agg #[.int .i64 k,.int .i64 m,.string t,.bool bb,.int .i64 er,.slice a1 l1 c1,.slice a2 l2 c2]))(hr':Rd w Y (.agg #[.int .i64 k',.int .i64 m',.string t',.bool bb',.int .i64 er',.slice a1' l1' c1',.slice a2' l2' c2']))(hb:b=true↔(f=f'∧(vk=vk'∧vn=vn'∧vt.data.toList=vt'.data.toList∧vb=vb'∧ve=ve')∧X=Y)):Calls Tryz.prog 27 #[.agg #[.bool f,.int .i64 vk,.int .i64 vn,.string vt,.bool vb,.int .i64 ve,.int .i64 k,.int .i64 m,.string t,.bool bb,.int .i64 er,.slice a1 l1 c1,.slice a2 l2 c2],.agg #[.bool f',.int .i64 vk',.int .i64 vn',.string vt',.bool vb',.int .i64 ve',.int .i64 k',.int .i64 m',.string t',.bool bb',.int .i64 er',.slice a1' l1' c1',.slice a2' l2' c2']] w fun e W'=>e=.returned (.bool b)∧Q w W':=by
 have HV:=hid (fun W'=>req_any vk vn vt vb ve vk' vn' vt' vb' ve' W')
 have HE:=hid (fun W' (q:Q w W')=>eqexpr_any _ X Y _ _ W' (Nat.le_refl _) (Rd.on q _ _ hr) (Rd.on q _ _ hr'))
 obtain ⟨rr,hrr⟩:∃ rr,decide (vk=vk'∧vn=vn'∧vt.data.toList=vt'.data.toList∧vb=vb'∧ve=ve')=rr:=⟨_,rfl⟩;rw [hrr]at HV;unfold vx at HV
 clear hr hr';by_cases hf:f=f'
 ·have e0:(f == f')=true:=by simpa using hf
  cases rr with
  |true=>
   have hv:=of_decide_eq_true hrr;have HB:Hid (∀ e,Ans (X=Y) e→e=.returned (.bool b)):=hid (fun e ⟨r,he,hr⟩=>by
    rw [he,show r=b from Bool.eq_iff_iff.2 (hr.trans ⟨fun x=>hb.2 ⟨hf,hv,x⟩,fun x=>(hb.1 x).2.2⟩)])
   clear hb hf hv hrr;go_enter Tryz.func27,Tryz.ntmps27
   go_upto_region 1 with fail
   have Z1:=hid ((cb_new w [.bool f,.int .i64 vk,.int .i64 vn,.string vt,.bool vb,.int .i64 ve,.int .i64 k,.int .i64 m,.string t,.bool bb,.int .i64 er,.slice a1 l1 c1,.slice a2 l2 c2] 30).on ((Q.refl _).alloc (.cells #[.bool f',.int .i64 vk',.int .i64 vn',.string vt',.bool vb',.int .i64 ve',.int .i64 k',.int .i64 m',.string t',.bool bb',.int .i64 er',.slice a1' l1' c1',.slice a2' l2' c2'] 30)));have Z2:=hid (cb_new (w.alloc (.cells #[.bool f,.int .i64 vk,.int .i64 vn,.string vt,.bool vb,.int .i64 ve,.int .i64 k,.int .i64 m,.string t,.bool bb,.int .i64 er,.slice a1 l1 c1,.slice a2 l2 c2] 30)) [.bool f',.int .i64 vk',.int .i64 vn',.string vt',.bool vb',.int .i64 ve',.int .i64 k',.int .i64 m',.string t',.bool bb',.int .i64 er',.slice a1' l1' c1',.slice a2' l2' c2'] 30);have QA:Hid (Q w ((w.alloc (.cells #[.bool f,.int .i64 vk,.int .i64 vn,.string vt,.bool vb,.int .i64 ve,.int .i64 k,.int .i64 m,.string t,.bool bb,.int .i64 er,.slice a1 l1 c1,.slice a2 l2 c2] 30)).alloc (.cells #[.bool f',.int .i64 vk',.int .i64 vn',.string vt',.bool vb',.int .i64 ve',.int .i64 k',.int .i64 m',.string t',.bool bb',.int .i64 er',.slice a1' l1' c1',.slice a2' l2' c2'] 30))):=hid (((Q.refl w).alloc _).alloc _)
   rw [show ([.bool f,.int .i64 vk,.int .i64 vn,.string vt,.bool vb,.int .i64 ve,.int .i64 k,.int .i64 m,.string t,.bool bb,.int .i64 er,.slice a1 l1 c1,.slice a2 l2 c2]:List Value).toArray=#[.bool f,.int .i64 vk,.int .i64 vn,.string vt,.bool vb,.int .i64 ve,.int .i64 k,.int .i64 m,.string t,.bool bb,.int .i64 er,.slice a1 l1 c1,.slice a2 l2 c2] from rfl]at Z1
   rw [show ([.bool f',.int .i64 vk',.int .i64 vn',.string vt',.bool vb',.int .i64 ve',.int .i64 k',.int .i64 m',.string t',.bool bb',.int .i64 er',.slice a1' l1' c1',.slice a2' l2' c2']:List Value).toArray=#[.bool f',.int .i64 vk',.int .i64 vn',.string vt',.bool vb',.int .i64 ve',.int .i64 k',.int .i64 m',.string t',.bool bb',.int .i64 er',.slice a1' l1' c1',.slice a2' l2' c2'] from rfl,show (w.alloc (.cells #[.bool f,.int .i64 vk,.int .i64 vn,.string vt,.bool vb,.int .i64 ve,.int .i64 k,.int .i64 m,.string t,.bool bb,.int .i64 er,.slice a1 l1 c1,.slice a2 l2 c2] 30)).heap.size=w.heap.size+1 by simp]at Z2
   generalize ((w.alloc (.cells #[.bool f,.int .i64 vk,.int .i64 vn,.string vt,.bool vb,.int .i64 ve,.int .i64 k,.int .i64 m,.string t,.bool bb,.int .i64 er,.slice a1 l1 c1,.slice a2 l2 c2] 30)).alloc (.cells #[.bool f',.int .i64 vk',.int .i64 vn',.string vt',.bool vb',.int .i64 ve',.int .i64 k',.int .i64 m',.string t',.bool bb',.int .i64 er',.slice a1' l1' c1',.slice a2' l2' c2'] 30))=w2 at Z1 Z2 QA ⊢;generalize w.heap.size+1=b1 at Z2 ⊢;generalize w.heap.size=b0 at Z1 ⊢;have d0:=Z1.out.c 0 _ rfl;have d1:=Z1.out.c 1 _ rfl;have d2:=Z1.out.c 2 _ rfl;have d3:=Z1.out.c 3 _ rfl;have d4:=Z1.out.c 4 _ rfl;have d5:=Z1.out.c 5 _ rfl;have d6:=Z1.out.c 6 _ rfl;have d7:=Z1.out.c 7 _ rfl;have d8:=Z1.out.c 8 _ rfl;have d9:=Z1.out.c 9 _ rfl;have d10:=Z1.out.c 10 _ rfl;have d11:=Z1.out.c 11 _ rfl;have d12:=Z1.out.c 12 _ rfl;have n0:=Z2.out.c 0 _ rfl;have n1:=Z2.out.c 1 _ rfl;have n2:=Z2.out.c 2 _ rfl;have n3:=Z2.out.c 3 _ rfl;have n4:=Z2.out.c 4 _ rfl;have n5:=Z2.out.c 5 _ rfl;have n6:=Z2.out.c 6 _ rfl;have n7:=Z2.out.c 7 _ rfl;have n8:=Z2.out.c 8 _ rfl;have n9:=Z2.out.c 9 _ rfl;have n10:=Z2.out.c 10 _ rfl;have n11:=Z2.out.c 11 _ rfl;have n12:=Z2.out.c 12 _ rfl;go_wp2_with (first|(go_at_call 50;refine (HV.out _).mono ?_;rintro e9 w3 ⟨rfl,q3⟩;have Z13:=hid (Z1.out.on q3);have Z23:=hid (Z2.out.on q3);have Q3:Hid (Q w w3):=hid (QA.out.trans q3);clear q3;have x0:=Z13.out.c 0 _ rfl;have x1:=Z13.out.c 1 _ rfl;have x2:=Z13.out.c 2 _ rfl;have x3:=Z13.out.c 3 _ rfl;have x4:=Z13.out.c 4 _ rfl;have x5:=Z13.out.c 5 _ rfl;have x6:=Z13.out.c 6 _ rfl;have x7:=Z13.out.c 7 _ rfl;have x8:=Z13.out.c 8 _ rfl;have x9:=Z13.out.c 9 _ rfl;have x10:=Z13.out.c 10 _ rfl;have x11:=Z13.out.c 11 _ rfl;have x12:=Z13.out.c 12 _ rfl;have y0:=Z23.out.c 0 _ rfl;have y1:=Z23.out.c 1 _ rfl;have y2:=Z23.out.c 2 _ rfl;have y3:=Z23.out.c 3 _ rfl;have y4:=Z23.out.c 4 _ rfl;have y5:=Z23.out.c 5 _ rfl;have y6:=Z23.out.c 6 _ rfl;have y7:=Z23.out.c 7 _ rfl;have y8:=Z23.out.c 8 _ rfl;have y9:=Z23.out.c 9 _ rfl;have y10:=Z23.out.c 10 _ rfl;have y11:=Z23.out.c 11 _ rfl;have y12:=Z23.out.c 12 _ rfl)|(go_at_call 51;refine (HE.out _ Q3.out).mono ?_;rintro e9 w4 ⟨ha,q4⟩;have he:=HB.out _ ha;subst he;have Q4:Hid (Q w w4):=hid (Q3.out.trans q4);clear q4 ha))
   go_ret
   exact ⟨rfl,Q4.out⟩
  |false=>
   have HB:Hid (b=false):=hid (by
    cases b with
    |false=>rfl
    |true=>exact absurd (hb.1 rfl).2.1 (of_decide_eq_false hrr))
   clear hb hf hrr;go_enter Tryz.func27,Tryz.ntmps27
   go_upto_region 1 with fail
   have Z1:=hid ((cb_new w [.bool f,.int .i64 vk,.int .i64 vn,.string vt,.bool vb,.int .i64 ve,.int .i64 k,.int .i64 m,.string t,.bool bb,.int .i64 er,.slice a1 l1 c1,.slice a2 l2 c2] 30).on ((Q.refl _).alloc (.cells #[.bool f',.int .i64 vk',.int .i64 vn',.string vt',.bool vb',.int .i64 ve',.int .i64 k',.int .i64 m',.string t',.bool bb',.int .i64 er',.slice a1' l1' c1',.slice a2' l2' c2'] 30)));have Z2:=hid (cb_new (w.alloc (.cells #[.bool f,.int .i64 vk,.int .i64 vn,.string vt,.bool vb,.int .i64 ve,.int .i64 k,.int .i64 m,.string t,.bool bb,.int .i64 er,.slice a1 l1 c1,.slice a2 l2 c2] 30)) [.bool f',.int .i64 vk',.int .i64 vn',.string vt',.bool vb',.int .i64 ve',.int .i64 k',.int .i64 m',.string t',.bool bb',.int .i64 er',.slice a1' l1' c1',.slice a2' l2' c2'] 30);have QA:Hid (Q w ((w.alloc (.cells #[.bool f,.int .i64 vk,.int .i64 vn,.string vt,.bool vb,.int .i64 ve,.int .i64 k,.int .i64 m,.string t,.bool bb,.int .i64 er,.slice a1 l1 c1,.slice a2 l2 c2] 30)).alloc (.cells #[.bool f',.int .i64 vk',.int .i64 vn',.string vt',.bool vb',.int .i64 ve',.int .i64 k',.int .i64 m',.string t',.bool bb',.int .i64 er',.slice a1' l1' c1',.slice a2' l2' c2'] 30))):=hid (((Q.refl w).alloc _).alloc _)
   rw [show ([.bool f,.int .i64 vk,.int .i64 vn,.string vt,.bool vb,.int .i64 ve,.int .i64 k,.int .i64 m,.string t,.bool bb,.int .i64 er,.slice a1 l1 c1,.slice a2 l2 c2]:List Value).toArray=#[.bool f,.int .i64 vk,.int .i64 vn,.string vt,.bool vb,.int .i64 ve,.int .i64 k,.int .i64 m,.string t,.bool bb,.int .i64 er,.slice a1 l1 c1,.slice a2 l2 c2] from rfl]at Z1
   rw [show ([.bool f',.int .i64 vk',.int .i64 vn',.string vt',.bool vb',.int .i64 ve',.int .i64 k',.int .i64 m',.string t',.bool bb',.int .i64 er',.slice a1' l1' c1',.slice a2' l2' c2']:List Value).toArray=#[.bool f',.int .i64 vk',.int .i64 vn',.string vt',.bool vb',.int .i64 ve',.int .i64 k',.int .i64 m',.string t',.bool bb',.int .i64 er',.slice a1' l1' c1',.slice a2' l2' c2'] from rfl,show (w.alloc (.cells #[.bool f,.int .i64 vk,.int .i64 vn,.string vt,.bool vb,.int .i64 ve,.int .i64 k,.int .i64 m,.string t,.bool bb,.int .i64 er,.slice a1 l1 c1,.slice a2 l2 c2] 30)).heap.size=w.heap.size+1 by simp]at Z2
   generalize ((w.alloc (.cells #[.bool f,.int .i64 vk,.int .i64 vn,.string vt,.bool vb,.int .i64 ve,.int .i64 k,.int .i64 m,.string t,.bool bb,.int .i64 er,.slice a1 l1 c1,.slice a2 l2 c2] 30)).alloc (.cells #[.bool f',.int .i64 vk',.int .i64 vn',.string vt',.bool vb',.int .i64 ve',.int .i64 k',.int .i64 m',.string t',.bool bb',.int .i64 er',.slice a1' l1' c1',.slice a2' l2' c2'] 30))=w2 at Z1 Z2 QA ⊢;generalize w.heap.size+1=b1 at Z2 ⊢;generalize w.heap.size=b0 at Z1 ⊢;have d0:=Z1.out.c 0 _ rfl;have d1:=Z1.out.c 1 _ rfl;have d2:=Z1.out.c 2 _ rfl;have d3:=Z1.out.c 3 _ rfl;have d4:=Z1.out.c 4 _ rfl;have d5:=Z1.out.c 5 _ rfl;have d6:=Z1.out.c 6 _ rfl;have d7:=Z1.out.c 7 _ rfl;have d8:=Z1.out.c 8 _ rfl;have d9:=Z1.out.c 9 _ rfl;have d10:=Z1.out.c 10 _ rfl;have d11:=Z1.out.c 11 _ rfl;have d12:=Z1.out.c 12 _ rfl;have n0:=Z2.out.c 0 _ rfl;have n1:=Z2.out.c 1 _ rfl;have n2:=Z2.out.c 2 _ rfl;have n3:=Z2.out.c 3 _ rfl;have n4:=Z2.out.c 4 _ rfl;have n5:=Z2.out.c 5 _ rfl;have n6:=Z2.out.c 6 _ rfl;have n7:=Z2.out.c 7 _ rfl;have n8:=Z2.out.c 8 _ rfl;have n9:=Z2.out.c 9 _ rfl;have n10:=Z2.out.c 10 _ rfl;have n11:=Z2.out.c 11 _ rfl;have n12:=Z2.out.c 12 _ rfl;go_wp2_with (go_at_call 50;refine (HV.out _).mono ?_;rintro e9 w3 ⟨rfl,q3⟩;have Q3:Hid (Q w w3):=hid (QA.out.trans q3);clear q3)
   go_ret
   exact ⟨ret_bool HB.out.symm,Q3.out⟩
 ·have e0:(f == f')=false:=by simpa using hf
  have HB:Hid (b=false):=hid (by
   cases b with
   |false=>rfl
   |true=>exact absurd (hb.1 rfl).1 hf)
  clear hb hf hrr;go_enter Tryz.func27,Tryz.ntmps27
  go_upto_region 1 with fail
  have Z1:=hid ((cb_new w [.bool f,.int .i64 vk,.int .i64 vn,.string vt,.bool vb,.int .i64 ve,.int .i64 k,.int .i64 m,.string t,.bool bb,.int .i64 er,.slice a1 l1 c1,.slice a2 l2 c2] 30).on ((Q.refl _).alloc (.cells #[.bool f',.int .i64 vk',.int .i64 vn',.string vt',.bool vb',.int .i64 ve',.int .i64 k',.int .i64 m',.string t',.bool bb',.int .i64 er',.slice a1' l1' c1',.slice a2' l2' c2'] 30)));have Z2:=hid (cb_new (w.alloc (.cells #[.bool f,.int .i64 vk,.int .i64 vn,.string vt,.bool vb,.int .i64 ve,.int .i64 k,.int .i64 m,.string t,.bool bb,.int .i64 er,.slice a1 l1 c1,.slice a2 l2 c2] 30)) [.bool f',.int .i64 vk',.int .i64 vn',.string vt',.bool vb',.int .i64 ve',.int .i64 k',.int .i64 m',.string t',.bool bb',.int .i64 er',.slice a1' l1' c1',.slice a2' l2' c2'] 30);have QA:Hid (Q w ((w.alloc (.cells #[.bool f,.int .i64 vk,.int .i64 vn,.string vt,.bool vb,.int .i64 ve,.int .i64 k,.int .i64 m,.string t,.bool bb,.int .i64 er,.slice a1 l1 c1,.slice a2 l2 c2] 30)).alloc (.cells #[.bool f',.int .i64 vk',.int .i64 vn',.string vt',.bool vb',.int .i64 ve',.int .i64 k',.int .i64 m',.string t',.bool bb',.int .i64 er',.slice a1' l1' c1',.slice a2' l2' c2'] 30))):=hid (((Q.refl w).alloc _).alloc _)
  rw [show ([.bool f,.int .i64 vk,.int .i64 vn,.string vt,.bool vb,.int .i64 ve,.int .i64 k,.int .i64 m,.string t,.bool bb,.int .i64 er,.slice a1 l1 c1,.slice a2 l2 c2]:List Value).toArray=#[.bool f,.int .i64 vk,.int .i64 vn,.string vt,.bool vb,.int .i64 ve,.int .i64 k,.int .i64 m,.string t,.bool bb,.int .i64 er,.slice a1 l1 c1,.slice a2 l2 c2] from rfl]at Z1
  rw [show ([.bool f',.int .i64 vk',.int .i64 vn',.string vt',.bool vb',.int .i64 ve',.int .i64 k',.int .i64 m',.string t',.bool bb',.int .i64 er',.slice a1' l1' c1',.slice a2' l2' c2']:List Value).toArray=#[.bool f',.int .i64 vk',.int .i64 vn',.string vt',.bool vb',.int .i64 ve',.int .i64 k',.int .i64 m',.string t',.bool bb',.int .i64 er',.slice a1' l1' c1',.slice a2' l2' c2'] from rfl,show (w.alloc (.cells #[.bool f,.int .i64 vk,.int .i64 vn,.string vt,.bool vb,.int .i64 ve,.int .i64 k,.int .i64 m,.string t,.bool bb,.int .i64 er,.slice a1 l1 c1,.slice a2 l2 c2] 30)).heap.size=w.heap.size+1 by simp]at Z2
  generalize ((w.alloc (.cells #[.bool f,.int .i64 vk,.int .i64 vn,.string vt,.bool vb,.int .i64 ve,.int .i64 k,.int .i64 m,.string t,.bool bb,.int .i64 er,.slice a1 l1 c1,.slice a2 l2 c2] 30)).alloc (.cells #[.bool f',.int .i64 vk',.int .i64 vn',.string vt',.bool vb',.int .i64 ve',.int .i64 k',.int .i64 m',.string t',.bool bb',.int .i64 er',.slice a1' l1' c1',.slice a2' l2' c2'] 30))=w2 at Z1 Z2 QA ⊢;generalize w.heap.size+1=b1 at Z2 ⊢;generalize w.heap.size=b0 at Z1 ⊢;have d0:=Z1.out.c 0 _ rfl;have d1:=Z1.out.c 1 _ rfl;have d2:=Z1.out.c 2 _ rfl;have d3:=Z1.out.c 3 _ rfl;have d4:=Z1.out.c 4 _ rfl;have d5:=Z1.out.c 5 _ rfl;have d6:=Z1.out.c 6 _ rfl;have d7:=Z1.out.c 7 _ rfl;have d8:=Z1.out.c 8 _ rfl;have d9:=Z1.out.c 9 _ rfl;have d10:=Z1.out.c 10 _ rfl;have d11:=Z1.out.c 11 _ rfl;have d12:=Z1.out.c 12 _ rfl;have n0:=Z2.out.c 0 _ rfl;have n1:=Z2.out.c 1 _ rfl;have n2:=Z2.out.c 2 _ rfl;have n3:=Z2.out.c 3 _ rfl;have n4:=Z2.out.c 4 _ rfl;have n5:=Z2.out.c 5 _ rfl;have n6:=Z2.out.c 6 _ rfl;have n7:=Z2.out.c 7 _ rfl;have n8:=Z2.out.c 8 _ rfl;have n9:=Z2.out.c 9 _ rfl;have n10:=Z2.out.c 10 _ rfl;have n11:=Z2.out.c 11 _ rfl;have n12:=Z2.out.c 12 _ rfl;go_wp2_with fail
  go_ret
  exact ⟨ret_bool HB.out.symm,QA.out⟩
structure Rv where
 (k:Int)
 (sh:ByteArray)
 (row:Int)
 (col:Int)
 (f:Bool)
 (vk:Int)
 (vn:Int)
 (vt:ByteArray)
 (vb:Bool)
 (ve:Int)
 (tk:Int)
 (tm:Int)
 (tt:ByteArray)
 (tb:Bool)
 (te:Int)
 (a1:Option Addr)
 (l1:Nat)
 (c1:Nat)
 (a2:Option Addr)
 (l2:Nat)
 (c2:Nat)
 (lk:Int)
 (la:Int)
 (lt:Int)
 (ra:Option Addr)
 (rl:Nat)
 (rc:Nat)
 (fm:Int)
 (nm:ByteArray)
def Rv.L(x:Rv):List Value:=[.int .i64 x.k,.string x.sh,.int .i64 x.row,.int .i64 x.col,.bool x.f,.int .i64 x.vk,.int .i64 x.vn,.string x.vt,.bool x.vb,.int .i64 x.ve,.int .i64 x.tk,.int .i64 x.tm,.string x.tt,.bool x.tb,.int .i64 x.te,.slice x.a1 x.l1 x.c1,.slice x.a2 x.l2 x.c2,.int .i64 x.lk,.int .i64 x.la,.int .i64 x.lt,.slice x.ra x.rl x.rc,.int .i64 x.fm,.string x.nm]
def Rv.v(x:Rv):Value:=.agg #[.int .i64 x.k,.string x.sh,.int .i64 x.row,.int .i64 x.col,.bool x.f,.int .i64 x.vk,.int .i64 x.vn,.string x.vt,.bool x.vb,.int .i64 x.ve,.int .i64 x.tk,.int .i64 x.tm,.string x.tt,.bool x.tb,.int .i64 x.te,.slice x.a1 x.l1 x.c1,.slice x.a2 x.l2 x.c2,.int .i64 x.lk,.int .i64 x.la,.int .i64 x.lt,.slice x.ra x.rl x.rc,.int .i64 x.fm,.string x.nm]
structure RO (W:World) (x:Rv) (X:Ex) (L:List R.Rg.Rc):Prop where
 t:Rd W X (.agg #[.int .i64 x.tk,.int .i64 x.tm,.string x.tt,.bool x.tb,.int .i64 x.te,.slice x.a1 x.l1 x.c1,.slice x.a2 x.l2 x.c2])
 r:R.Sl R.rc 4 W (.slice x.ra x.rl x.rc) L
theorem RO.on{W W':World}{x:Rv}{X:Ex}{L:List R.Rg.Rc}(h:RO W x X L)(q:Q W W'):RO W' x X L:=⟨Rd.on q _ _ h.t,h.r.on q⟩
def vE(x y:Rv):Prop:=x.vk=y.vk∧x.vn=y.vn∧x.vt.data.toList=y.vt.data.toList∧x.vb=y.vb∧x.ve=y.ve
def oE(x y:Rv)(X Y:Ex)(L M:List R.Rg.Rc):Prop:=x.k=y.k∧x.sh.data.toList=y.sh.data.toList∧x.row=y.row∧x.col=y.col∧(x.lk=y.lk∧x.la=y.la∧x.lt=y.lt)∧x.fm=y.fm∧x.nm.data.toList=y.nm.data.toList∧L=M∧(x.f=y.f∧vE x y∧X=Y)
theorem oe_split(x y:Rv)(X Y:Ex)(L M:List R.Rg.Rc)(b:Bool)(hb:b=true↔oE x y X Y L M):∃ (cb:Bool),(cb=true↔(x.f=y.f∧vE x y∧X=Y))∧b=(decide (x.k=y.k)&&(decide (x.sh.data.toList=y.sh.data.toList)&&(decide (x.row=y.row)&&(decide (x.col=y.col)&&(decide (x.lk=y.lk∧x.la=y.la∧x.lt=y.lt)&&(decide (x.fm=y.fm)&&(decide (x.nm.data.toList=y.nm.data.toList)&&(R.eqRc L M&&cb)))))))):=by
 obtain ⟨cb,hc⟩:∃ cb:Bool,(cb=true↔(x.f=y.f∧vE x y∧X=Y)):=by
  by_cases h:(x.f=y.f∧vE x y∧X=Y)
  ·exact ⟨true,fun _=>h,fun _=>rfl⟩
  ·exact ⟨false,fun e=>absurd e Bool.false_ne_true,fun e=>absurd e h⟩
 refine ⟨cb,hc,?_⟩
 rw [Bool.eq_iff_iff,hb];simp only [Bool.and_eq_true,decide_eq_true_eq,R.eqRc_iff,hc]
 rfl
theorem line_eq(a b c a' b' c':Int)(w:World):(binOp .eql 32 (.agg #[.int .i64 a,.int .i64 b,.int .i64 c]) (.agg #[.int .i64 a',.int .i64 b',.int .i64 c'])).run Tryz.prog w=.ok (.bool (decide (a=a'∧b=b'∧c=c'))) w:=by
 have u2:=Tryz.underlying2;have u3:=Tryz.underlying3;have hS:Tryz.prog.underlying 32=some (.struct (Tryz.prog.fieldsOf 32)):=by kernel_rfl
 have hp:Tryz.prog.stoodInHeld 32=false:=by kernel_rfl
 rw [run_eql_struct,show (10000:Nat)=9999+1 from rfl,run_equalIn_agg w 9999 32 _ _ hS hp]
 simp only [Program.fieldsOf,Tryz.underlying32]
 go_simp
 by_cases h1:a=a' <;> by_cases h2:b=b' <;> by_cases h3:c=c' <;> simp [h1,h2,h3]
theorem opeq_any(x y:Rv)(X Y:Ex)(L M:List R.Rg.Rc)(b:Bool)(w:World)(hx:RO w x X L)(hy:RO w y Y M)(hn:nodes X≤1000)(hL:L.length≤1000000000000)(hM:M.length≤1000000000000)(hb:b=true↔oE x y X Y L M):Calls Tryz.prog 10 #[x.v,y.v] w fun e W'=>e=.returned (.bool b)∧Q w W':=by
 obtain ⟨cb,hcb,hbb⟩:=oe_split x y X Y L M b hb;clear hb;have hxt:=hx.t;have hxr:=hx.r;have hyt:=hy.t;have hyr:=hy.r;clear hx hy;obtain ⟨k,sh,row,col,f,vk,vn,vt,vb,ve,tk,tm,tt,tb,te,a1,l1,c1,a2,l2,c2,lk,la,lt,ra,rl,rc,fm,nm⟩:=x;obtain ⟨k',sh',row',col',f',vk',vn',vt',vb',ve',tk',tm',tt',tb',te',a1',l1',c1',a2',l2',c2',lk',la',lt',ra',rl',rc',fm',nm'⟩:=y;unfold Rv.v
 unfold vE at hcb
 dsimp only at *
 have HC:=hid (fun W' (q:Q w W')=>samecell_any f vk vn vt vb ve tk tm tt tb te a1 l1 c1 a2 l2 c2 f' vk' vn' vt' vb' ve' tk' tm' tt' tb' te' a1' l1' c1' a2' l2' c2' X Y cb W' (Rd.on q _ _ hxt) (Rd.on q _ _ hyt) hn hcb)
 have HR:=hid (fun W' (q:Q w W')=>R.eqR_any _ _ L M W' (hxr.on q) (hyr.on q) hL hM)
 generalize R.eqRc L M=rb at HR hbb;clear hxt hxr hyt hyr hcb hL hM hn;have HBB:=hid hbb;clear hbb;go_enter Tryz.func10,Tryz.ntmps10
 go_upto_region 1 with fail
 have Z1:=hid ((cb_new w [.int .i64 k,.string sh,.int .i64 row,.int .i64 col,.bool f,.int .i64 vk,.int .i64 vn,.string vt,.bool vb,.int .i64 ve,.int .i64 tk,.int .i64 tm,.string tt,.bool tb,.int .i64 te,.slice a1 l1 c1,.slice a2 l2 c2,.int .i64 lk,.int .i64 la,.int .i64 lt,.slice ra rl rc,.int .i64 fm,.string nm] 35).on ((Q.refl _).alloc (.cells #[.int .i64 k',.string sh',.int .i64 row',.int .i64 col',.bool f',.int .i64 vk',.int .i64 vn',.string vt',.bool vb',.int .i64 ve',.int .i64 tk',.int .i64 tm',.string tt',.bool tb',.int .i64 te',.slice a1' l1' c1',.slice a2' l2' c2',.int .i64 lk',.int .i64 la',.int .i64 lt',.slice ra' rl' rc',.int .i64 fm',.string nm'] 35)));have Z2:=hid (cb_new (w.alloc (.cells #[.int .i64 k,.string sh,.int .i64 row,.int .i64 col,.bool f,.int .i64 vk,.int .i64 vn,.string vt,.bool vb,.int .i64 ve,.int .i64 tk,.int .i64 tm,.string tt,.bool tb,.int .i64 te,.slice a1 l1 c1,.slice a2 l2 c2,.int .i64 lk,.int .i64 la,.int .i64 lt,.slice ra rl rc,.int .i64 fm,.string nm] 35)) [.int .i64 k',.string sh',.int .i64 row',.int .i64 col',.bool f',.int .i64 vk',.int .i64 vn',.string vt',.bool vb',.int .i64 ve',.int .i64 tk',.int .i64 tm',.string tt',.bool tb',.int .i64 te',.slice a1' l1' c1',.slice a2' l2' c2',.int .i64 lk',.int .i64 la',.int .i64 lt',.slice ra' rl' rc',.int .i64 fm',.string nm'] 35);have QA:Hid (Q w ((w.alloc (.cells #[.int .i64 k,.string sh,.int .i64 row,.int .i64 col,.bool f,.int .i64 vk,.int .i64 vn,.string vt,.bool vb,.int .i64 ve,.int .i64 tk,.int .i64 tm,.string tt,.bool tb,.int .i64 te,.slice a1 l1 c1,.slice a2 l2 c2,.int .i64 lk,.int .i64 la,.int .i64 lt,.slice ra rl rc,.int .i64 fm,.string nm] 35)).alloc (.cells #[.int .i64 k',.string sh',.int .i64 row',.int .i64 col',.bool f',.int .i64 vk',.int .i64 vn',.string vt',.bool vb',.int .i64 ve',.int .i64 tk',.int .i64 tm',.string tt',.bool tb',.int .i64 te',.slice a1' l1' c1',.slice a2' l2' c2',.int .i64 lk',.int .i64 la',.int .i64 lt',.slice ra' rl' rc',.int .i64 fm',.string nm'] 35))):=hid (((Q.refl w).alloc _).alloc _)
 rw [show ([.int .i64 k,.string sh,.int .i64 row,.int .i64 col,.bool f,.int .i64 vk,.int .i64 vn,.string vt,.bool vb,.int .i64 ve,.int .i64 tk,.int .i64 tm,.string tt,.bool tb,.int .i64 te,.slice a1 l1 c1,.slice a2 l2 c2,.int .i64 lk,.int .i64 la,.int .i64 lt,.slice ra rl rc,.int .i64 fm,.string nm]:List Value).toArray=#[.int .i64 k,.string sh,.int .i64 row,.int .i64 col,.bool f,.int .i64 vk,.int .i64 vn,.string vt,.bool vb,.int .i64 ve,.int .i64 tk,.int .i64 tm,.string tt,.bool tb,.int .i64 te,.slice a1 l1 c1,.slice a2 l2 c2,.int .i64 lk,.int .i64 la,.int .i64 lt,.slice ra rl rc,.int .i64 fm,.string nm] from rfl]at Z1
 rw [show ([.int .i64 k',.string sh',.int .i64 row',.int .i64 col',.bool f',.int .i64 vk',.int .i64 vn',.string vt',.bool vb',.int .i64 ve',.int .i64 tk',.int .i64 tm',.string tt',.bool tb',.int .i64 te',.slice a1' l1' c1',.slice a2' l2' c2',.int .i64 lk',.int .i64 la',.int .i64 lt',.slice ra' rl' rc',.int .i64 fm',.string nm']:List Value).toArray=#[.int .i64 k',.string sh',.int .i64 row',.int .i64 col',.bool f',.int .i64 vk',.int .i64 vn',.string vt',.bool vb',.int .i64 ve',.int .i64 tk',.int .i64 tm',.string tt',.bool tb',.int .i64 te',.slice a1' l1' c1',.slice a2' l2' c2',.int .i64 lk',.int .i64 la',.int .i64 lt',.slice ra' rl' rc',.int .i64 fm',.string nm'] from rfl,show (w.alloc (.cells #[.int .i64 k,.string sh,.int .i64 row,.int .i64 col,.bool f,.int .i64 vk,.int .i64 vn,.string vt,.bool vb,.int .i64 ve,.int .i64 tk,.int .i64 tm,.string tt,.bool tb,.int .i64 te,.slice a1 l1 c1,.slice a2 l2 c2,.int .i64 lk,.int .i64 la,.int .i64 lt,.slice ra rl rc,.int .i64 fm,.string nm] 35)).heap.size=w.heap.size+1 by simp]at Z2
 generalize ((w.alloc (.cells #[.int .i64 k,.string sh,.int .i64 row,.int .i64 col,.bool f,.int .i64 vk,.int .i64 vn,.string vt,.bool vb,.int .i64 ve,.int .i64 tk,.int .i64 tm,.string tt,.bool tb,.int .i64 te,.slice a1 l1 c1,.slice a2 l2 c2,.int .i64 lk,.int .i64 la,.int .i64 lt,.slice ra rl rc,.int .i64 fm,.string nm] 35)).alloc (.cells #[.int .i64 k',.string sh',.int .i64 row',.int .i64 col',.bool f',.int .i64 vk',.int .i64 vn',.string vt',.bool vb',.int .i64 ve',.int .i64 tk',.int .i64 tm',.string tt',.bool tb',.int .i64 te',.slice a1' l1' c1',.slice a2' l2' c2',.int .i64 lk',.int .i64 la',.int .i64 lt',.slice ra' rl' rc',.int .i64 fm',.string nm'] 35))=w2 at Z1 Z2 QA ⊢;generalize w.heap.size+1=b1 at Z2 ⊢;generalize w.heap.size=b0 at Z1 ⊢;have d0:=Z1.out.c 0 _ rfl;have d1:=Z1.out.c 1 _ rfl;have d2:=Z1.out.c 2 _ rfl;have d3:=Z1.out.c 3 _ rfl;have d4:=Z1.out.c 4 _ rfl;have d5:=Z1.out.c 5 _ rfl;have d6:=Z1.out.c 6 _ rfl;have d7:=Z1.out.c 7 _ rfl;have d8:=Z1.out.c 8 _ rfl;have d9:=Z1.out.c 9 _ rfl;have d10:=Z1.out.c 10 _ rfl;have d11:=Z1.out.c 11 _ rfl;have d12:=Z1.out.c 12 _ rfl;have d13:=Z1.out.c 13 _ rfl;have d14:=Z1.out.c 14 _ rfl;have d15:=Z1.out.c 15 _ rfl;have d16:=Z1.out.c 16 _ rfl;have d17:=Z1.out.c 17 _ rfl;have d18:=Z1.out.c 18 _ rfl;have d19:=Z1.out.c 19 _ rfl;have d20:=Z1.out.c 20 _ rfl;have d21:=Z1.out.c 21 _ rfl;have d22:=Z1.out.c 22 _ rfl;have n0:=Z2.out.c 0 _ rfl;have n1:=Z2.out.c 1 _ rfl;have n2:=Z2.out.c 2 _ rfl;have n3:=Z2.out.c 3 _ rfl;have n4:=Z2.out.c 4 _ rfl;have n5:=Z2.out.c 5 _ rfl;have n6:=Z2.out.c 6 _ rfl;have n7:=Z2.out.c 7 _ rfl;have n8:=Z2.out.c 8 _ rfl;have n9:=Z2.out.c 9 _ rfl;have n10:=Z2.out.c 10 _ rfl;have n11:=Z2.out.c 11 _ rfl;have n12:=Z2.out.c 12 _ rfl;have n13:=Z2.out.c 13 _ rfl;have n14:=Z2.out.c 14 _ rfl;have n15:=Z2.out.c 15 _ rfl;have n16:=Z2.out.c 16 _ rfl;have n17:=Z2.out.c 17 _ rfl;have n18:=Z2.out.c 18 _ rfl;have n19:=Z2.out.c 19 _ rfl;have n20:=Z2.out.c 20 _ rfl;have n21:=Z2.out.c 21 _ rfl;have n22:=Z2.out.c 22 _ rfl;have hbb:=HBB.out;clear HBB;by_cases h_k:k=k'
 ·rw [decide_eq_true h_k,Bool.true_and]at hbb
  have e_k:(k == k')=true:=by simpa using h_k
  clear h_k;by_cases h_sh:sh.data.toList=sh'.data.toList
  ·rw [decide_eq_true h_sh,Bool.true_and]at hbb
   have e_sh:(sh.toList == sh'.toList)=true:=by rw [Lib.toList_data,Lib.toList_data];simpa using h_sh
   clear h_sh;by_cases h_row:row=row'
   ·rw [decide_eq_true h_row,Bool.true_and]at hbb
    have e_row:(row == row')=true:=by simpa using h_row
    clear h_row;by_cases h_col:col=col'
    ·rw [decide_eq_true h_col,Bool.true_and]at hbb
     have e_col:(col == col')=true:=by simpa using h_col
     clear h_col;by_cases h_ln:lk=lk'∧la=la'∧lt=lt'
     ·rw [decide_eq_true h_ln,Bool.true_and]at hbb
      obtain ⟨rfl,rfl,rfl⟩:=h_ln;have e_ln:∀ W,(binOp .eql 32 (.agg #[.int .i64 lk,.int .i64 la,.int .i64 lt]) (.agg #[.int .i64 lk,.int .i64 la,.int .i64 lt])).run Tryz.prog W=.ok (.bool true) W:=fun W=>by rw [line_eq];simp
      by_cases h_fm:fm=fm'
      ·rw [decide_eq_true h_fm,Bool.true_and]at hbb
       have e_fm:(fm == fm')=true:=by simpa using h_fm
       clear h_fm;by_cases h_nm:nm.data.toList=nm'.data.toList
       ·rw [decide_eq_true h_nm,Bool.true_and]at hbb
        have e_nm:(nm.toList == nm'.toList)=true:=by rw [Lib.toList_data,Lib.toList_data];simpa using h_nm
        clear h_nm;cases rb with
        |true=>
         simp only [Bool.true_and,Bool.and_true]at hbb
         have HB:Hid (b=cb):=hid (by rw [hbb])
         clear hbb;go_wp2_with (first|(go_at_call 35;refine (HR.out _ QA.out).mono ?_;rintro e9 w10 ⟨rfl,q9⟩;have Q10:Hid (Q w w10):=hid (QA.out.trans q9);have Z10:=hid (Z1.out.on q9);have Z20:=hid (Z2.out.on q9);clear q9;have p0_0:=Z10.out.c 0 _ rfl;have o0_0:=Z20.out.c 0 _ rfl;have p0_1:=Z10.out.c 1 _ rfl;have o0_1:=Z20.out.c 1 _ rfl;have p0_2:=Z10.out.c 2 _ rfl;have o0_2:=Z20.out.c 2 _ rfl;have p0_3:=Z10.out.c 3 _ rfl;have o0_3:=Z20.out.c 3 _ rfl;have p0_4:=Z10.out.c 4 _ rfl;have o0_4:=Z20.out.c 4 _ rfl;have p0_5:=Z10.out.c 5 _ rfl;have o0_5:=Z20.out.c 5 _ rfl;have p0_6:=Z10.out.c 6 _ rfl;have o0_6:=Z20.out.c 6 _ rfl;have p0_7:=Z10.out.c 7 _ rfl;have o0_7:=Z20.out.c 7 _ rfl;have p0_8:=Z10.out.c 8 _ rfl;have o0_8:=Z20.out.c 8 _ rfl;have p0_9:=Z10.out.c 9 _ rfl;have o0_9:=Z20.out.c 9 _ rfl;have p0_10:=Z10.out.c 10 _ rfl;have o0_10:=Z20.out.c 10 _ rfl;have p0_11:=Z10.out.c 11 _ rfl;have o0_11:=Z20.out.c 11 _ rfl;have p0_12:=Z10.out.c 12 _ rfl;have o0_12:=Z20.out.c 12 _ rfl;have p0_13:=Z10.out.c 13 _ rfl;have o0_13:=Z20.out.c 13 _ rfl;have p0_14:=Z10.out.c 14 _ rfl;have o0_14:=Z20.out.c 14 _ rfl;have p0_15:=Z10.out.c 15 _ rfl;have o0_15:=Z20.out.c 15 _ rfl;have p0_16:=Z10.out.c 16 _ rfl;have o0_16:=Z20.out.c 16 _ rfl;have p0_17:=Z10.out.c 17 _ rfl;have o0_17:=Z20.out.c 17 _ rfl;have p0_18:=Z10.out.c 18 _ rfl;have o0_18:=Z20.out.c 18 _ rfl;have p0_19:=Z10.out.c 19 _ rfl;have o0_19:=Z20.out.c 19 _ rfl;have p0_20:=Z10.out.c 20 _ rfl;have o0_20:=Z20.out.c 20 _ rfl;have p0_21:=Z10.out.c 21 _ rfl;have o0_21:=Z20.out.c 21 _ rfl;have p0_22:=Z10.out.c 22 _ rfl;have o0_22:=Z20.out.c 22 _ rfl)|(go_at_call 36;refine (HC.out _ Q10.out).mono ?_;rintro e9 w11 ⟨rfl,q9⟩;have Q11:Hid (Q w w11):=hid (Q10.out.trans q9);have Z11:=hid (Z10.out.on q9);have Z21:=hid (Z20.out.on q9);clear q9))
         go_ret
         exact ⟨ret_bool HB.out.symm,Q11.out⟩
        |false=>
         have HB:Hid (b=false):=hid (by rw [hbb];simp)
         clear hbb;go_wp2_with (first|(go_at_call 35;refine (HR.out _ QA.out).mono ?_;rintro e9 w10 ⟨rfl,q9⟩;have Q10:Hid (Q w w10):=hid (QA.out.trans q9);have Z10:=hid (Z1.out.on q9);have Z20:=hid (Z2.out.on q9);clear q9;have p0_0:=Z10.out.c 0 _ rfl;have o0_0:=Z20.out.c 0 _ rfl;have p0_1:=Z10.out.c 1 _ rfl;have o0_1:=Z20.out.c 1 _ rfl;have p0_2:=Z10.out.c 2 _ rfl;have o0_2:=Z20.out.c 2 _ rfl;have p0_3:=Z10.out.c 3 _ rfl;have o0_3:=Z20.out.c 3 _ rfl;have p0_4:=Z10.out.c 4 _ rfl;have o0_4:=Z20.out.c 4 _ rfl;have p0_5:=Z10.out.c 5 _ rfl;have o0_5:=Z20.out.c 5 _ rfl;have p0_6:=Z10.out.c 6 _ rfl;have o0_6:=Z20.out.c 6 _ rfl;have p0_7:=Z10.out.c 7 _ rfl;have o0_7:=Z20.out.c 7 _ rfl;have p0_8:=Z10.out.c 8 _ rfl;have o0_8:=Z20.out.c 8 _ rfl;have p0_9:=Z10.out.c 9 _ rfl;have o0_9:=Z20.out.c 9 _ rfl;have p0_10:=Z10.out.c 10 _ rfl;have o0_10:=Z20.out.c 10 _ rfl;have p0_11:=Z10.out.c 11 _ rfl;have o0_11:=Z20.out.c 11 _ rfl;have p0_12:=Z10.out.c 12 _ rfl;have o0_12:=Z20.out.c 12 _ rfl;have p0_13:=Z10.out.c 13 _ rfl;have o0_13:=Z20.out.c 13 _ rfl;have p0_14:=Z10.out.c 14 _ rfl;have o0_14:=Z20.out.c 14 _ rfl;have p0_15:=Z10.out.c 15 _ rfl;have o0_15:=Z20.out.c 15 _ rfl;have p0_16:=Z10.out.c 16 _ rfl;have o0_16:=Z20.out.c 16 _ rfl;have p0_17:=Z10.out.c 17 _ rfl;have o0_17:=Z20.out.c 17 _ rfl;have p0_18:=Z10.out.c 18 _ rfl;have o0_18:=Z20.out.c 18 _ rfl;have p0_19:=Z10.out.c 19 _ rfl;have o0_19:=Z20.out.c 19 _ rfl;have p0_20:=Z10.out.c 20 _ rfl;have o0_20:=Z20.out.c 20 _ rfl;have p0_21:=Z10.out.c 21 _ rfl;have o0_21:=Z20.out.c 21 _ rfl;have p0_22:=Z10.out.c 22 _ rfl;have o0_22:=Z20.out.c 22 _ rfl))
         go_ret
         exact ⟨ret_bool HB.out.symm,Q10.out⟩
       ·rw [decide_eq_false h_nm]at hbb
        have e_nm:(nm.toList == nm'.toList)=false:=by rw [Lib.toList_data,Lib.toList_data];simpa using h_nm
        clear h_nm;have HB:Hid (b=false):=hid (by rw [hbb];simp)
        clear hbb;go_wp2_with fail
        go_ret
        exact ⟨ret_bool HB.out.symm,QA.out⟩
      ·rw [decide_eq_false h_fm]at hbb
       have e_fm:(fm == fm')=false:=by simpa using h_fm
       clear h_fm;have HB:Hid (b=false):=hid (by rw [hbb];simp)
       clear hbb;go_wp2_with fail
       go_ret
       exact ⟨ret_bool HB.out.symm,QA.out⟩
     ·rw [decide_eq_false h_ln]at hbb
      have e_ln:∀ W,(binOp .eql 32 (.agg #[.int .i64 lk,.int .i64 la,.int .i64 lt]) (.agg #[.int .i64 lk',.int .i64 la',.int .i64 lt'])).run Tryz.prog W=.ok (.bool false) W:=fun W=>by rw [line_eq,decide_eq_false h_ln]
      clear h_ln;have HB:Hid (b=false):=hid (by rw [hbb];simp)
      clear hbb;go_wp2_with fail
      go_ret
      exact ⟨ret_bool HB.out.symm,QA.out⟩
    ·rw [decide_eq_false h_col]at hbb
     have e_col:(col == col')=false:=by simpa using h_col
     clear h_col;have HB:Hid (b=false):=hid (by rw [hbb];simp)
     clear hbb;go_wp2_with fail
     go_ret
     exact ⟨ret_bool HB.out.symm,QA.out⟩
   ·rw [decide_eq_false h_row]at hbb
    have e_row:(row == row')=false:=by simpa using h_row
    clear h_row;have HB:Hid (b=false):=hid (by rw [hbb];simp)
    clear hbb;go_wp2_with fail
    go_ret
    exact ⟨ret_bool HB.out.symm,QA.out⟩
  ·rw [decide_eq_false h_sh]at hbb
   have e_sh:(sh.toList == sh'.toList)=false:=by rw [Lib.toList_data,Lib.toList_data];simpa using h_sh
   clear h_sh;have HB:Hid (b=false):=hid (by rw [hbb];simp)
   clear hbb;go_wp2_with fail
   go_ret
   exact ⟨ret_bool HB.out.symm,QA.out⟩
 ·rw [decide_eq_false h_k]at hbb
  have e_k:(k == k')=false:=by simpa using h_k
  clear h_k;have HB:Hid (b=false):=hid (by rw [hbb];simp)
  clear hbb;go_wp2_with fail
  go_ret
  exact ⟨ret_bool HB.out.symm,QA.out⟩
end Go.Proofs.YtngnakdbhkjbjaaGreatDoor
namespace Go.Proofs.YtngnakdbhkjbjaaGreatDoor
open Go.RowKit
open IV
set_option linter.unusedVariables false
set_option linter.unusedSimpArgs false
theorem om_len(x:Rv):x.L.length=23:=rfl
theorem om_one(x:Rv):x.L.toArray.all (·.oneCell')=true:=by
 obtain ⟨k,sh,row,col,f,vk,vn,vt,vb,ve,tk,tm,tt,tb,te,a1,l1,c1,a2,l2,c2,lk,la,lt,ra,rl,rc,fm,nm⟩:=x
 kernel_rfl
def om_zero:Array Value:=#[.int .i64 0,.string ⟨#[]⟩,.int .i64 0,.int .i64 0,.bool false,.int .i64 0,.int .i64 0,.string ⟨#[]⟩,.bool false,.int .i64 0,.int .i64 0,.int .i64 0,.string ⟨#[]⟩,.bool false,.int .i64 0,.slice none 0 0,.slice none 0 0,.int .i64 0,.int .i64 0,.int .i64 0,.slice none 0 0,.int .i64 0,.string ⟨#[]⟩]
theorem om_info:(Tryz.prog.info? 35).map (fun i=>(i.zero,i.size))=some (some (.agg om_zero),23):=by kernel_rfl
theorem om_sl(W:World)(xs:List Rv)(n:Nat)(hn:xs.length=n)(hl:n≤1000):Sl Rv.L 23 (W.alloc (.cells (flat Rv.L xs).toArray 35)) (.slice (some ⟨W.heap.size,0,none⟩) n n) xs:=by
 subst hn;refine ⟨some ⟨W.heap.size,0,none⟩,xs.length,rfl,Nat.le_refl _,by unfold maxLen;omega,fun _=>⟨W.heap.size,0,rfl,fun i hi j u hu=>?_⟩⟩
 have hj:j<23:=(List.getElem?_eq_some_iff.1 hu).1
 rw [World.cell?_alloc_at _ _ _ _ rfl];rw [←hu,←flat_at Rv.L om_len xs i hi j hj];simp
section
variable {ops:Array Oper} {Q':Exit→Act→World→Prop} {a0:Act} {ds:List Nat} {J:(Nat→Value)→World→Prop} {v:Nat→Value} {w:World} {i:Nat} {o:Oper} {d t t' b off g:Nat} {z:Rv}
theorem om_wpG(gg dg:Nat)(bb:Bool)(ho:ops[i]?=some o)(hg:o.guard=some (gg,bb))(hgo:(ops[gg]?).bind (·.dst)=some dg)(hgm:dg∈ds)(hgs:(a0.tmps[dg]?).isSome=true)(hgv:v dg=.bool bb)(h:Oper.wp Tryz.prog o (frm a0 ds v) w (Ks a0 ds J) Q'):WO Tryz.prog ops Q' i (Ks a0 ds J) (frm a0 ds v) w:=by
 refine ⟨wpOp_step ho fun K' hK=>?_⟩
 rw [if_pos (wanted_of hg hgo hgm hgs hgv)];exact Oper.wp_mono hK h
theorem om_load(ho:ops[i]?=some o)(hg:o.guard=none)(hop:o.op=.load 35 (.tmp t))(hd:o.dst=some d)(hm:d∈ds)(he:(frm a0 ds v).eval (.tmp t)=.pointer (some ⟨b,0,none⟩))(hr:Cq w b z.L)(hI:J (up v d (.agg z.L.toArray)) w) :
  WO Tryz.prog ops Q' i (Ks a0 ds J) (frm a0 ds v) w:=
 opw_wp ho hg (wp_load_row 35 (.tmp t) hop b he 35 z.L.toArray (0,0) _ hr.h Tryz.underlying35 rfl (info35.trans (by simp [om_len])) (ks_put hd hm hI))
theorem om_loadG(gg dg:Nat)(ho:ops[i]?=some o)(hg:o.guard=some (gg,true))(hgo:(ops[gg]?).bind (·.dst)=some dg)(hgm:dg∈ds)(hgs:(a0.tmps[dg]?).isSome=true)(hgv:v dg=.bool true)(hop:o.op=.load 35 (.tmp t))(hd:o.dst=some d)(hm:d∈ds)(he:(frm a0 ds v).eval (.tmp t)=.pointer (some ⟨b,0,none⟩))(hr:Cq w b z.L)(hI:J (up v d (.agg z.L.toArray)) w) :
  WO Tryz.prog ops Q' i (Ks a0 ds J) (frm a0 ds v) w:=
 om_wpG gg dg true ho hg hgo hgm hgs hgv (wp_load_row 35 (.tmp t) hop b he 35 z.L.toArray (0,0) _ hr.h Tryz.underlying35 rfl (info35.trans (by simp [om_len])) (ks_put hd hm hI))
theorem om_store{zo:Rv}(ho:ops[i]?=some o)(hg:o.guard=none)(hop:o.op=.store 35 (.tmp t) (.tmp t'))(hd:o.dst=none)(he:(frm a0 ds v).eval (.tmp t)=.pointer (some ⟨g,0,none⟩))(ht':t'∈ds)(hts':(a0.tmps[t']?).isSome=true)(hv':v t'=.agg z.L.toArray)(hq:Cq w g zo.L)(hI:J v (w.setRow g z.L.toArray)) :
  WO Tryz.prog ops Q' i (Ks a0 ds J) (frm a0 ds v) w:=
 opw_wp ho hg (wp_store_row 35 (.tmp t) (.tmp t') hop g z.L.toArray he ((frm_eval ht' hts').trans hv') 35 zo.L.toArray hq.h (info35.trans (by simp [om_len])) (by simp [om_len]) (om_one z) (ks_non hd hI))
theorem om_bsl(gg dg len:Nat)(ho:ops[i]?=some o)(hg:o.guard=some (gg,true))(hgo:(ops[gg]?).bind (·.dst)=some dg)(hgm:dg∈ds)(hgs:(a0.tmps[dg]?).isSome=true)(hgv:v dg=.bool true)(parts:Array (Nat × Operand))(hop:o.op=.buildSlice 42 len parts)(hd:o.dst=some d)(hm:d∈ds)
  (xs:List Rv) (hl:0<len∧len≤1000) (hxl:xs.length=len)
  (hf:Instr.fill (fun i=>some (i*23,23)) ((Array.range (len*23)).map (om_zero[· % om_zero.size]!)) (parts.map fun (i,x)=>(i,(frm a0 ds v).eval x)).toList=some (flat Rv.L xs).toArray)
  (hI:J (up v d (.slice (some ⟨w.heap.size,0,none⟩) len len)) (w.alloc (.cells (flat Rv.L xs).toArray 35))) :
  WO Tryz.prog ops Q' i (Ks a0 ds J) (frm a0 ds v) w:=by
 refine om_wpG gg dg true ho hg hgo hgm hgs hgv ?_
 cases hq:Tryz.prog.info? 35 with
 |none=>
  have hx:=om_info;rw [hq]at hx;cases hx
 |some ie=>
  have hx:=om_info;rw [hq]at hx;simp only [Option.map_some,Option.some.injEq,Prod.mk.injEq]at hx
  obtain ⟨hz,hs⟩:=hx;refine wp_buildSlice 42 35 len parts hop (flat Rv.L xs).toArray ie (.agg om_zero) Tryz.underlying42 hq hz (by rw [hs];omega) (by rw [hs];omega) ?_ (ks_put hd hm hI)
  rw [hs];exact hf
end
theorem frm_out{a0:Act}{ds:List Nat}{v:Nat→Value}{d:Nat}(hm:d ∉ ds):(frm a0 ds v).eval (.tmp d)=a0.tmps.getD d undef:=by
 show (frm a0 ds v).tmps.getD d undef=_
 rw [Array.getD_eq_getD_getElem?,Array.getD_eq_getD_getElem?];show ((ds.foldl (fun t d=>t.setIfInBounds d (v d)) a0.tmps)[d]?).getD undef=_
 rw [fold_get,if_neg hm]
theorem fill1(y:Rv):Instr.fill (fun i=>some (i*23,23)) ((Array.range (1*23)).map (om_zero[· % om_zero.size]!)) [(0,.agg y.L.toArray)]=some (flat Rv.L [y]).toArray:=by
 obtain ⟨k,sh,row,col,f,vk,vn,vt,vb,ve,tk,tm,tt,tb,te,a1,l1,c1,a2,l2,c2,lk,la,lt,ra,rl,rc,fm,nm⟩:=y
 kernel_rfl
theorem fill2(y z:Rv):Instr.fill (fun i=>some (i*23,23)) ((Array.range (2*23)).map (om_zero[· % om_zero.size]!)) [(0,.agg y.L.toArray),(1,.agg z.L.toArray)]=some (flat Rv.L [y,z]).toArray:=by
 obtain ⟨k,sh,row,col,f,vk,vn,vt,vb,ve,tk,tm,tt,tb,te,a1,l1,c1,a2,l2,c2,lk,la,lt,ra,rl,rc,fm,nm⟩:=y;obtain ⟨k',sh',row',col',f',vk',vn',vt',vb',ve',tk',tm',tt',tb',te',a1',l1',c1',a2',l2',c2',lk',la',lt',ra',rl',rc',fm',nm'⟩:=z
 kernel_rfl
section
variable {ops:Array Oper} {Q':Exit→Act→World→Prop} {a0:Act} {ds:List Nat} {J:(Nat→Value)→World→Prop} {v:Nat→Value} {w:World} {i:Nat} {o:Oper} {d t t':Nat} {y z:Rv}
theorem om_bsl1(gg dg:Nat)(ho:ops[i]?=some o)(hg:o.guard=some (gg,true))(hgo:(ops[gg]?).bind (·.dst)=some dg)(hgm:dg∈ds)(hgs:(a0.tmps[dg]?).isSome=true)(hgv:v dg=.bool true)(hop:o.op=.buildSlice 42 1 #[(0,.tmp t)])(hd:o.dst=some d)(hm:d∈ds)
  (ht:t∈ds) (hts:(a0.tmps[t]?).isSome=true) (hv:v t=.agg y.L.toArray)
  (hI:J (up v d (.slice (some ⟨w.heap.size,0,none⟩) 1 1)) (w.alloc (.cells (flat Rv.L [y]).toArray 35))) :
  WO Tryz.prog ops Q' i (Ks a0 ds J) (frm a0 ds v) w:=by
 refine om_bsl gg dg 1 ho hg hgo hgm hgs hgv _ hop hd hm [y] (by decide) rfl ?_ hI
 have e:=(frm_eval (v:=v) ht hts).trans hv;have e2:(#[(0,Operand.tmp t)].map fun (p:Nat × Operand)=>(p.1,(frm a0 ds v).eval p.2)).toList=[(0,.agg y.L.toArray)]:=by
  simp only [List.map_toArray,List.map_cons,List.map_nil,e]
 exact (congrArg _ e2).trans (fill1 y)
theorem om_bsl2(gg dg:Nat)(ho:ops[i]?=some o)(hg:o.guard=some (gg,true))(hgo:(ops[gg]?).bind (·.dst)=some dg)(hgm:dg∈ds)(hgs:(a0.tmps[dg]?).isSome=true)(hgv:v dg=.bool true)(hop:o.op=.buildSlice 42 2 #[(0,.tmp t),(1,.tmp t')])(hd:o.dst=some d)(hm:d∈ds)
  (ht:t∈ds) (hts:(a0.tmps[t]?).isSome=true) (hv:v t=.agg y.L.toArray) (ht':t'∈ds) (hts':(a0.tmps[t']?).isSome=true) (hv':v t'=.agg z.L.toArray)
  (hI:J (up v d (.slice (some ⟨w.heap.size,0,none⟩) 2 2)) (w.alloc (.cells (flat Rv.L [y,z]).toArray 35))) :
  WO Tryz.prog ops Q' i (Ks a0 ds J) (frm a0 ds v) w:=by
 refine om_bsl gg dg 2 ho hg hgo hgm hgs hgv _ hop hd hm [y,z] (by decide) rfl ?_ hI
 have e:=(frm_eval (v:=v) ht hts).trans hv;have e':=(frm_eval (v:=v) ht' hts').trans hv';have e2:(#[(0,Operand.tmp t),(1,Operand.tmp t')].map fun (p:Nat × Operand)=>(p.1,(frm a0 ds v).eval p.2)).toList=[(0,.agg y.L.toArray),(1,.agg z.L.toArray)]:=by
  simp only [List.map_toArray,List.map_cons,List.map_nil,e,e']
 exact (congrArg _ e2).trans (fill2 y z)
end
theorem Cq.rowm{W:World}{q:Nat}{cs:List Value}(h:Cq W q cs)(ds:List Value):Cq (W.setRow q ds.toArray) q ds:=⟨setRow_heap W q _ _ _ _ h.h⟩
theorem Cq.orowm{W:World}{q p:Nat}{cs:List Value}(h:Cq W q cs)(hp:q≠p)(ds:Array Value):Cq (W.setRow p ds) q cs:=⟨(setRow_other W p q ds hp).trans h.h⟩
def kd5(j:Nat):Nat:=([0,0,1,3,1,3,0,0,0,1,2,4,1,2,4,0,0,0,1,1,0,0,0,5,1,8,6,5,1,8,6,0,0,0,5,1,2,9,7,5,1,2,9,7,0,0]:List Nat).getD j 0
def vl5(ya yb:Rv)(ma eb d1 d2:Bool)(c:Int)(k:Nat)(u:Value)(W:World):Prop:=match k with
 |0=>u=.bool true
 |1=>u=.agg ya.L.toArray
 |2=>u=.agg yb.L.toArray
 |3=>u=.bool ma
 |4=>u=.bool eb
 |5=>u=.int .i64 c
 |6=>u=.bool d1
 |7=>u=.bool d2
 |8=>Sl Rv.L 23 W u [ya]
 |_=>Sl Rv.L 23 W u [ya,yb]
theorem vl5_on{ya yb:Rv}{ma eb d1 d2:Bool}{c:Int}{k:Nat}{u:Value}{W W':World}(h:vl5 ya yb ma eb d1 d2 c k u W)(q:Q W W'):vl5 ya yb ma eb d1 d2 c k u W':=by
 unfold vl5 at *
 split at h <;> first|exact h|exact h.on q
structure I5 (w4:World) (ya yb:Rv) (ma eb d1 d2:Bool) (c:Int) (L:Nat→Bool) (v:Nat→Value) (W:World):Prop where
 q:Q w4 W
 e:∀ j,j<46→L j=true→vl5 ya yb ma eb d1 d2 c (kd5 j) (v (15+j)) W
 r:L 46=true→v 6=.bool true
section
variable {w4 W W':World} {ya yb:Rv} {ma eb d1 d2:Bool} {c:Int} {L:Nat→Bool} {v:Nat→Value}
theorem I5.on(J:I5 w4 ya yb ma eb d1 d2 c L v W)(q:Q W W'):I5 w4 ya yb ma eb d1 d2 c L v W':=⟨J.q.trans q,fun j hj h=>vl5_on (J.e j hj h) q,J.r⟩
theorem I5.s(J:I5 w4 ya yb ma eb d1 d2 c L v W)(i:Nat)(hi:i<46){u:Value}(h:vl5 ya yb ma eb d1 d2 c (kd5 i) u W):I5 w4 ya yb ma eb d1 d2 c (ul L i) (up v (15+i) u) W:=by
 refine ⟨J.q,fun j hj hl=>?_,fun hl=>?_⟩
 ·by_cases e:j=i
  ·subst e;rw [up_same];exact h
  ·rw [ul_ne e]at hl
   rw [up_ne (by omega)]
   exact J.e j hj hl
 ·rw [ul_ne (by omega)]at hl
  rw [up_ne (by omega)]
  exact J.r hl
theorem I5.t(J:I5 w4 ya yb ma eb d1 d2 c L v W){u:Value}(h:u=.bool true):I5 w4 ya yb ma eb d1 d2 c (ul L 46) (up v 6 u) W:=by
 refine ⟨J.q,fun j hj hl=>?_,fun hl=>?_⟩
 ·rw [ul_ne (by omega)]at hl
  rw [up_ne (by omega)]
  exact J.e j hj hl
 ·rw [up_same];exact h
theorem I5.start{v:Nat→Value}(q:Q w4 W):I5 w4 ya yb ma eb d1 d2 c (fun _=>false) v W:=⟨q,fun _ _ h=>(by cases h),fun h=>(by cases h)⟩
end
structure Fin5 (w4:World) (ya yb:Rv) (ma eb d1 d2:Bool) (c:Int):Prop where
 h8:∀ W,Q w4 W→Calls Tryz.prog 8 #[.agg ya.L.toArray] W fun e V=>e=.returned (.bool ma)∧Q W V
 h9:∀ W,Q w4 W→Calls Tryz.prog 9 #[.agg ya.L.toArray] W fun e V=>e=.returned (.bool ma)∧Q W V
 h10:∀ W,Q w4 W→Calls Tryz.prog 10 #[.agg ya.L.toArray,.agg yb.L.toArray] W fun e V=>e=.returned (.bool eb)∧Q W V
 h11:∀ W,Q w4 W→Calls Tryz.prog 11 #[.agg ya.L.toArray,.agg yb.L.toArray] W fun e V=>e=.returned (.bool eb)∧Q W V
 h10s:∀ W,Q w4 W→Calls Tryz.prog 10 #[.agg ya.L.toArray,.agg ya.L.toArray] W fun e V=>e=.returned (.bool true)∧Q W V
 e1:∀ W u,Q w4 W→Sl Rv.L 23 W u [ya]→Calls Tryz.prog 12 #[.int .i64 c,u] W fun e V=>e=.returned (.bool d1)∧Q W V
 e2:∀ W u,Q w4 W→Sl Rv.L 23 W u [ya]→Calls Tryz.prog 13 #[.int .i64 c,u] W fun e V=>e=.returned (.bool d1)∧Q W V
 f1:∀ W u,Q w4 W→Sl Rv.L 23 W u [ya,yb]→Calls Tryz.prog 12 #[.int .i64 c,u] W fun e V=>e=.returned (.bool d2)∧Q W V
 f2:∀ W u,Q w4 W→Sl Rv.L 23 W u [ya,yb]→Calls Tryz.prog 13 #[.int .i64 c,u] W fun e V=>e=.returned (.bool d2)∧Q W V
structure Cls (n0:Nat) (T:Nat→World→Rv→Prop):Prop where
 on:∀ {B V V' y},T B V y→Q V V'→T B V' y
 row:∀ {B V y p cs},T B V y→n0≤p→p<B→T B (V.setRow p cs) y
 mono:∀ {B B' V y},T B V y→B'≤B→T B' V y
structure I4 (w w2:World) (b0 b1:Nat) (x y:Rv) (T:Nat→World→Rv→Prop) (L:Nat→Bool) (v:Nat→Value) (W:World):Prop where
 q:Q w W
 sz:w2.heap.size≤W.heap.size
 e0:L 0=true→v 11=.agg x.L.toArray
 e2:L 2=true→v 13=.agg y.L.toArray
 e1:L 1=true→∃ z,v 12=.agg (Rv.L z).toArray∧T w2.heap.size W z∧(L 4=true→Cq W b0 z.L)
 e3:L 3=true→∃ z,v 14=.agg (Rv.L z).toArray∧T w2.heap.size W z∧(L 5=true→Cq W b1 z.L)
 z0:L 4=false→Cq W b0 x.L
 z1:L 5=false→Cq W b1 y.L
 c1:L 1=true→L 0=true
 c3:L 3=true→L 2=true
 c4:L 4=true→L 1=true
 c5:L 5=true→L 3=true
section
variable {w w2 W W':World} {b0 b1:Nat} {x y:Rv} {T:Nat→World→Rv→Prop} {L:Nat→Bool} {v:Nat→Value}
theorem I4.on(hT:Cls w.heap.size T)(J:I4 w w2 b0 b1 x y T L v W)(q:Q W W'):I4 w w2 b0 b1 x y T L v W':=by
 refine ⟨J.q.trans q,Nat.le_trans J.sz q.size,J.e0,J.e2,fun h=>?_,fun h=>?_,fun h=>(J.z0 h).on q,fun h=>(J.z1 h).on q,J.c1,J.c3,J.c4,J.c5⟩
 ·obtain ⟨z,h1,h2,h3⟩:=J.e1 h
  exact ⟨z,h1,hT.on h2 q,fun h=>(h3 h).on q⟩
 ·obtain ⟨z,h1,h2,h3⟩:=J.e3 h
  exact ⟨z,h1,hT.on h2 q,fun h=>(h3 h).on q⟩
theorem I4.n4(J:I4 w w2 b0 b1 x y T L v W)(h:L 0=false∨L 1=false):L 4=false:=by
 cases h4:L 4
 ·rfl
 ·exfalso
  have h1:=J.c4 h4;have h0:=J.c1 h1
  rcases h with h|h
  ·rw [h0]at h;cases h
  ·rw [h1]at h;cases h
theorem I4.n5(J:I4 w w2 b0 b1 x y T L v W)(h:L 2=false∨L 3=false):L 5=false:=by
 cases h4:L 5
 ·rfl
 ·exfalso
  have h1:=J.c5 h4;have h0:=J.c3 h1
  rcases h with h|h
  ·rw [h0]at h;cases h
  ·rw [h1]at h;cases h
theorem I4.s0(J:I4 w w2 b0 b1 x y T L v W):I4 w w2 b0 b1 x y T (ul L 0) (up v 11 (.agg x.L.toArray)) W:=⟨J.q,J.sz,fun _=>up_same,J.e2,J.e1,J.e3,J.z0,J.z1,fun _=>rfl,J.c3,J.c4,J.c5⟩
theorem I4.s2(J:I4 w w2 b0 b1 x y T L v W):I4 w w2 b0 b1 x y T (ul L 2) (up v 13 (.agg y.L.toArray)) W:=⟨J.q,J.sz,J.e0,fun _=>up_same,J.e1,J.e3,J.z0,J.z1,J.c1,fun _=>rfl,J.c4,J.c5⟩
theorem I4.s1(J:I4 w w2 b0 b1 x y T L v W)(h0:L 0=true)(h4:L 4=false)(z:Rv)(hz:T w2.heap.size W z):I4 w w2 b0 b1 x y T (ul L 1) (up v 12 (.agg z.L.toArray)) W:=⟨J.q,J.sz,J.e0,J.e2,fun _=>⟨z,up_same,hz,fun h=>by rw [ul_ne (by decide),h4]at h;cases h⟩,J.e3,J.z0,J.z1,fun _=>h0,J.c3,fun _=>rfl,J.c5⟩
theorem I4.s3(J:I4 w w2 b0 b1 x y T L v W)(h2:L 2=true)(h5:L 5=false)(z:Rv)(hz:T w2.heap.size W z):I4 w w2 b0 b1 x y T (ul L 3) (up v 14 (.agg z.L.toArray)) W:=⟨J.q,J.sz,J.e0,J.e2,J.e1,fun _=>⟨z,up_same,hz,fun h=>by rw [ul_ne (by decide),h5]at h;cases h⟩,J.z0,J.z1,J.c1,fun _=>h2,J.c4,fun _=>rfl⟩
theorem I4.s4(hT:Cls w.heap.size T)(hb:w.heap.size≤b0)(hb2:b0<w2.heap.size)(hne:b1≠b0)(J:I4 w w2 b0 b1 x y T L v W)(h4:L 4=false)(h1:L 1=true)(z:Rv)(hz:v 12=.agg z.L.toArray):I4 w w2 b0 b1 x y T (ul L 4) v (W.setRow b0 z.L.toArray):=by
 have hsz:(W.setRow b0 z.L.toArray).heap.size=W.heap.size:=by simp [World.setRow]
 refine ⟨below_setRow J.q hb _,by rw [hsz];exact J.sz,J.e0,J.e2,fun h=>?_,fun h=>?_,fun h=>(by rw [ul_same]at h;cases h),fun h=>(J.z1 h).orowm hne _,J.c1,J.c3,fun _=>h1,J.c5⟩
 ·obtain ⟨z',g1,g2,_⟩:=J.e1 h1
  exact ⟨z',g1,hT.row g2 hb hb2,fun _=>by
   have e:z.L.toArray=z'.L.toArray:=by rw [hz]at g1;simpa using g1
   rw [e];exact (J.z0 h4).rowm _⟩
 ·obtain ⟨z',g1,g2,g3⟩:=J.e3 h
  exact ⟨z',g1,hT.row g2 hb hb2,fun h=>(g3 h).orowm hne _⟩
theorem I4.s5(hT:Cls w.heap.size T)(hb:w.heap.size≤b1)(hb2:b1<w2.heap.size)(hne:b0≠b1)(J:I4 w w2 b0 b1 x y T L v W)(h5:L 5=false)(h3:L 3=true)(z:Rv)(hz:v 14=.agg z.L.toArray):I4 w w2 b0 b1 x y T (ul L 5) v (W.setRow b1 z.L.toArray):=by
 have hsz:(W.setRow b1 z.L.toArray).heap.size=W.heap.size:=by simp [World.setRow]
 refine ⟨below_setRow J.q hb _,by rw [hsz];exact J.sz,J.e0,J.e2,fun h=>?_,fun h=>?_,fun h=>(J.z0 h).orowm hne _,fun h=>(by rw [ul_same]at h;cases h),J.c1,J.c3,J.c4,fun _=>h3⟩
 ·obtain ⟨z',g1,g2,g3⟩:=J.e1 h
  exact ⟨z',g1,hT.row g2 hb hb2,fun h=>(g3 h).orowm hne _⟩
 ·obtain ⟨z',g1,g2,_⟩:=J.e3 h3
  exact ⟨z',g1,hT.row g2 hb hb2,fun _=>by
   have e:z.L.toArray=z'.L.toArray:=by rw [hz]at g1;simpa using g1
   rw [e];exact (J.z1 h5).rowm _⟩
end
end Go.Proofs.YtngnakdbhkjbjaaGreatDoor
namespace Go.Proofs.YtngnakdbhkjbjaaGreatDoor
open Go.RowKit
open IV
theorem om_box{w:World}{ops:Array Oper}{rest:List Oper}{o:Oper}{a:Act}{Q':Exit→Act→World→Prop}(x:Operand)(ho:o.op=.box 35 x)(hg:o.guard=none)(cs:List Value)(hx:(a.eval x).cells=cs.toArray)
  (h:∀ w' N,Cq w' N cs→Q w w'→w.heap.size≤N→N<w'.heap.size→wpList Tryz.prog ops Q' rest (a.put o.dst (.pointer (some ⟨N,0,none⟩))) w'):wpList Tryz.prog ops Q' (o::rest) a w:=
 Great.wpList_boxTo hg 35 x ho _ rfl _ rfl _ hx (h _ _ (cq_new w cs) ((Q.refl w).alloc _) (Nat.le_refl _) (by simp))
theorem opmay_walk(x y:Rv)(c:Int)(T:Nat→World→Rv→Prop)(w:World)
  (HBg:∀ W,Q w W→Calls Tryz.prog 6 #[] W fun e V=>e=.returned (.bool true)∧Q W V)
  (hT:Cls w.heap.size T)
  (HCa:∀ W,Q w W→Calls Tryz.prog 7 #[.agg x.L.toArray] W fun e V=>∃ z,e=.returned (.agg (Rv.L z).toArray)∧T W.heap.size V z∧Q W V)
  (HCb:∀ W,Q w W→Calls Tryz.prog 7 #[.agg y.L.toArray] W fun e V=>∃ z,e=.returned (.agg (Rv.L z).toArray)∧T W.heap.size V z∧Q W V)
  (HFin:∀ B V ya yb,Q w V→T B V ya→T B V yb→∃ ma eb d1 d2,Fin5 V ya yb ma eb d1 d2 c) :
  Calls Tryz.prog 3 #[.agg x.L.toArray,.agg y.L.toArray,.int .i64 c] w fun e V=>e=.returned (.bool true)∧Q w V:=by
 have HB:=hid HBg;have HT:=hid hT;have HA:=hid HCa;have HB2:=hid HCb;have HF:=hid HFin;clear HBg hT HCa HCb HFin;have T0:Hid True:=hid trivial
 go_enter Tryz.func3,Tryz.ntmps3
 go_upto_region 4 with (first
  |(clear T0;with_reducible refine om_box _ (by with_unfolding_all rfl) (by with_unfolding_all rfl) x.L (by with_unfolding_all rfl) ?_;intro w1 b0 hZ hQ hn hl;have Z1:=hid hZ;have Q1:=hid hQ;have T1:Hid True:=hid trivial;have B0:=hid (And.intro hn hl);clear hZ hQ hn hl)
  |(clear T1;with_reducible refine om_box _ (by with_unfolding_all rfl) (by with_unfolding_all rfl) y.L (by with_unfolding_all rfl) ?_;intro w1' b1 hZ hQ hn hl;have B1:=hid (And.intro hn hl);clear hn hl;have Z1b:=hid (Z1.out.on hQ);have Z2:=hid hZ;have Q1b:=hid (Q1.out.trans hQ);clear hZ hQ)
  |(go_at_call 6;refine (HB.out _ Q1b.out).mono ?_;rintro e9 w2 ⟨rfl,q9⟩;have Q2:=hid (Q1b.out.trans q9);have ZA:=hid (Z1b.out.on q9);have ZB:=hid (Z2.out.on q9);clear q9))
 have HBB:Hid (w.heap.size≤b0∧b0<w2.heap.size∧w.heap.size≤b1∧b1<w2.heap.size∧b0≠b1):=by
  show _∧_∧_∧_∧_
  have h1:=B0.out;have h2:=B1.out;have h3:=Q1.out.size;have h4:=ZA.out.l;have h5:=ZB.out.l;omega
 clear B0 B1 Z1 Z1b Z2 Q1 Q1b;refine wp_region_invw (by kernel_rfl) [11,12,13,14] (I4 w w2 b0 b1 x y T) (by kernel_rfl) (steps_list ⟨?o0,?o1,?o2,?o3,?o4,?o5,trivial⟩) ⟨Q2.out.drew,Nat.le_refl _,(fun h=>by cases h),(fun h=>by cases h),(fun h=>by cases h),(fun h=>by cases h),fun _=>ZA.out.on (Q.refl _).drew,fun _=>ZB.out.on (Q.refl _).drew,(fun h=>by cases h),(fun h=>by cases h),(fun h=>by cases h),(fun h=>by cases h)⟩ ?_
 case o0=>
  intro L v W J hL hd
  exact om_load rfl rfl rfl rfl (by decide) (by rfl) (J.z0 (J.n4 (.inl hL))) J.s0
 case o1=>
  intro L v W J hL hd
  have h0:=J.e0 (hd 0 (by decide))
  refine opw_call rfl rfl rfl (by decide) (by simp only [frm,List.foldl_cons,List.foldl_nil,List.setIfInBounds_toArray,List.set_cons_zero,List.set_cons_succ];(go_simp) <;> (first|exact ⟨⟨rfl,rfl⟩,rfl⟩|exact ⟨rfl,rfl⟩|with_reducible rfl)) ?_
  refine (HA.out W J.q).mono ?_
  rintro e W1 ⟨z,rfl,hz,q1⟩
  exact ⟨_,rfl,(J.on HT.out q1).s1 (hd 0 (by decide)) (J.n4 (.inr hL)) z (HT.out.mono hz J.sz)⟩
 case o2=>
  intro L v W J hL hd
  exact om_load rfl rfl rfl rfl (by decide) (by rfl) (J.z1 (J.n5 (.inl hL))) J.s2
 case o3=>
  intro L v W J hL hd
  have h2:=J.e2 (hd 2 (by decide))
  refine opw_call rfl rfl rfl (by decide) (by simp only [frm,List.foldl_cons,List.foldl_nil,List.setIfInBounds_toArray,List.set_cons_zero,List.set_cons_succ];(go_simp) <;> (first|exact ⟨⟨rfl,rfl⟩,rfl⟩|exact ⟨rfl,rfl⟩|with_reducible rfl)) ?_
  refine (HB2.out W J.q).mono ?_
  rintro e W1 ⟨z,rfl,hz,q1⟩
  exact ⟨_,rfl,(J.on HT.out q1).s3 (hd 2 (by decide)) (J.n5 (.inr hL)) z (HT.out.mono hz J.sz)⟩
 case o4=>
  intro L v W J hL hd
  obtain ⟨z,hz,_,_⟩:=J.e1 (hd 1 (by decide))
  exact om_store rfl rfl rfl rfl (by rfl) (by decide) (by rfl) hz (J.z0 hL) (J.s4 HT.out HBB.out.1 HBB.out.2.1 (fun h=>HBB.out.2.2.2.2 h.symm) hL (hd 1 (by decide)) z hz)
 case o5=>
  intro L v W J hL hd
  obtain ⟨z,hz,_,_⟩:=J.e3 (hd 3 (by decide))
  exact om_store rfl rfl rfl rfl (by rfl) (by decide) (by rfl) hz (J.z1 hL) (J.s5 HT.out HBB.out.2.2.1 HBB.out.2.2.2.1 HBB.out.2.2.2.2 hL (hd 3 (by decide)) z hz)
 intro L v w4 hall J
 obtain ⟨ya,_,ta,ca⟩:=J.e1 (hall 1 (by decide))
 obtain ⟨yb,_,tb,cb⟩:=J.e3 (hall 3 (by decide))
 have YA:=hid (ca (hall 4 (by decide)))
 have YB:=hid (cb (hall 5 (by decide)))
 have QW4:=hid J.q;obtain ⟨ma,eb,d1,d2,F⟩:=HF.out _ _ _ _ QW4.out ta tb;clear ta tb ca cb hall J HF HA HB2 HT HBB ZA ZB Q2 HB;simp only [frm,List.foldl_cons,List.foldl_nil,List.setIfInBounds_toArray,List.set_cons_zero,List.set_cons_succ]
 generalize v 11=v11;generalize v 12=v12;generalize v 13=v13;generalize v 14=v14;have H8:=hid F.h8;have H9:=hid F.h9;have H10:=hid F.h10;have H11:=hid F.h11;have H10s:=hid F.h10s;have E1:=hid F.e1;have E2:=hid F.e2;have F1:=hid F.f1;have F2:=hid F.f2;clear F;have ZA:=YA;have ZB:=YB;clear YA YB;go_upto_region 5 with fail
 refine wp_region_invw (by kernel_rfl) [15,16,17,18,19,20,21,22,23,24,25,26,27,28,29,30,31,32,33,34,35,36,37,38,39,40,41,42,43,44,45,46,47,48,49,50,51,52,53,54,55,56,57,58,59,60,6] (I5 w4 ya yb ma eb d1 d2 c) (by kernel_rfl) (steps_list ⟨?o0,?o1,?o2,?o3,?o4,?o5,?o6,?o7,?o8,?o9,?o10,?o11,?o12,?o13,?o14,?o15,?o16,?o17,?o18,?o19,?o20,?o21,?o22,?o23,?o24,?o25,?o26,?o27,?o28,?o29,?o30,?o31,?o32,?o33,?o34,?o35,?o36,?o37,?o38,?o39,?o40,?o41,?o42,?o43,?o44,?o45,?o46,trivial⟩) (I5.start (Q.refl w4).drew) ?_
 case o0=>
  intro L v W J hL hd
  refine opw_val rfl rfl rfl (by decide) (by simp only [frm,List.foldl_cons,List.foldl_nil,List.setIfInBounds_toArray,List.set_cons_zero,List.set_cons_succ];(go_simp) <;> (first|exact ⟨⟨rfl,rfl⟩,rfl⟩|exact ⟨rfl,rfl⟩|with_reducible rfl)) ?_
  exact J.s 0 (by decide) rfl
 case o1=>
  intro L v W J hL hd
  have h0:v 15=.bool true:=J.e 0 (by decide) (hd 0 (by decide))
  refine opw_val rfl rfl rfl (by decide) (by simp only [frm,List.foldl_cons,List.foldl_nil,List.setIfInBounds_toArray,List.set_cons_zero,List.set_cons_succ];(go_simp) <;> (first|exact ⟨⟨rfl,rfl⟩,rfl⟩|exact ⟨rfl,rfl⟩|with_reducible rfl)) ?_
  exact J.s 1 (by decide) rfl
 case o2=>
  intro L v W J hL hd
  have h1:v 16=.bool true:=J.e 1 (by decide) (hd 1 (by decide))
  exact om_loadG 1 16 rfl rfl rfl (by decide) (by rfl) h1 rfl rfl (by decide) ((frm_out (by decide)).trans rfl) (ZA.out.on J.q) (J.s 2 (by decide) rfl)
 case o3=>
  intro L v W J hL hd
  have h1:v 16=.bool true:=J.e 1 (by decide) (hd 1 (by decide))
  have h2:v 17=.agg ya.L.toArray:=J.e 2 (by decide) (hd 2 (by decide))
  refine opw_callG 1 16 true rfl rfl rfl (by decide) (by rfl) h1 rfl (by decide) (by simp only [frm,List.foldl_cons,List.foldl_nil,List.setIfInBounds_toArray,List.set_cons_zero,List.set_cons_succ];(go_simp) <;> (first|exact ⟨⟨rfl,rfl⟩,rfl⟩|exact ⟨rfl,rfl⟩|with_reducible rfl)) ?_
  refine (H8.out W J.q).mono ?_
  rintro e W1 ⟨rfl,q1⟩
  exact ⟨_,rfl,(J.on q1).s 3 (by decide) rfl⟩
 case o4=>
  intro L v W J hL hd
  have h1:v 16=.bool true:=J.e 1 (by decide) (hd 1 (by decide))
  exact om_loadG 1 16 rfl rfl rfl (by decide) (by rfl) h1 rfl rfl (by decide) ((frm_out (by decide)).trans rfl) (ZA.out.on J.q) (J.s 4 (by decide) rfl)
 case o5=>
  intro L v W J hL hd
  have h1:v 16=.bool true:=J.e 1 (by decide) (hd 1 (by decide))
  have h4:v 19=.agg ya.L.toArray:=J.e 4 (by decide) (hd 4 (by decide))
  refine opw_callG 1 16 true rfl rfl rfl (by decide) (by rfl) h1 rfl (by decide) (by simp only [frm,List.foldl_cons,List.foldl_nil,List.setIfInBounds_toArray,List.set_cons_zero,List.set_cons_succ];(go_simp) <;> (first|exact ⟨⟨rfl,rfl⟩,rfl⟩|exact ⟨rfl,rfl⟩|with_reducible rfl)) ?_
  refine (H9.out W J.q).mono ?_
  rintro e W1 ⟨rfl,q1⟩
  exact ⟨_,rfl,(J.on q1).s 5 (by decide) rfl⟩
 case o6=>
  intro L v W J hL hd
  have h1:v 16=.bool true:=J.e 1 (by decide) (hd 1 (by decide))
  have h3:v 18=.bool ma:=J.e 3 (by decide) (hd 3 (by decide))
  have h5:v 20=.bool ma:=J.e 5 (by decide) (hd 5 (by decide))
  refine opw_valG 1 16 true rfl rfl rfl (by decide) (by rfl) h1 rfl (by decide) (by simp only [frm,List.foldl_cons,List.foldl_nil,List.setIfInBounds_toArray,List.set_cons_zero,List.set_cons_succ];(go_simp) <;> (first|exact ⟨⟨rfl,rfl⟩,rfl⟩|exact ⟨rfl,rfl⟩|with_reducible rfl)) ?_
  exact J.s 6 (by decide) rfl
 case o7=>
  intro L v W J hL hd
  have h1:v 16=.bool true:=J.e 1 (by decide) (hd 1 (by decide))
  have h6:v 21=.bool true:=J.e 6 (by decide) (hd 6 (by decide))
  refine opw_val rfl rfl rfl (by decide) (by simp only [frm,List.foldl_cons,List.foldl_nil,List.setIfInBounds_toArray,List.set_cons_zero,List.set_cons_succ];(go_simp) <;> (first|exact ⟨⟨rfl,rfl⟩,rfl⟩|exact ⟨rfl,rfl⟩|with_reducible rfl)) ?_
  exact J.s 7 (by decide) rfl
 case o8=>
  intro L v W J hL hd
  have h7:v 22=.bool true:=J.e 7 (by decide) (hd 7 (by decide))
  refine opw_val rfl rfl rfl (by decide) (by simp only [frm,List.foldl_cons,List.foldl_nil,List.setIfInBounds_toArray,List.set_cons_zero,List.set_cons_succ];(go_simp) <;> (first|exact ⟨⟨rfl,rfl⟩,rfl⟩|exact ⟨rfl,rfl⟩|with_reducible rfl)) ?_
  exact J.s 8 (by decide) rfl
 case o9=>
  intro L v W J hL hd
  have h8:v 23=.bool true:=J.e 8 (by decide) (hd 8 (by decide))
  exact om_loadG 8 23 rfl rfl rfl (by decide) (by rfl) h8 rfl rfl (by decide) ((frm_out (by decide)).trans rfl) (ZA.out.on J.q) (J.s 9 (by decide) rfl)
 case o10=>
  intro L v W J hL hd
  have h8:v 23=.bool true:=J.e 8 (by decide) (hd 8 (by decide))
  exact om_loadG 8 23 rfl rfl rfl (by decide) (by rfl) h8 rfl rfl (by decide) ((frm_out (by decide)).trans rfl) (ZB.out.on J.q) (J.s 10 (by decide) rfl)
 case o11=>
  intro L v W J hL hd
  have h8:v 23=.bool true:=J.e 8 (by decide) (hd 8 (by decide))
  have h9:v 24=.agg ya.L.toArray:=J.e 9 (by decide) (hd 9 (by decide))
  have h10:v 25=.agg yb.L.toArray:=J.e 10 (by decide) (hd 10 (by decide))
  refine opw_callG 8 23 true rfl rfl rfl (by decide) (by rfl) h8 rfl (by decide) (by simp only [frm,List.foldl_cons,List.foldl_nil,List.setIfInBounds_toArray,List.set_cons_zero,List.set_cons_succ];(go_simp) <;> (first|exact ⟨⟨rfl,rfl⟩,rfl⟩|exact ⟨rfl,rfl⟩|with_reducible rfl)) ?_
  refine (H10.out W J.q).mono ?_
  rintro e W1 ⟨rfl,q1⟩
  exact ⟨_,rfl,(J.on q1).s 11 (by decide) rfl⟩
 case o12=>
  intro L v W J hL hd
  have h8:v 23=.bool true:=J.e 8 (by decide) (hd 8 (by decide))
  exact om_loadG 8 23 rfl rfl rfl (by decide) (by rfl) h8 rfl rfl (by decide) ((frm_out (by decide)).trans rfl) (ZA.out.on J.q) (J.s 12 (by decide) rfl)
 case o13=>
  intro L v W J hL hd
  have h8:v 23=.bool true:=J.e 8 (by decide) (hd 8 (by decide))
  exact om_loadG 8 23 rfl rfl rfl (by decide) (by rfl) h8 rfl rfl (by decide) ((frm_out (by decide)).trans rfl) (ZB.out.on J.q) (J.s 13 (by decide) rfl)
 case o14=>
  intro L v W J hL hd
  have h8:v 23=.bool true:=J.e 8 (by decide) (hd 8 (by decide))
  have h12:v 27=.agg ya.L.toArray:=J.e 12 (by decide) (hd 12 (by decide))
  have h13:v 28=.agg yb.L.toArray:=J.e 13 (by decide) (hd 13 (by decide))
  refine opw_callG 8 23 true rfl rfl rfl (by decide) (by rfl) h8 rfl (by decide) (by simp only [frm,List.foldl_cons,List.foldl_nil,List.setIfInBounds_toArray,List.set_cons_zero,List.set_cons_succ];(go_simp) <;> (first|exact ⟨⟨rfl,rfl⟩,rfl⟩|exact ⟨rfl,rfl⟩|with_reducible rfl)) ?_
  refine (H11.out W J.q).mono ?_
  rintro e W1 ⟨rfl,q1⟩
  exact ⟨_,rfl,(J.on q1).s 14 (by decide) rfl⟩
 case o15=>
  intro L v W J hL hd
  have h8:v 23=.bool true:=J.e 8 (by decide) (hd 8 (by decide))
  have h11:v 26=.bool eb:=J.e 11 (by decide) (hd 11 (by decide))
  have h14:v 29=.bool eb:=J.e 14 (by decide) (hd 14 (by decide))
  refine opw_valG 8 23 true rfl rfl rfl (by decide) (by rfl) h8 rfl (by decide) (by simp only [frm,List.foldl_cons,List.foldl_nil,List.setIfInBounds_toArray,List.set_cons_zero,List.set_cons_succ];(go_simp) <;> (first|exact ⟨⟨rfl,rfl⟩,rfl⟩|exact ⟨rfl,rfl⟩|with_reducible rfl)) ?_
  exact J.s 15 (by decide) rfl
 case o16=>
  intro L v W J hL hd
  have h8:v 23=.bool true:=J.e 8 (by decide) (hd 8 (by decide))
  have h15:v 30=.bool true:=J.e 15 (by decide) (hd 15 (by decide))
  refine opw_val rfl rfl rfl (by decide) (by simp only [frm,List.foldl_cons,List.foldl_nil,List.setIfInBounds_toArray,List.set_cons_zero,List.set_cons_succ];(go_simp) <;> (first|exact ⟨⟨rfl,rfl⟩,rfl⟩|exact ⟨rfl,rfl⟩|with_reducible rfl)) ?_
  exact J.s 16 (by decide) rfl
 case o17=>
  intro L v W J hL hd
  have h16:v 31=.bool true:=J.e 16 (by decide) (hd 16 (by decide))
  refine opw_val rfl rfl rfl (by decide) (by simp only [frm,List.foldl_cons,List.foldl_nil,List.setIfInBounds_toArray,List.set_cons_zero,List.set_cons_succ];(go_simp) <;> (first|exact ⟨⟨rfl,rfl⟩,rfl⟩|exact ⟨rfl,rfl⟩|with_reducible rfl)) ?_
  exact J.s 17 (by decide) rfl
 case o18=>
  intro L v W J hL hd
  have h17:v 32=.bool true:=J.e 17 (by decide) (hd 17 (by decide))
  exact om_loadG 17 32 rfl rfl rfl (by decide) (by rfl) h17 rfl rfl (by decide) ((frm_out (by decide)).trans rfl) (ZA.out.on J.q) (J.s 18 (by decide) rfl)
 case o19=>
  intro L v W J hL hd
  have h17:v 32=.bool true:=J.e 17 (by decide) (hd 17 (by decide))
  exact om_loadG 17 32 rfl rfl rfl (by decide) (by rfl) h17 rfl rfl (by decide) ((frm_out (by decide)).trans rfl) (ZA.out.on J.q) (J.s 19 (by decide) rfl)
 case o20=>
  intro L v W J hL hd
  have h17:v 32=.bool true:=J.e 17 (by decide) (hd 17 (by decide))
  have h18:v 33=.agg ya.L.toArray:=J.e 18 (by decide) (hd 18 (by decide))
  have h19:v 34=.agg ya.L.toArray:=J.e 19 (by decide) (hd 19 (by decide))
  refine opw_callG 17 32 true rfl rfl rfl (by decide) (by rfl) h17 rfl (by decide) (by simp only [frm,List.foldl_cons,List.foldl_nil,List.setIfInBounds_toArray,List.set_cons_zero,List.set_cons_succ];(go_simp) <;> (first|exact ⟨⟨rfl,rfl⟩,rfl⟩|exact ⟨rfl,rfl⟩|with_reducible rfl)) ?_
  refine (H10s.out W J.q).mono ?_
  rintro e W1 ⟨rfl,q1⟩
  exact ⟨_,rfl,(J.on q1).s 20 (by decide) rfl⟩
 case o21=>
  intro L v W J hL hd
  have h17:v 32=.bool true:=J.e 17 (by decide) (hd 17 (by decide))
  have h20:v 35=.bool true:=J.e 20 (by decide) (hd 20 (by decide))
  refine opw_val rfl rfl rfl (by decide) (by simp only [frm,List.foldl_cons,List.foldl_nil,List.setIfInBounds_toArray,List.set_cons_zero,List.set_cons_succ];(go_simp) <;> (first|exact ⟨⟨rfl,rfl⟩,rfl⟩|exact ⟨rfl,rfl⟩|with_reducible rfl)) ?_
  exact J.s 21 (by decide) rfl
 case o22=>
  intro L v W J hL hd
  have h21:v 36=.bool true:=J.e 21 (by decide) (hd 21 (by decide))
  refine opw_val rfl rfl rfl (by decide) (by simp only [frm,List.foldl_cons,List.foldl_nil,List.setIfInBounds_toArray,List.set_cons_zero,List.set_cons_succ];(go_simp) <;> (first|exact ⟨⟨rfl,rfl⟩,rfl⟩|exact ⟨rfl,rfl⟩|with_reducible rfl)) ?_
  exact J.s 22 (by decide) rfl
 case o23=>
  intro L v W J hL hd
  have h22:v 37=.bool true:=J.e 22 (by decide) (hd 22 (by decide))
  refine opw_valG 22 37 true rfl rfl rfl (by decide) (by rfl) h22 rfl (by decide) (by simp only [frm,List.foldl_cons,List.foldl_nil,List.setIfInBounds_toArray,List.set_cons_zero,List.set_cons_succ];(go_simp) <;> (first|exact ⟨⟨rfl,rfl⟩,rfl⟩|exact ⟨rfl,rfl⟩|with_reducible rfl)) ?_
  exact J.s 23 (by decide) rfl
 case o24=>
  intro L v W J hL hd
  have h22:v 37=.bool true:=J.e 22 (by decide) (hd 22 (by decide))
  exact om_loadG 22 37 rfl rfl rfl (by decide) (by rfl) h22 rfl rfl (by decide) ((frm_out (by decide)).trans rfl) (ZA.out.on J.q) (J.s 24 (by decide) rfl)
 case o25=>
  intro L v W J hL hd
  have h22:v 37=.bool true:=J.e 22 (by decide) (hd 22 (by decide))
  have h24:v 39=.agg ya.L.toArray:=J.e 24 (by decide) (hd 24 (by decide))
  refine om_bsl1 22 37 rfl rfl rfl (by decide) (by rfl) h22 rfl rfl (by decide) (by decide) (by rfl) h24 ?_
  exact ((J.on ((Q.refl _).alloc _)).s 25 (by decide) (om_sl W [ya] 1 rfl (by decide)))
 case o26=>
  intro L v W J hL hd
  have h22:v 37=.bool true:=J.e 22 (by decide) (hd 22 (by decide))
  have h23:v 38=.int .i64 c:=J.e 23 (by decide) (hd 23 (by decide))
  have h25:Sl Rv.L 23 W (v 40) [ya]:=J.e 25 (by decide) (hd 25 (by decide))
  refine opw_callG 22 37 true rfl rfl rfl (by decide) (by rfl) h22 rfl (by decide) (by simp only [frm,List.foldl_cons,List.foldl_nil,List.setIfInBounds_toArray,List.set_cons_zero,List.set_cons_succ];(go_simp) <;> (first|exact ⟨⟨rfl,rfl⟩,rfl⟩|exact ⟨rfl,rfl⟩|with_reducible rfl)) ?_
  refine (E1.out W _ J.q h25).mono ?_
  rintro e W1 ⟨rfl,q1⟩
  exact ⟨_,rfl,(J.on q1).s 26 (by decide) rfl⟩
 case o27=>
  intro L v W J hL hd
  have h22:v 37=.bool true:=J.e 22 (by decide) (hd 22 (by decide))
  refine opw_valG 22 37 true rfl rfl rfl (by decide) (by rfl) h22 rfl (by decide) (by simp only [frm,List.foldl_cons,List.foldl_nil,List.setIfInBounds_toArray,List.set_cons_zero,List.set_cons_succ];(go_simp) <;> (first|exact ⟨⟨rfl,rfl⟩,rfl⟩|exact ⟨rfl,rfl⟩|with_reducible rfl)) ?_
  exact J.s 27 (by decide) rfl
 case o28=>
  intro L v W J hL hd
  have h22:v 37=.bool true:=J.e 22 (by decide) (hd 22 (by decide))
  exact om_loadG 22 37 rfl rfl rfl (by decide) (by rfl) h22 rfl rfl (by decide) ((frm_out (by decide)).trans rfl) (ZA.out.on J.q) (J.s 28 (by decide) rfl)
 case o29=>
  intro L v W J hL hd
  have h22:v 37=.bool true:=J.e 22 (by decide) (hd 22 (by decide))
  have h28:v 43=.agg ya.L.toArray:=J.e 28 (by decide) (hd 28 (by decide))
  refine om_bsl1 22 37 rfl rfl rfl (by decide) (by rfl) h22 rfl rfl (by decide) (by decide) (by rfl) h28 ?_
  exact ((J.on ((Q.refl _).alloc _)).s 29 (by decide) (om_sl W [ya] 1 rfl (by decide)))
 case o30=>
  intro L v W J hL hd
  have h22:v 37=.bool true:=J.e 22 (by decide) (hd 22 (by decide))
  have h27:v 42=.int .i64 c:=J.e 27 (by decide) (hd 27 (by decide))
  have h29:Sl Rv.L 23 W (v 44) [ya]:=J.e 29 (by decide) (hd 29 (by decide))
  refine opw_callG 22 37 true rfl rfl rfl (by decide) (by rfl) h22 rfl (by decide) (by simp only [frm,List.foldl_cons,List.foldl_nil,List.setIfInBounds_toArray,List.set_cons_zero,List.set_cons_succ];(go_simp) <;> (first|exact ⟨⟨rfl,rfl⟩,rfl⟩|exact ⟨rfl,rfl⟩|with_reducible rfl)) ?_
  refine (E2.out W _ J.q h29).mono ?_
  rintro e W1 ⟨rfl,q1⟩
  exact ⟨_,rfl,(J.on q1).s 30 (by decide) rfl⟩
 case o31=>
  intro L v W J hL hd
  have h22:v 37=.bool true:=J.e 22 (by decide) (hd 22 (by decide))
  have h26:v 41=.bool d1:=J.e 26 (by decide) (hd 26 (by decide))
  have h30:v 45=.bool d1:=J.e 30 (by decide) (hd 30 (by decide))
  refine opw_valG 22 37 true rfl rfl rfl (by decide) (by rfl) h22 rfl (by decide) (by simp only [frm,List.foldl_cons,List.foldl_nil,List.setIfInBounds_toArray,List.set_cons_zero,List.set_cons_succ];(go_simp) <;> (first|exact ⟨⟨rfl,rfl⟩,rfl⟩|exact ⟨rfl,rfl⟩|with_reducible rfl)) ?_
  exact J.s 31 (by decide) rfl
 case o32=>
  intro L v W J hL hd
  have h22:v 37=.bool true:=J.e 22 (by decide) (hd 22 (by decide))
  have h31:v 46=.bool true:=J.e 31 (by decide) (hd 31 (by decide))
  refine opw_val rfl rfl rfl (by decide) (by simp only [frm,List.foldl_cons,List.foldl_nil,List.setIfInBounds_toArray,List.set_cons_zero,List.set_cons_succ];(go_simp) <;> (first|exact ⟨⟨rfl,rfl⟩,rfl⟩|exact ⟨rfl,rfl⟩|with_reducible rfl)) ?_
  exact J.s 32 (by decide) rfl
 case o33=>
  intro L v W J hL hd
  have h32:v 47=.bool true:=J.e 32 (by decide) (hd 32 (by decide))
  refine opw_val rfl rfl rfl (by decide) (by simp only [frm,List.foldl_cons,List.foldl_nil,List.setIfInBounds_toArray,List.set_cons_zero,List.set_cons_succ];(go_simp) <;> (first|exact ⟨⟨rfl,rfl⟩,rfl⟩|exact ⟨rfl,rfl⟩|with_reducible rfl)) ?_
  exact J.s 33 (by decide) rfl
 case o34=>
  intro L v W J hL hd
  have h33:v 48=.bool true:=J.e 33 (by decide) (hd 33 (by decide))
  refine opw_valG 33 48 true rfl rfl rfl (by decide) (by rfl) h33 rfl (by decide) (by simp only [frm,List.foldl_cons,List.foldl_nil,List.setIfInBounds_toArray,List.set_cons_zero,List.set_cons_succ];(go_simp) <;> (first|exact ⟨⟨rfl,rfl⟩,rfl⟩|exact ⟨rfl,rfl⟩|with_reducible rfl)) ?_
  exact J.s 34 (by decide) rfl
 case o35=>
  intro L v W J hL hd
  have h33:v 48=.bool true:=J.e 33 (by decide) (hd 33 (by decide))
  exact om_loadG 33 48 rfl rfl rfl (by decide) (by rfl) h33 rfl rfl (by decide) ((frm_out (by decide)).trans rfl) (ZA.out.on J.q) (J.s 35 (by decide) rfl)
 case o36=>
  intro L v W J hL hd
  have h33:v 48=.bool true:=J.e 33 (by decide) (hd 33 (by decide))
  exact om_loadG 33 48 rfl rfl rfl (by decide) (by rfl) h33 rfl rfl (by decide) ((frm_out (by decide)).trans rfl) (ZB.out.on J.q) (J.s 36 (by decide) rfl)
 case o37=>
  intro L v W J hL hd
  have h33:v 48=.bool true:=J.e 33 (by decide) (hd 33 (by decide))
  have h35:v 50=.agg ya.L.toArray:=J.e 35 (by decide) (hd 35 (by decide))
  have h36:v 51=.agg yb.L.toArray:=J.e 36 (by decide) (hd 36 (by decide))
  refine om_bsl2 33 48 rfl rfl rfl (by decide) (by rfl) h33 rfl rfl (by decide) (by decide) (by rfl) h35 (by decide) (by rfl) h36 ?_
  exact ((J.on ((Q.refl _).alloc _)).s 37 (by decide) (om_sl W [ya,yb] 2 rfl (by decide)))
 case o38=>
  intro L v W J hL hd
  have h33:v 48=.bool true:=J.e 33 (by decide) (hd 33 (by decide))
  have h34:v 49=.int .i64 c:=J.e 34 (by decide) (hd 34 (by decide))
  have h37:Sl Rv.L 23 W (v 52) [ya,yb]:=J.e 37 (by decide) (hd 37 (by decide))
  refine opw_callG 33 48 true rfl rfl rfl (by decide) (by rfl) h33 rfl (by decide) (by simp only [frm,List.foldl_cons,List.foldl_nil,List.setIfInBounds_toArray,List.set_cons_zero,List.set_cons_succ];(go_simp) <;> (first|exact ⟨⟨rfl,rfl⟩,rfl⟩|exact ⟨rfl,rfl⟩|with_reducible rfl)) ?_
  refine (F1.out W _ J.q h37).mono ?_
  rintro e W1 ⟨rfl,q1⟩
  exact ⟨_,rfl,(J.on q1).s 38 (by decide) rfl⟩
 case o39=>
  intro L v W J hL hd
  have h33:v 48=.bool true:=J.e 33 (by decide) (hd 33 (by decide))
  refine opw_valG 33 48 true rfl rfl rfl (by decide) (by rfl) h33 rfl (by decide) (by simp only [frm,List.foldl_cons,List.foldl_nil,List.setIfInBounds_toArray,List.set_cons_zero,List.set_cons_succ];(go_simp) <;> (first|exact ⟨⟨rfl,rfl⟩,rfl⟩|exact ⟨rfl,rfl⟩|with_reducible rfl)) ?_
  exact J.s 39 (by decide) rfl
 case o40=>
  intro L v W J hL hd
  have h33:v 48=.bool true:=J.e 33 (by decide) (hd 33 (by decide))
  exact om_loadG 33 48 rfl rfl rfl (by decide) (by rfl) h33 rfl rfl (by decide) ((frm_out (by decide)).trans rfl) (ZA.out.on J.q) (J.s 40 (by decide) rfl)
 case o41=>
  intro L v W J hL hd
  have h33:v 48=.bool true:=J.e 33 (by decide) (hd 33 (by decide))
  exact om_loadG 33 48 rfl rfl rfl (by decide) (by rfl) h33 rfl rfl (by decide) ((frm_out (by decide)).trans rfl) (ZB.out.on J.q) (J.s 41 (by decide) rfl)
 case o42=>
  intro L v W J hL hd
  have h33:v 48=.bool true:=J.e 33 (by decide) (hd 33 (by decide))
  have h40:v 55=.agg ya.L.toArray:=J.e 40 (by decide) (hd 40 (by decide))
  have h41:v 56=.agg yb.L.toArray:=J.e 41 (by decide) (hd 41 (by decide))
  refine om_bsl2 33 48 rfl rfl rfl (by decide) (by rfl) h33 rfl rfl (by decide) (by decide) (by rfl) h40 (by decide) (by rfl) h41 ?_
  exact ((J.on ((Q.refl _).alloc _)).s 42 (by decide) (om_sl W [ya,yb] 2 rfl (by decide)))
 case o43=>
  intro L v W J hL hd
  have h33:v 48=.bool true:=J.e 33 (by decide) (hd 33 (by decide))
  have h39:v 54=.int .i64 c:=J.e 39 (by decide) (hd 39 (by decide))
  have h42:Sl Rv.L 23 W (v 57) [ya,yb]:=J.e 42 (by decide) (hd 42 (by decide))
  refine opw_callG 33 48 true rfl rfl rfl (by decide) (by rfl) h33 rfl (by decide) (by simp only [frm,List.foldl_cons,List.foldl_nil,List.setIfInBounds_toArray,List.set_cons_zero,List.set_cons_succ];(go_simp) <;> (first|exact ⟨⟨rfl,rfl⟩,rfl⟩|exact ⟨rfl,rfl⟩|with_reducible rfl)) ?_
  refine (F2.out W _ J.q h42).mono ?_
  rintro e W1 ⟨rfl,q1⟩
  exact ⟨_,rfl,(J.on q1).s 43 (by decide) rfl⟩
 case o44=>
  intro L v W J hL hd
  have h33:v 48=.bool true:=J.e 33 (by decide) (hd 33 (by decide))
  have h38:v 53=.bool d2:=J.e 38 (by decide) (hd 38 (by decide))
  have h43:v 58=.bool d2:=J.e 43 (by decide) (hd 43 (by decide))
  refine opw_valG 33 48 true rfl rfl rfl (by decide) (by rfl) h33 rfl (by decide) (by simp only [frm,List.foldl_cons,List.foldl_nil,List.setIfInBounds_toArray,List.set_cons_zero,List.set_cons_succ];(go_simp) <;> (first|exact ⟨⟨rfl,rfl⟩,rfl⟩|exact ⟨rfl,rfl⟩|with_reducible rfl)) ?_
  exact J.s 44 (by decide) rfl
 case o45=>
  intro L v W J hL hd
  have h33:v 48=.bool true:=J.e 33 (by decide) (hd 33 (by decide))
  have h44:v 59=.bool true:=J.e 44 (by decide) (hd 44 (by decide))
  refine opw_val rfl rfl rfl (by decide) (by simp only [frm,List.foldl_cons,List.foldl_nil,List.setIfInBounds_toArray,List.set_cons_zero,List.set_cons_succ];(go_simp) <;> (first|exact ⟨⟨rfl,rfl⟩,rfl⟩|exact ⟨rfl,rfl⟩|with_reducible rfl)) ?_
  exact J.s 45 (by decide) rfl
 case o46=>
  intro L v W J hL hd
  have h45:v 60=.bool true:=J.e 45 (by decide) (hd 45 (by decide))
  refine opw_val rfl rfl rfl (by decide) (by simp only [frm,List.foldl_cons,List.foldl_nil,List.setIfInBounds_toArray,List.set_cons_zero,List.set_cons_succ];(go_simp) <;> (first|exact ⟨⟨rfl,rfl⟩,rfl⟩|exact ⟨rfl,rfl⟩|with_reducible rfl)) ?_
  exact J.t rfl
 intro L v W hall J
 have h46:=J.r (hall 46 (by decide))
 have hqq:=J.q;simp only [frm,List.foldl_cons,List.foldl_nil,List.setIfInBounds_toArray,List.set_cons_zero,List.set_cons_succ]
 rw [h46];clear h46 hall J;go_wp2_with fail
 go_ret
 exact ⟨rfl,QW4.out.trans hqq⟩
end Go.Proofs.YtngnakdbhkjbjaaGreatDoor
namespace Go.Proofs.YtngnakdbhkjbjaaGreatDoor
open Go.RowKit
theorem oe_order{k sh row col ln fm nm rb cb:Bool}:(k&&(sh&&(row&&(col&&(ln&&(fm&&(nm&&(rb&&cb))))))))=(k&&(sh&&(row&&(col&&(cb&&(ln&&(rb&&(fm&&nm)))))))):=by
 cases k <;> cases sh <;> cases row <;> cases col <;> cases ln <;> cases fm <;> cases nm <;> cases rb <;> cases cb <;> rfl
theorem ln_split(a a' b b' c c':Int):decide (a=a'∧b=b'∧c=c')=(decide (a=a')&&(decide (b=b')&&decide (c=c'))):=by
 by_cases h1:a=a' <;> by_cases h2:b=b' <;> by_cases h3:c=c' <;> simp [h1,h2,h3]
theorem str_t{s t:ByteArray}(h:s.data.toList=t.data.toList):(s.toList == t.toList)=true:=by rw [Lib.toList_data,Lib.toList_data];simpa using h
theorem str_f{s t:ByteArray}(h:¬ s.data.toList=t.data.toList):(s.toList == t.toList)=false:=by rw [Lib.toList_data,Lib.toList_data];simpa using h
theorem rb_of{P:Ending→World→Prop}{b c:Bool}{w:World}{f:FuncId}{args:Array Value}(h:Calls Tryz.prog f args w fun e W'=>e=.returned (.bool c)∧Q w W')(e:b=c):Calls Tryz.prog f args w fun e W'=>e=.returned (.bool b)∧Q w W':=by subst e;exact h
theorem eqop_any(x y:Rv)(X Y:Ex)(L M:List R.Rg.Rc)(b:Bool)(w:World)(hx:RO w x X L)(hy:RO w y Y M)(hL:L.length≤1000000000000)(hM:M.length≤1000000000000)(hb:b=true↔oE x y X Y L M):Calls Tryz.prog 11 #[.agg x.L.toArray,.agg y.L.toArray] w fun e W'=>e=.returned (.bool b)∧Q w W':=by
 obtain ⟨cb,hcb,hbb⟩:=oe_split x y X Y L M b hb;clear hb;have hxt:=hx.t;have hxr:=hx.r;have hyt:=hy.t;have hyr:=hy.r;clear hx hy;obtain ⟨k,sh,row,col,f,vk,vn,vt,vb,ve,tk,tm,tt,tb,te,a1,l1,c1,a2,l2,c2,lk,la,lt,ra,rl,rc,fm,nm⟩:=x;obtain ⟨k',sh',row',col',f',vk',vn',vt',vb',ve',tk',tm',tt',tb',te',a1',l1',c1',a2',l2',c2',lk',la',lt',ra',rl',rc',fm',nm'⟩:=y;unfold Rv.L
 unfold vE at hcb
 dsimp only at *
 have HC:=hid (fun W' (q:Q w W')=>eqcell_any f vk vn vt vb ve tk tm tt tb te a1 l1 c1 a2 l2 c2 f' vk' vn' vt' vb' ve' tk' tm' tt' tb' te' a1' l1' c1' a2' l2' c2' X Y cb W' (Rd.on q _ _ hxt) (Rd.on q _ _ hyt) hcb)
 have HR:=hid (fun W' (q:Q w W')=>R.eqList_any _ _ L M W' (hxr.on q) (hyr.on q) hL hM)
 rw [oe_order,ln_split,Bool.and_assoc,Bool.and_assoc]at hbb;generalize R.eqRc L M=rb at HR hbb;clear hxt hxr hyt hyr hcb hL hM;by_cases h_k:k=k'
 ·rw [decide_eq_true h_k,Bool.true_and]at hbb
  subst h_k;by_cases h_sh:sh.data.toList=sh'.data.toList
  ·rw [decide_eq_true h_sh,Bool.true_and]at hbb
   by_cases h_row:row=row'
   ·rw [decide_eq_true h_row,Bool.true_and]at hbb
    subst h_row;by_cases h_col:col=col'
    ·rw [decide_eq_true h_col,Bool.true_and]at hbb
     subst h_col;cases cb with
     |true=>
      rw [Bool.true_and]at hbb;by_cases h_lk:lk=lk'
      ·rw [decide_eq_true h_lk,Bool.true_and]at hbb
       subst h_lk;by_cases h_la:la=la'
       ·rw [decide_eq_true h_la,Bool.true_and]at hbb
        subst h_la;by_cases h_lt:lt=lt'
        ·rw [decide_eq_true h_lt,Bool.true_and]at hbb
         subst h_lt;cases rb with
         |true=>
          rw [Bool.true_and]at hbb;by_cases h_fm:fm=fm'
          ·rw [decide_eq_true h_fm,Bool.true_and]at hbb
           subst h_fm;by_cases h_nm:nm.data.toList=nm'.data.toList
           ·rw [decide_eq_true h_nm]at hbb
            exact rb_of (P:=fun _ _=>True) (eo_11 _ _ _ _ _ _ _ _ _ _ _ _ _ _ _ _ _ _ _ _ _ _ _ _ _ _ _ _ _ _ _ _ _ _ _ _ _ _ _ _ _ _ _ w (str_t h_sh) (str_t h_nm) HC HR) (by rw [hbb])
           ·rw [decide_eq_false h_nm]at hbb
            exact rb_of (P:=fun _ _=>True) (eo_10 _ _ _ _ _ _ _ _ _ _ _ _ _ _ _ _ _ _ _ _ _ _ _ _ _ _ _ _ _ _ _ _ _ _ _ _ _ _ _ _ _ _ _ w (str_t h_sh) (str_f h_nm) HC HR) (by rw [hbb])
          ·rw [decide_eq_false h_fm]at hbb
           exact rb_of (P:=fun _ _=>True) (eo_9 _ _ _ _ _ _ _ _ _ _ _ _ _ _ _ _ _ _ _ _ _ _ _ _ _ _ _ _ _ _ _ _ _ _ _ _ _ _ _ _ _ _ _ _ w (str_t h_sh) (beq_eq_false_iff_ne.2 h_fm) HC HR) (by rw [hbb];rfl)
         |false=>
          exact rb_of (P:=fun _ _=>True) (eo_8 _ _ _ _ _ _ _ _ _ _ _ _ _ _ _ _ _ _ _ _ _ _ _ _ _ _ _ _ _ _ _ _ _ _ _ _ _ _ _ _ _ _ _ _ w (str_t h_sh) HC HR) (by rw [hbb];rfl)
        ·rw [decide_eq_false h_lt]at hbb
         exact rb_of (P:=fun _ _=>True) (eo_7 _ _ _ _ _ _ _ _ _ _ _ _ _ _ _ _ _ _ _ _ _ _ _ _ _ _ _ _ _ _ _ _ _ _ _ _ _ _ _ _ _ _ _ _ _ w (str_t h_sh) (beq_eq_false_iff_ne.2 h_lt) HC) (by rw [hbb];rfl)
       ·rw [decide_eq_false h_la]at hbb
        exact rb_of (P:=fun _ _=>True) (eo_6 _ _ _ _ _ _ _ _ _ _ _ _ _ _ _ _ _ _ _ _ _ _ _ _ _ _ _ _ _ _ _ _ _ _ _ _ _ _ _ _ _ _ _ _ _ _ w (str_t h_sh) (beq_eq_false_iff_ne.2 h_la) HC) (by rw [hbb];rfl)
      ·rw [decide_eq_false h_lk]at hbb
       exact rb_of (P:=fun _ _=>True) (eo_5 _ _ _ _ _ _ _ _ _ _ _ _ _ _ _ _ _ _ _ _ _ _ _ _ _ _ _ _ _ _ _ _ _ _ _ _ _ _ _ _ _ _ _ _ _ _ _ w (str_t h_sh) (beq_eq_false_iff_ne.2 h_lk) HC) (by rw [hbb];rfl)
     |false=>
      exact rb_of (P:=fun _ _=>True) (eo_4 _ _ _ _ _ _ _ _ _ _ _ _ _ _ _ _ _ _ _ _ _ _ _ _ _ _ _ _ _ _ _ _ _ _ _ _ _ _ _ _ _ _ _ _ _ _ _ w (str_t h_sh) HC) (by rw [hbb];rfl)
    ·rw [decide_eq_false h_col]at hbb
     exact rb_of (P:=fun _ _=>True) (eo_3 _ _ _ _ _ _ _ _ _ _ _ _ _ _ _ _ _ _ _ _ _ _ _ _ _ _ _ _ _ _ _ _ _ _ _ _ _ _ _ _ _ _ _ _ _ _ _ _ w (str_t h_sh) (beq_eq_false_iff_ne.2 h_col)) (by rw [hbb];rfl)
   ·rw [decide_eq_false h_row]at hbb
    exact rb_of (P:=fun _ _=>True) (eo_2 _ _ _ _ _ _ _ _ _ _ _ _ _ _ _ _ _ _ _ _ _ _ _ _ _ _ _ _ _ _ _ _ _ _ _ _ _ _ _ _ _ _ _ _ _ _ _ _ _ w (str_t h_sh) (beq_eq_false_iff_ne.2 h_row)) (by rw [hbb];rfl)
  ·rw [decide_eq_false h_sh]at hbb
   exact rb_of (P:=fun _ _=>True) (eo_1 _ _ _ _ _ _ _ _ _ _ _ _ _ _ _ _ _ _ _ _ _ _ _ _ _ _ _ _ _ _ _ _ _ _ _ _ _ _ _ _ _ _ _ _ _ _ _ _ _ w (str_f h_sh)) (by rw [hbb];rfl)
 ·rw [decide_eq_false h_k]at hbb
  exact rb_of (P:=fun _ _=>True) (eo_0 _ _ _ _ _ _ _ _ _ _ _ _ _ _ _ _ _ _ _ _ _ _ _ _ _ _ _ _ _ _ _ _ _ _ _ _ _ _ _ _ _ _ _ _ _ _ _ _ _ _ w (beq_eq_false_iff_ne.2 h_k)) (by rw [hbb];rfl)
end Go.Proofs.YtngnakdbhkjbjaaGreatDoor
