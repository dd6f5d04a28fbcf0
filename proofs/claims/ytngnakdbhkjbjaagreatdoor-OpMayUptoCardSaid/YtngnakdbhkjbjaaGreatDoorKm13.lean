/- The reference: May, left, out:. -/
import Derived.Test.YtngnakdbhkjbjaaGreatDoorKm02
import Derived.Deep.CutBlock
import Derived.Deep.RegionHeld3
set_option linter.unusedVariables false
set_option linter.unusedSimpArgs false
set_option maxRecDepth 100000
set_option maxHeartbeats 8000000
namespace Go.Proofs.YtngnakdbhkjbjaaGreatDoor.L
open Go.RowKit
theorem rmay_in(k a t:Int)(w:World)(hA:mnB a=true)(hT:mnB t=true):Calls Tryz.prog 29 #[.agg #[.int .i64 k,.int .i64 a,.int .i64 t]] w fun e w'=>e=.returned (.bool (mayB k a t))∧w'=w.alloc (.cells #[.int .i64 k,.int .i64 a,.int .i64 t] 32):=by
 have H:=hid (mayB_of (k:=k) hA hT);have hb:0≤a∧a<2199023255552:=by unfold mnB at hA;simpa using hA
 have hb':0≤t∧t<2199023255552:=by unfold mnB at hT;simpa using hT
 obtain ⟨hb0,hb1⟩:=hb;obtain ⟨hb2,hb3⟩:=hb';clear hA hT;by_cases h1:k=1
 ·have HR:Hid ((t == 0)=mayB k a t):=by show _=_;rw [H.out];unfold Ax.okB;rw [if_pos h1];rw [Bool.eq_iff_iff];simp
  have h1':(k == 1)=true:=by simpa using h1
  clear h1;go_enter Tryz.func29,Tryz.ntmps29
  go_wp2
  all_goals go_ret
  all_goals exact ⟨ret_bool HR.out,rfl⟩
 ·have h1':(k == 1)=false:=by simpa using h1
  by_cases h2:k=2
  ·have HR:Hid ((t == 0)=mayB k a t):=by show _=_;rw [H.out];unfold Ax.okB;rw [if_neg h1,if_pos h2];rw [Bool.eq_iff_iff];simp
   have h2':(k == 2)=true:=by simpa using h2
   clear h1 h2;go_enter Tryz.func29,Tryz.ntmps29
   go_wp2
   all_goals go_ret
   all_goals exact ⟨ret_bool HR.out,rfl⟩
  ·have h2':(k == 2)=false:=by simpa using h2
   by_cases h3:k=3
   ·have h3':(k == 3)=true:=by simpa using h3
    have HE:Hid (mayB k a t=decide (t≠a∧t≠a+1)):=by show _=_;rw [H.out];unfold Ax.okB;rw [if_neg h1,if_neg h2,if_pos h3]
    by_cases h4:t=a
    ·have HR:Hid (false=mayB k a t):=by show _=_;rw [HE.out];simp [h4]
     have h4':(t != a)=false:=by simpa using h4
     clear h1 h2 h3 h4;go_enter Tryz.func29,Tryz.ntmps29
     go_wp2
     all_goals go_ret
     all_goals exact ⟨ret_bool HR.out,rfl⟩
    ·have h4':(t != a)=true:=by simpa using h4
     by_cases h5:t=a+1
     ·have HR:Hid (false=mayB k a t):=by show _=_;rw [HE.out];simp [h5]
      have h5':(t != a+1)=false:=by simpa using h5
      clear h1 h2 h3 h4 h5;go_enter Tryz.func29,Tryz.ntmps29
      go_wp2
      all_goals go_ret
      all_goals exact ⟨ret_bool HR.out,rfl⟩
     ·have HR:Hid (true=mayB k a t):=by show _=_;rw [HE.out];simp [h4,h5]
      have h5':(t != a+1)=true:=by simpa using h5
      clear h1 h2 h3 h4 h5;go_enter Tryz.func29,Tryz.ntmps29
      go_wp2
      all_goals go_ret
      all_goals exact ⟨ret_bool HR.out,rfl⟩
   ·have h3':(k == 3)=false:=by simpa using h3
    have HR:Hid (false=mayB k a t):=by show _=_;rw [H.out];unfold Ax.okB;rw [if_neg h1,if_neg h2,if_neg h3]
    clear h1 h2 h3;go_enter Tryz.func29,Tryz.ntmps29
    go_wp2
    all_goals go_ret
    all_goals exact ⟨ret_bool HR.out,rfl⟩
theorem rmay_any(k a t:Int)(w:World):Calls Tryz.prog 29 #[.agg #[.int .i64 k,.int .i64 a,.int .i64 t]] w fun e w'=>e=.returned (.bool (mayB k a t))∧w'=w.alloc (.cells #[.int .i64 k,.int .i64 a,.int .i64 t] 32):=by
 cases hA:mnB a
 ·have H:=hid (mayB_noA (k:=k) (t:=t) hA)
  have hb:a<0∨0≤a∧2199023255552≤a:=by unfold mnB at hA;simp at hA;omega
  clear hA
  rcases hb with h|⟨h0,h⟩
  all_goals
   go_enter Tryz.func29,Tryz.ntmps29
   go_wp2
   go_ret
   exact ⟨ret_bool H.out,rfl⟩
 ·cases hT:mnB t
  ·have H:=hid (mayB_noT (k:=k) (a:=a) hT)
   have ha:0≤a∧a<2199023255552:=by unfold mnB at hA;simpa using hA
   obtain ⟨ha0,ha1⟩:=ha;have hb:t<0∨0≤t∧2199023255552≤t:=by unfold mnB at hT;simp at hT;omega
   clear hA hT
   rcases hb with h|⟨h0,h⟩
   all_goals
    go_enter Tryz.func29,Tryz.ntmps29
    go_wp2
    go_ret
    exact ⟨ret_bool H.out,rfl⟩
  ·exact rmay_in k a t w hA hT
end Go.Proofs.YtngnakdbhkjbjaaGreatDoor.L
