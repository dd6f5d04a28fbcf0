/- ref.word whole, ref.Scan, walk. -/
import Derived.Test.YtoikodohcieipaaGreatDoorKl19
import Derived.Test.YtoikodohcieipaaGreatDoorKl23
import Derived.Test.YtoikodohcieipaaGreatDoorKl14
import Derived.Test.YtoikodohcieipaaGreatDoorKl05
import Derived.Test.YtoikodohcieipaaGreatDoorKl06
set_option linter.unusedVariables false
set_option linter.unusedSimpArgs false
set_option maxRecDepth 100000
set_option maxHeartbeats 8000000
namespace Go.Proofs.YtoikodohcieipaaGreatDoor
open Go.RowKit
set_option linter.unusedVariables false
set_option linter.unusedSimpArgs false
theorem tw_mem{p:UInt8→Bool}{x:UInt8}:∀ {l:List UInt8},x∈l.takeWhile p→p x=true
 |[],h=>by simp at h
 |c::r,h=>by
  rw [List.takeWhile_cons]at h
  split at h
  ·rename_i hc
   rcases List.mem_cons.1 h with rfl|h'
   ·exact hc
   ·exact tw_mem h'
  ·simp at h
theorem hp_one'(a c:UInt8)(r:List UInt8):Lib.hasPrefix (a::r) [c]=(c == a):=by
 unfold Lib.hasPrefix
 simp [List.isPrefixOf]
theorem rword_join(s:ByteArray)(i:Nat)(w:World)(hs:s.size≤100000)(hi:i<s.size)(hj:joinB s[i]=true)(hF:wordF (s.data.toList.drop i)=joinW (s.data.toList.drop i)) :
  Calls Tryz.prog 64 #[.string s,.int .i64 (i:Int)] w fun e w'=>e=.returned (rwv (wordF (s.data.toList.drop i)) i)∧Q w w':=by
 obtain ⟨M,T,hr,hM⟩:=run_at s i hi hj;have hz:=hr.zT;have hlo:=hr.lo;have hle:=hr.le;have hT0:0<T.size:=by omega
 have hlen:(s.data.toList.drop i |>.takeWhile joinB).length=M-i:=by omega
 have hJ:joinB T[0]=true:=tw_mem (l:=s.data.toList.drop i) (by rw [←hr.lT];exact get_mem T 0 hT0)
 have h45:T[0]≠45:=fun e=>by rw [e]at hJ;exact absurd hJ (by decide)
 have HP:=fun W=>V.rparse_any T W (by omega)
 have HR:=fun W=>rref_any T W (by omega)
 have HL:=fun W=>letters_any T W hT0 (by omega)
 have et:=Lib.toList_data T;have hpos:=pk_pos (no_minus T hT0 h45);have hW:∀ k,kindJ T.data.toList (Lib.hasPrefix (s.data.toList.drop M) [40])=k→wordF (s.data.toList.drop i)=if k=0 then bad else (k,T.data.toList,M-i):=by
  intro k hk
  rw [hF];unfold joinW
  rw [←hr.lT,hr.beh,hk,hr.lT,hlen]
 unfold V.RP at HP
 generalize V.pk (V.parseO T.data.toList)=pn at HP hpos;cases hp:V.pf (V.parseO T.data.toList)
 ·rw [hp]at HP
  cases hf:refF T.data.toList
  ·rw [hf]at HR
   have hk:=kind_rest (c:=Lib.hasPrefix (s.data.toList.drop M) [40]) hp hf;cases ha:allL T.data.toList
   ·rw [ha]at HL
    refine rword_n0 s T i M w hs hi hr hj pn _ (hid HP) (hid HR) (hid HL) (hid ?_)
    rw [hW 0 ?_];rfl
    rw [hk,if_neg]
    rintro (h|h|⟨_,h⟩)
    ·rw [h]at ha;exact absurd ha (by decide)
    ·rw [h]at ha;exact absurd ha (by decide)
    ·rw [ha]at h;cases h
   ·rw [ha]at HL
    by_cases ht:T.data.toList=tru
    ·refine rword_t s T i M w hs hi hr hj pn _ (hid HP) (hid HR) (hid HL) (by rw [et,ht];rfl) (hid ?_)
     rw [hW 4 (by rw [hk,if_pos (Or.inl ht)])];rfl
    ·have e1:(T.toList == [84,82,85,69])=false:=by rw [et,beq_eq_false_iff_ne];exact ht
     by_cases hf2:T.data.toList=fls
     ·refine rword_f s T i M w hs hi hr hj pn _ (hid HP) (hid HR) (hid HL) e1 (by rw [et,hf2];rfl) (hid ?_)
      rw [hW 4 (by rw [hk,if_pos (Or.inr (Or.inl hf2))])];rfl
     ·have e2:(T.toList == [70,65,76,83,69])=false:=by rw [et,beq_eq_false_iff_ne];exact hf2
      by_cases hMs:M<s.size
      ·by_cases h40:s[M]=40
       ·have hc:Lib.hasPrefix (s.data.toList.drop M) [40]=true:=by rw [drop_cons s M hMs,hp_one',h40];rfl
        refine rword_c s T i M w hs hi hr hj pn _ (hid HP) (hid HR) (hid HL) e1 e2 (hid hMs) (hid fun _=>h40) (hid ?_)
        rw [hW 4 (by rw [hk,if_pos (Or.inr (Or.inr ⟨hc,ha⟩))])];rfl
       ·have hc:Lib.hasPrefix (s.data.toList.drop M) [40]=false:=by rw [drop_cons s M hMs,hp_one',beq_eq_false_iff_ne];exact fun e=>h40 e.symm
        refine rword_b s T i M w hs hi hr hj pn _ (hid HP) (hid HR) (hid HL) e1 e2 (hid fun _=>h40) (hid ?_)
        rw [hW 0 ?_];rfl
        rw [hk,if_neg]
        rintro (h|h|⟨h,_⟩)
        ·exact ht h
        ·exact hf2 h
        ·rw [hc]at h;cases h
      ·have hc:Lib.hasPrefix (s.data.toList.drop M) [40]=false:=by rw [List.drop_of_length_le (by simp;omega)];rfl
       refine rword_b s T i M w hs hi hr hj pn _ (hid HP) (hid HR) (hid HL) e1 e2 (hid fun h=>absurd h hMs) (hid ?_)
       rw [hW 0 ?_];rfl
       rw [hk,if_neg]
       rintro (h|h|⟨h,_⟩)
       ·exact ht h
       ·exact hf2 h
       ·rw [hc]at h;cases h
  ·rw [hf]at HR
   refine rword_ref s T i M w hs hi hr hj pn _ (hid HP) (hid HR) (hid ?_)
   rw [hW 3 (kind_ref hp hf)];rfl
 ·rw [hp]at HP
  refine rword_num s T i M w hs hi hr hj hT0 pn (hid HP) hpos (byte_ne (n:=45) (by omega) h45) (hid ?_)
  rw [hW 1 (kind_num hp)];rfl
theorem rword_any(s:ByteArray)(i:Nat)(w:World)(hs:s.size≤100000)(hi:i<s.size) :
  Calls Tryz.prog 64 #[.string s,.int .i64 (i:Int)] w fun e w'=>e=.returned (rwv (wordF (s.data.toList.drop i)) i)∧Q w w':=by
 have hh:(s.data.toList.drop i).headD 0=s[i]:=by rw [drop_cons s i hi];rfl
 by_cases h34:s[i]=34
 ·refine rword_quo s i w hs hi h34 _ (hid rfl) (hid ?_)
  unfold wordF
  rw [hh,if_pos h34];unfold quoW
  rw [List.drop_drop]
 ·by_cases h35:s[i]=35
  ·refine rword_err s i w hs hi h35 (hid ?_)
   unfold wordF
   rw [hh,if_neg h34,if_pos h35]
   rfl
  ·cases hj:joinB s[i]
   ·refine rword_sig s i w hs hi h34 h35 hj (hid ?_)
    unfold wordF
    rw [hh,if_neg h34,if_neg h35,if_neg (by simp [hj]),sgR_eq]
    rfl
   ·refine rword_join s i w hs hi hj ?_
    unfold wordF
    rw [hh,if_neg h34,if_neg h35,if_pos hj]
end Go.Proofs.YtoikodohcieipaaGreatDoor
namespace Go.Proofs.YtoikodohcieipaaGreatDoor
open Go.RowKit
set_option linter.unusedVariables false
set_option linter.unusedSimpArgs false
theorem info32:(Tryz.prog.info? 78).map (fun i=>(i.zero,i.size,i.bytes))=some (some (.agg #[.int .i64 0,.string ⟨#[]⟩,.int .i64 0]),3,32):=by kernel_rfl
theorem rscan_any(s:ByteArray)(w:World)(hs:s.size≤100000) :
  Calls Tryz.prog 40 #[.string s] w fun e w'=>ScanRet (scanL s.data.toList) e w'∧Q w w':=by
 by_cases hlong:1000<s.size
 ·have HR:=hid (scanL_long (l:=s.data.toList) (by simpa using hlong))
  generalize scanL s.data.toList=o at HR ⊢;go_enter Tryz.func40,Tryz.ntmps40
  go_wp2
  go_ret3
  exact ⟨ScanRet.no HR.out rfl,Q.refl _⟩
 ·obtain ⟨i0,hi⟩:=inf_of info32
  have HI:=hid hi;have HY:Hid (∀ L n,scanF s.data.toList 0 []=(some L,n)→scanL s.data.toList=(some (L++[⟨7,[],s.size⟩]),0)):=hid (fun L n h=>by rw [scanL_yes (by simpa using hlong) h];simp)
  have HN:Hid (∀ n,scanF s.data.toList 0 []=(none,n)→scanL s.data.toList=(none,n)):=hid (fun n h=>scanL_no (by simpa using hlong) h)
  obtain ⟨R,hR⟩:∃ R,scanF s.data.toList 0 []=R:=⟨_,rfl⟩;rw [hR]at HY HN;have HR:=hid hR;generalize scanL s.data.toList=o at HY HN ⊢;clear hR hi;go_enter Tryz.func40,Tryz.ntmps40
  go_wp2
  go_loopw [5,6] (fun v x W=>∃ (k:Nat) (L:List Wd),k≤s.size∧x=.int .i64 (k:Int)∧L.length≤k∧Own wd 78 3 w.heap.size W v L∧Q w W∧Hid (scanF (s.data.toList.drop k) k L=R)) (fun _ x _=>s.size-(intOf x).toNat)
  case atStart=>exact ⟨0,[],Nat.zero_le _,rfl,by simp,own_nil w,Q.refl _,HR⟩
  case round=>
   obtain ⟨k,L,hk,rfl,hL,hO,hQ,hr⟩:=hrel;have HO:=hid hO;have HQ:=hid hQ;clear hO hQ;by_cases hlt:k<s.size
   ·have hr2:=hr.out
    by_cases hb:s[k]=32
    ·have e32:((s[k].toNat:Int) == 32)=true:=eq_byte (n:=32) (by omega) hb
     rw [drop_cons s k hlt,hb,scanF_blank]at hr2;have HR2:=hid hr2;clear hr hr2;go_wp2_with fail
     go_roundw
     case rel=>exact ⟨k+1,L,by omega,by go_num,by omega,HO.out,HQ.out,HR2⟩
     case measure=>simp [intOf];omega
    ·have e32:((s[k].toNat:Int) == 32)=false:=byte_ne (n:=32) (by omega) hb
     have HF:=hid (fun W=>rword_any s k W hs hlt)
     have hne:=drop_head s k hlt;have h32:(s.data.toList.drop k).headD 0≠32:=by rw [drop_cons s k hlt];simpa using hb
     have hwl:=word_len (s.data.toList.drop k);rw [List.length_drop,len_data]at hwl;have hbad:=fun h=>scanF_bad k L hne h32 h
     have hword:=fun h=>scanF_word k L hne h32 h
     rw [hr2]at hbad hword;generalize wordF (s.data.toList.drop k)=q at HF hbad hword hwl;obtain ⟨a,l,n⟩:=q;simp only at hbad hword hwl
     clear hr2 hne h32 hr;by_cases hn:n=0
     ·subst hn
      have HB:=hid (HN.out k (hbad rfl));clear hbad hword;unfold rwv at HF
      simp only [if_pos rfl]at HF
      go_wp2_with (go_at_call 64;refine (HF.out _).mono ?_;rintro e w1 ⟨rfl,q1⟩;have HQ1:=hid (HQ.out.trans q1);clear q1)
      go_ret3
      exact ⟨ScanRet.no HB.out rfl,HQ1.out.alloc _⟩
     ·have hn':((n:Int) == 0)=false:=by rw [beq_eq_false_iff_ne];omega
      have hw2:=hword hn;rw [List.drop_drop]at hw2;have HW2:=hid hw2.symm;clear hbad hword hw2;unfold rwv at HF
      simp only [if_neg hn]at HF
      go_wp2_with (first|(go_at_call 64;refine (HF.out _).mono ?_;rintro e w1 ⟨rfl,q1⟩;have HO1:=hid (HO.out.on q1);have HQ1:=hid (HQ.out.trans q1);clear q1)|(at_builtin;refine wpList_append_own _ rfl _ _ 70 rfl w.heap.size 78 i0 (.agg #[.int .i64 0,.string ⟨#[]⟩,.int .i64 0]) 3 32 Tryz.underlying70 HI.out.1 HI.out.2.1 HI.out.2.2.1 HI.out.2.2.2 rfl (by decide) _ _ _ rfl ((HO1.out.alloc _).alloc _) _ 1 1 [.int .i64 (a:Int),.string ⟨l.toArray⟩,.int .i64 (k:Int)] rfl rfl (news_at _ [.int .i64 (a:Int),.string ⟨l.toArray⟩,.int .i64 (k:Int)] 78 _ (by simp)) (wd_one ⟨a,l,k⟩) (by unfold maxLen;omega) (by omega) (by have:=HQ1.out.size;simp;omega) ?_))
      intro v3 w3 hown' hgrow _
      have HO3:=hid (own_snoc' (enc:=wd) (x:=⟨a,l,k⟩) hown' rfl);have HQ3:Hid (Q w w3):=Below.grown ((HQ1.out.alloc _).alloc _) hgrow (by have:=HQ1.out.size;simp;omega) (HO1.out.blk)
      clear hown' hgrow HO1 HQ1 HO HQ;go_wp2_with fail
      go_roundw
      case rel=>exact ⟨k+n,_,by omega,by go_num,by simp;omega,HO3.out,HQ3.out,HW2⟩
      case measure=>simp [intOf];omega
   ·have hr2:=hr.out
    rw [List.drop_of_length_le (by simp;omega),scanF_nil]at hr2
    have HB:=hid (HY.out L 0 hr2.symm);clear hr2 hr;go_wp2_with (at_builtin;refine wpList_append_own _ rfl _ _ 70 rfl w.heap.size 78 i0 (.agg #[.int .i64 0,.string ⟨#[]⟩,.int .i64 0]) 3 32 Tryz.underlying70 HI.out.1 HI.out.2.1 HI.out.2.2.1 HI.out.2.2.2 rfl (by decide) _ _ _ rfl (HO.out.alloc _) _ 1 1 [.int .i64 7,.string ⟨#[]⟩,.int .i64 (s.size:Int)] rfl rfl (news_at _ [.int .i64 7,.string ⟨#[]⟩,.int .i64 (s.size:Int)] 78 _ (by simp)) (wd_one ⟨7,[],s.size⟩) (by unfold maxLen;omega) (by omega) (by have:=HQ.out.size;simp;omega) ?_)
    intro v3 w3 hown' hgrow _
    have HO3:=hid (own_snoc' (enc:=wd) (x:=⟨7,[],s.size⟩) hown' rfl);have HQ3:Hid (Q w w3):=Below.grown (HQ.out.alloc _) hgrow (by have:=HQ.out.size;simp;omega) (HO.out.blk)
    clear hown' hgrow HO HQ;go_wp2_with fail
    go_ret3
    exact ⟨ScanRet.yes HB.out (HO3.out.sl wd_len (by decide)),HQ3.out⟩
end Go.Proofs.YtoikodohcieipaaGreatDoor
