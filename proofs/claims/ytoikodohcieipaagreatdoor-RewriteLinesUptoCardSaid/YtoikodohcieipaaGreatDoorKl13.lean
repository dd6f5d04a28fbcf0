/- counterpaneref1.Parse, walked. -/
import Derived.Test.YtoikodohcieipaaGreatDoorKl08
import Derived.Test.YtoikodohcieipaaGreatDoorKl00
import Derived.Deep.CutBlock
set_option linter.unusedVariables false
set_option linter.unusedSimpArgs false
set_option maxRecDepth 100000
set_option maxHeartbeats 8000000
namespace Go.Proofs.YtoikodohcieipaaGreatDoor.V
open Go.RowKit
set_option linter.unusedVariables false
set_option linter.unusedSimpArgs false
def Sat(V:Nat)(x:Int):Prop:=(x=(V:Int)∧(V:Int)<79228162514264337593543950336)∨(79228162514264337593543950336≤(V:Int)∧79228162514264337593543950336≤x∧x<158456325028528675187087900672)
theorem Sat.start:Sat 0 0:=.inl ⟨rfl,by omega⟩
theorem Sat.lo{V:Nat}{x:Int}(h:Sat V x):0≤x∧x<158456325028528675187087900672:=by unfold Sat at h;omega
theorem Sat.low{V:Nat}{x y d:Int}{f0 f1 f2 f3 f4 f5:Int}{c:Nat}(h:Sat V x)(hd:d=(c:Int))(hc:c≤9)(hy:y=x*10+d)(hf:Dg f0 f1 f2 f3 f4 f5 y)(h3:f3=0):Sat (V*10+c) y:=by
 obtain ⟨a0,b0,a1,b1,a2,b2,a3,b3,a4,b4,a5,b5,e⟩:=hf;unfold Sat at *
 omega
theorem Sat.high{V:Nat}{x y d:Int}{f0 f1 f2 f3 f4 f5:Int}{c:Nat}(h:Sat V x)(hd:d=(c:Int))(hc:c≤9)(hy:y=x*10+d)(hf:Dg f0 f1 f2 f3 f4 f5 y)(h3:f3≠0) :
  ∃ z,Dg f0 f1 f2 1 0 0 z∧Sat (V*10+c) z:=by
 obtain ⟨a0,b0,a1,b1,a2,b2,a3,b3,a4,b4,a5,b5,e⟩:=hf;refine ⟨f0+f1*4294967296+f2*18446744073709551616+79228162514264337593543950336,⟨by omega,by omega,by omega,by omega,by omega,by omega,by omega,by omega,by omega,by omega,by omega,by omega,by omega⟩,?_⟩
 unfold Sat at *
 omega
theorem huge_keep{n:Int}{ng:Bool}(h:79228162514264337593543950336≤n):fitB (sgn n ng)=false:=by
 apply fitB_no
 cases ng
 ·show n<_∨_<n
  omega
 ·show -n<_∨_ < -n
  omega
theorem Sat.same{V:Nat}{x:Int}(h:Sat V x)(m:Nat)(ng:Bool):keep (sgn (x*10 ^ m) ng)=keep (sgn ((V*10 ^ m:Nat):Int) ng)∧fitB (sgn (x*10 ^ m) ng)=fitB (sgn ((V*10 ^ m:Nat):Int) ng):=by
 rcases h with ⟨h,_⟩|⟨h1,h2,h3⟩
 ·have e:x*10 ^ m=((V*10 ^ m:Nat):Int):=by rw [h];simp
  rw [e];exact ⟨rfl,rfl⟩
 ·have hp:(1:Int)≤10 ^ m:=by
   have h:=Nat.one_le_pow m 10 (by decide)
   have e:((10 ^ m:Nat):Int)=(10:Int) ^ m:=by simp
   omega
  have g1:79228162514264337593543950336≤x*10 ^ m:=by
   have:=Int.mul_le_mul h2 hp (by omega) (by omega)
   omega
  have g2:79228162514264337593543950336≤((V*10 ^ m:Nat):Int):=by
   have e:((V*10 ^ m:Nat):Int)=(V:Int)*10 ^ m:=by simp
   rw [e];have:=Int.mul_le_mul h1 hp (by omega) (by omega)
   omega
  rw [keep_no (huge_keep g1),keep_no (huge_keep g2),huge_keep g1,huge_keep g2];exact ⟨rfl,rfl⟩
structure Jp (w:World) (d0 d1 d2 d3 d4 d5:Int) (W:World):Prop where
 q:Q w W
 r:Row W w.heap.size d0 d1 d2 d3 d4 d5
theorem Jp.on{w W W':World}{d0 d1 d2 d3 d4 d5:Int}(h:Jp w d0 d1 d2 d3 d4 d5 W)(g:Q W W'):Jp w d0 d1 d2 d3 d4 d5 W':=⟨h.q.trans g,h.r.on g⟩
theorem Jp.drew{w W:World}{d0 d1 d2 d3 d4 d5:Int}(h:Jp w d0 d1 d2 d3 d4 d5 W):Jp w d0 d1 d2 d3 d4 d5 W.drew:=h.on (Q.refl _).drew
def setW(W:World)(b:Nat)(s0 s1 s2 s3 s4 s5:Int):World:=
 (((((W.setCell ⟨b,0,none⟩ (.int .u64 s0)).setCell ⟨b,1,none⟩ (.int .u64 s1)).setCell ⟨b,2,none⟩ (.int .u64 s2)).setCell ⟨b,3,none⟩ (.int .u64 s3)).setCell ⟨b,4,none⟩ (.int .u64 s4)).setCell ⟨b,5,none⟩ (.int .u64 s5)
theorem Jp.set{w W:World}{d0 d1 d2 d3 d4 d5 s0 s1 s2 s3 s4 s5:Int}(h:Jp w d0 d1 d2 d3 d4 d5 W):Jp w s0 s1 s2 s3 s4 s5 (setW W w.heap.size s0 s1 s2 s3 s4 s5):=
 ⟨(((((h.q.setCell (Nat.le_refl _) _).setCell (Nat.le_refl _) _).setCell (Nat.le_refl _) _).setCell (Nat.le_refl _) _).setCell (Nat.le_refl _) _).setCell (Nat.le_refl _) _,h.r.set0.set1.set2.set3.set4.set5⟩
theorem Jp.far{w W:World}{d0 d1 d2 d3 d4 d5:Int}(h:Jp w d0 d1 d2 d3 d4 d5 W):Jp w d0 d1 d2 1 0 0 (((W.setCell ⟨w.heap.size,4,none⟩ (.int .u64 0)).setCell ⟨w.heap.size,5,none⟩ (.int .u64 0)).setCell ⟨w.heap.size,3,none⟩ (.int .u64 1)):=
 ⟨((h.q.setCell (Nat.le_refl _) _).setCell (Nat.le_refl _) _).setCell (Nat.le_refl _) _,h.r.set4.set5.set3⟩
theorem Jp.start(w:World):Jp w 0 0 0 0 0 0 (w.alloc (.cells #[.int .u64 0,.int .u64 0,.int .u64 0,.int .u64 0,.int .u64 0,.int .u64 0] 139)):=⟨(Q.refl _).alloc _,row_new w 139 0 0 0 0 0 0⟩
theorem dgz:Dg 0 0 0 0 0 0 0:=⟨by omega,by omega,by omega,by omega,by omega,by omega,by omega,by omega,by omega,by omega,by omega,by omega,by omega⟩
def RP(o:Option Int)(e:Ending):Prop:=e=.returned (.tuple #[.int .i64 (pk o),.bool (pf o)])
theorem RP.no{o:Option Int}(h:o=none):RP o (.returned (.tuple #[.int .i64 0,.bool false])):=by rw [h];rfl
theorem RP.yes{o:Option Int}{n:Int}{k:Int}{f:Bool}(h:o=some n)(hk:k=keep n)(hf:f=fitB n):RP o (.returned (.tuple #[.int .i64 k,.bool f])):=by rw [h,hk,hf];rfl
theorem rparse_core(s T:ByteArray)(ng:Bool)(w:World)(hT:(T.size:Int)≤1000000)
  (h1:(s.size=0∧T=s∧ng=false)∨(∃ h:0<s.size,s[0]=45∧T=s.extract 1 s.size∧ng=true)∨(∃ h:0<s.size,s[0]≠45∧T=s∧ng=false)) :
  Calls Tryz.prog 82 #[.string s] w fun e w'=>RP (parse2 T.data.toList ng) e∧Q w w':=by
 have H1:=hid h1;clear h1;obtain ⟨R,eR⟩:∃ R,parse2 T.data.toList ng=R:=⟨_,rfl⟩;have HR:=hid eR;rw [eR];clear eR;go_enter Tryz.func82,Tryz.ntmps82
 go_upto_region 1 with fail
 go_cut [4] from 11 to 18 (fun x W=>x=.bool ng∧w=W)
 case first=>
  rcases H1.out with ⟨h,rfl,rfl⟩|⟨h,h45,hT',rfl⟩|⟨h,h45,hT',rfl⟩
  ·have h':(T.size:Int)=0:=by omega
   clear h;go_wp2_with fail
   go_meet
   exact ⟨rfl,rfl⟩
  ·have h':((s[0].toNat:Int) == 45)=true:=by rw [h45];rfl
   have hz:0<(s.size:Int):=by omega
   clear h45;go_wp2_with fail
   go_meet
   exact ⟨rfl,rfl⟩
  ·have h':((s[0].toNat:Int) == 45)=false:=by
    rw [beq_eq_false_iff_ne];intro e
    apply h45
    apply UInt8.toNat_inj.1
    show s[0].toNat=45
    omega
   have hz:0<(s.size:Int):=by omega
   clear h45;go_wp2_with fail
   go_meet
   exact ⟨rfl,rfl⟩
 case rest=>
  obtain ⟨rfl,rfl⟩:=hcut;go_upto_if 19 with fail
  go_cut [0] from 20 to 21 (fun x W=>x=.string T∧w=W)
  case first=>
   rcases H1.out with ⟨h,hT',rfl⟩|⟨h,h45,hT',rfl⟩|⟨h,h45,hT',rfl⟩
   ·go_wp2_with fail
    go_meet
    exact ⟨by rw [hT'],rfl⟩
   ·have hz:1≤(s.size:Int):=by omega
    go_wp2_with fail
    go_meet
    exact ⟨by rw [hT'],rfl⟩
   ·go_wp2_with fail
    go_meet
    exact ⟨by rw [hT'],rfl⟩
  case rest=>
   obtain ⟨rfl,rfl⟩:=hcut;go_wp2_with fail
   go_loopw [6,7] (fun p i W=>∃ (k V:Nat) (pt d0 d1 d2 d3 d4 d5 x:Int),k≤T.size∧i=.int .i64 k∧p=.int .i64 pt∧-1≤pt∧pt<(k:Int)∧Jp w d0 d1 d2 d3 d4 d5 W∧Dg d0 d1 d2 d3 d4 d5 x∧Hid (Sat V x∧PI T.data.toList k pt V)) (fun _ i _=>T.size-(intOf i).toNat)
   case atStart=>exact ⟨0,0,-1,0,0,0,0,0,0,0,Nat.zero_le _,rfl,rfl,by omega,by omega,Jp.start w,dgz,Sat.start,PI.start _⟩
   case round=>
    obtain ⟨k,V,pt,d0,d1,d2,d3,d4,d5,x,hk,rfl,rfl,pt0,pt1,J,dg,HS⟩:=hrel;have DG:=hid dg;clear dg;by_cases hlt:k<T.size
    ·have ht:=hid (take_snoc T k hlt)
     by_cases hd:dig T[k]=true
     ·have b0:48≤(T[k].toNat:Int):=by unfold dig at hd;simp at hd;omega
      have b1:(T[k].toNat:Int)≤57:=by unfold dig at hd;simp at hd;omega
      have hPI:=hid (HS.out.2.digit ht.out hd);have hx:=HS.out.1.lo;have HT10:=hid (fun W=>times_any d0 d1 d2 d3 d4 d5 x 10 W DG.out (by omega) (by omega) (by omega))
      have HO:Hid (∀ W,Calls Tryz.prog 99 #[.int .u64 (IntKind.u64.wrap (IntKind.u8.wrap ((T[k].toNat:Int)-48)))] W fun e w'=>WR ((T[k].toNat:Int)-48) e∧Q W w'):=fun W=>by
       have ew:IntKind.u64.wrap (IntKind.u8.wrap ((T[k].toNat:Int)-48))=(T[k].toNat:Int)-48:=by rw [IntKind.wrap_u64,IntKind.wrap_u8];omega
       rw [ew];exact one_any ((T[k].toNat:Int)-48) W (by omega) (by omega)
      clear hd;have c0:=J.r.c0;have c1:=J.r.c1;have c2:=J.r.c2;have c3:=J.r.c3;have c4:=J.r.c4;have c5:=J.r.c5;go_upto_region 14 with (go_at_call 97;refine (HT10.out _).mono ?_;rintro e w1 ⟨⟨e0,e1,e2,e3,e4,e5,rfl,de⟩,q1⟩;replace J:=J.on q1;have ac0:=J.r.c0;have ac1:=J.r.c1;have ac2:=J.r.c2;have ac3:=J.r.c3;have ac4:=J.r.c4;have ac5:=J.r.c5;have af0:=J.r.f0;have af1:=J.r.f1;have af2:=J.r.f2;have af3:=J.r.f3;have af4:=J.r.f4;have af5:=J.r.f5)
      have J2:Jp w e0 e1 e2 e3 e4 e5 (setW w1 w.heap.size e0 e1 e2 e3 e4 e5):=J.set
      obtain ⟨w2,hw2⟩:∃ w2,setW w1 w.heap.size e0 e1 e2 e3 e4 e5=w2:=⟨_,rfl⟩;rw [hw2]at J2;unfold setW at hw2
      rw [hw2];have DE:=hid de;have hbd:Hid (x*10+((T[k].toNat:Int)-48)<6277101735386680763835789423207666416102355444464034512896):=by show _<_;omega
      clear hw2 J de c0 ac0 af0 c1 ac1 af1 c2 ac2 af2 c3 ac3 af3 c4 ac4 af4 c5 ac5 af5 q1;have c0:=J2.r.c0;have c1:=J2.r.c1;have c2:=J2.r.c2;have c3:=J2.r.c3;have c4:=J2.r.c4;have c5:=J2.r.c5;go_cut [] from 49 to 56 (fun W=>∃ f0 f1 f2 f3 f4 f5 y:Int,Jp w f0 f1 f2 f3 f4 f5 W∧Dg f0 f1 f2 f3 f4 f5 y∧Hid (y=x*10+((T[k].toNat:Int)-48)))
      case first=>
       go_region_with (first
        |(go_at_call 99;refine (HO.out _).mono ?_;rintro e w3 ⟨⟨o0,o1,o2,o3,o4,o5,rfl,dox⟩,q3⟩;replace J2:=J2.drew.on q3;have bc0:=J2.r.c0;have bc1:=J2.r.c1;have bc2:=J2.r.c2;have bc3:=J2.r.c3;have bc4:=J2.r.c4;have bc5:=J2.r.c5)
        |(go_at_call 98;refine (plus_any e0 e1 e2 e3 e4 e5 (x*10) o0 o1 o2 o3 o4 o5 ((T[k].toNat:Int)-48) _ DE.out dox hbd.out).mono ?_;rintro e w4 ⟨⟨f0,f1,f2,f3,f4,f5,rfl,df⟩,q4⟩;replace J2:=J2.on q4;have tc0:=J2.r.c0;have tc1:=J2.r.c1;have tc2:=J2.r.c2;have tc3:=J2.r.c3;have tc4:=J2.r.c4;have tc5:=J2.r.c5;have tf0:=J2.r.f0;have tf1:=J2.r.f1;have tf2:=J2.r.f2;have tf3:=J2.r.f3;have tf4:=J2.r.f4;have tf5:=J2.r.f5))
       all_goals
        go_wp2_with fail
        go_meet
        case rel=>exact ⟨f0,f1,f2,f3,f4,f5,_,J2.set,df,rfl⟩
      case rest=>
       obtain ⟨f0,f1,f2,f3,f4,f5,y,J3,df,hy⟩:=hcut;have gc0:=J3.r.c0;have gc1:=J3.r.c1;have gc2:=J3.r.c2;have gc3:=J3.r.c3;have gc4:=J3.r.c4;have gc5:=J3.r.c5;have gf0:=J3.r.f0;have gf1:=J3.r.f1;have gf2:=J3.r.f2;have gf3:=J3.r.f3;have gf4:=J3.r.f4;have gf5:=J3.r.f5;have hcz:((T[k].toNat:Int)-48)=((T[k].toNat-48:Nat):Int):=by omega
       by_cases h3:f3=0
       ·have HN:Hid (Sat (V*10+(T[k].toNat-48)) y∧PI T.data.toList (k+1) pt (V*10+(T[k].toNat-48))):=⟨HS.out.1.low hcz (by omega) hy.out df h3,hPI.out⟩
        have DF:=hid df;clear df;subst h3;go_wp2_with fail
        go_roundw
        case rel=>exact ⟨k+1,_,pt,f0,f1,f2,0,f4,f5,y,by omega,by go_num,rfl,pt0,by omega,J3,DF.out,HN⟩
        case measure=>simp [intOf];omega
       ·have h3b:(f3 != 0)=true:=bne_iff_ne.2 h3
        obtain ⟨z,dz,sz⟩:=HS.out.1.high hcz (by omega) hy.out df h3
        have HN:Hid (Sat (V*10+(T[k].toNat-48)) z∧PI T.data.toList (k+1) pt (V*10+(T[k].toNat-48))):=⟨sz,hPI.out⟩
        have DZ:=hid dz;clear df dz sz;go_wp2_with fail
        go_roundw
        case rel=>exact ⟨k+1,_,pt,f0,f1,f2,1,0,0,z,by omega,by go_num,rfl,pt0,by omega,J3.far,DZ.out,HN⟩
        case measure=>simp [intOf];omega
     ·have hdf:dig T[k]=false:=by simpa using hd
      have hnd:(T[k].toNat:Int)<48∨57<(T[k].toNat:Int):=by unfold dig at hdf;simp at hdf;omega
      clear hd;by_cases hp:T[k]=46
      ·have hpb:((T[k].toNat:Int) == 46)=true:=by rw [hp];rfl
       have hp46:(T[k].toNat:Int)=46:=by rw [hp];rfl
       by_cases hpt:pt<0
       ·have HN:Hid (Sat V x∧PI T.data.toList (k+1) k V):=⟨HS.out.1,HS.out.2.point hpt (by simpa using hk) (by have:=ht.out;rw [hp]at this;exact this)⟩
        clear hp hnd hdf;go_wp2_with fail
        go_roundw
        case rel=>exact ⟨k+1,V,k,d0,d1,d2,d3,d4,d5,x,by omega,by go_num,rfl,by omega,by omega,J,DG.out,HN⟩
        case measure=>simp [intOf];omega
       ·have hbad:=hid (HS.out.2.bad ng ht.out hdf (.inr (by omega)))
        clear hp hnd hdf;go_wp2_with fail
        go_ret2
        exact ⟨RP.no (HR.out.symm.trans hbad.out),J.q⟩
      ·have hpb:((T[k].toNat:Int) == 46)=false:=by
        rw [beq_eq_false_iff_ne];intro h
        apply hp
        apply UInt8.toNat_inj.1
        show T[k].toNat=46
        omega
       have hbad:=hid (HS.out.2.bad ng ht.out hdf (.inl hp));clear hp hdf
       rcases hnd with hnd|hnd
       ·go_wp2_with fail
        go_ret2
        exact ⟨RP.no (HR.out.symm.trans hbad.out),J.q⟩
       ·have hge:¬ (T[k].toNat:Int)<48:=by omega
        go_wp2_with fail
        go_ret2
        exact ⟨RP.no (HR.out.symm.trans hbad.out),J.q⟩
    ·have hkn:k=T.size:=by omega
     subst hkn;have hlen:T.data.toList.length=T.size:=by simp
     have HSAT:=hid HS.out.1;have HPI:Hid (PI T.data.toList T.data.toList.length pt V):=by show PI _ _ _ _;rw [hlen];exact HS.out.2
     have HX:=hid HS.out.1.lo;clear HS;have c0:=J.r.c0;have c1:=J.r.c1;have c2:=J.r.c2;have c3:=J.r.c3;have c4:=J.r.c4;have c5:=J.r.c5;by_cases hpt:pt<0
     ·have hD:=HPI.out.done1 ng hpt
      rw [hlen]at hD;by_cases hbad:T.size=0∨(1<T.size∧T.data.toList.headD 0=48)
      ·rw [if_pos hbad]at hD
       have HN:=hid (HR.out.symm.trans hD);clear hD
       rcases hbad with h0|⟨h0,h48⟩
       ·have hem:(T.toList == [])=true:=by
         rw [Lib.toList_data,List.eq_nil_of_length_eq_zero (hlen.trans h0)];rfl
        go_wp2_with fail
        go_ret2
        exact ⟨RP.no HN.out,J.q⟩
       ·have hem:(T.toList == [])=false:=by
         rw [Lib.toList_data];cases h:T.data.toList with
         |nil=>rw [h]at hlen;simp at hlen;omega
         |cons c l=>rfl
        have hz:1<(T.size:Int):=by omega
        have h0':T[0]=48:=by rw [←headD_get T (by omega)];exact h48
        have h48':((T[0].toNat:Int) == 48)=true:=by rw [h0'];rfl
        clear h48 h0';go_wp2_with fail
        go_ret2
        exact ⟨RP.no HN.out,J.q⟩
      ·rw [if_neg hbad]at hD
       have HOK:Hid (R=some (sgn ((V*10 ^ (4-0):Nat):Int) ng)):=HR.out.symm.trans hD
       have hp0:0<T.size:=by omega
       have hem:(T.toList == [])=false:=by
        rw [Lib.toList_data];cases h:T.data.toList with
        |nil=>rw [h]at hlen;simp at hlen;omega
        |cons c l=>rfl
       clear hD;by_cases h1:1<(T.size:Int)
       ·have h48:((T[0].toNat:Int) == 48)=false:=by
         rw [beq_eq_false_iff_ne];intro h
         apply hbad
         refine .inr ⟨by omega,?_⟩
         rw [headD_get T (by omega)]
         apply UInt8.toNat_inj.1
         show T[0].toNat=48
         omega
        clear hbad hlen;go_wp2_with fail
        go_loopw [10] (fun i W=>∃ (j:Nat) (f0 f1 f2 f3 f4 f5 y:Int),0≤j∧j≤4∧i=.int .i64 j∧Jp w f0 f1 f2 f3 f4 f5 W∧Dg f0 f1 f2 f3 f4 f5 y∧Hid (y=x*10 ^ (j-0))) (fun i _=>4-(intOf i).toNat)
        case atStart=>exact ⟨0,d0,d1,d2,d3,d4,d5,x,Nat.le_refl _,by omega,rfl,J,DG.out,by show _=_;rw [Nat.sub_self];simp⟩
        case round=>
         obtain ⟨j,f0,f1,f2,f3,f4,f5,y,hj0,hj4,rfl,J2,df,hy⟩:=hrel;have DF:=hid df;clear df;have mc0:=J2.r.c0;have mc1:=J2.r.c1;have mc2:=J2.r.c2;have mc3:=J2.r.c3;have mc4:=J2.r.c4;have mc5:=J2.r.c5;have mf0:=J2.r.f0;have mf1:=J2.r.f1;have mf2:=J2.r.f2;have mf3:=J2.r.f3;have mf4:=J2.r.f4;have mf5:=J2.r.f5;by_cases hj:j<4
         ·have hyb:Hid (0≤y∧y*10<6277101735386680763835789423207666416102355444464034512896):=by
           show _∧_
           have h1:=hy.out;have h2:=HX.out
           rcases (by omega:j-0=0∨j-0=1∨j-0=2∨j-0=3) with e|e|e|e
           all_goals
            rw [e]at h1;simp at h1
            omega
          have HT10:=hid (fun W=>times_any f0 f1 f2 f3 f4 f5 y 10 W DF.out (by omega) (by omega) hyb.out.2)
          have hy2:Hid (y*10=x*10 ^ (j+1-0)):=by
           show _=_
           rw [hy.out,show j+1-0=(j-0)+1 by omega,Int.pow_succ,Int.mul_assoc]
          have hjz:(j:Int)<4:=by omega
          go_wp2_with (go_at_call 97;refine (HT10.out _).mono ?_;rintro e w1 ⟨⟨e0,e1,e2,e3,e4,e5,rfl,de⟩,q1⟩;have J3:=J2.on q1;have ac0:=J3.r.c0;have ac1:=J3.r.c1;have ac2:=J3.r.c2;have ac3:=J3.r.c3;have ac4:=J3.r.c4;have ac5:=J3.r.c5;have af0:=J3.r.f0;have af1:=J3.r.f1;have af2:=J3.r.f2;have af3:=J3.r.f3;have af4:=J3.r.f4;have af5:=J3.r.f5)
          go_roundw
          case rel=>exact ⟨j+1,e0,e1,e2,e3,e4,e5,y*10,by omega,by omega,by go_num,J3.set,de,hy2⟩
          case measure=>simp [intOf];omega
         ·have hj4':j=4:=by omega
          have hjz:¬ (j:Int)<4:=by omega
          have hfin:Hid (keep (sgn y ng)=keep (sgn ((V*10 ^ (4-0):Nat):Int) ng)∧fitB (sgn y ng)=fitB (sgn ((V*10 ^ (4-0):Nat):Int) ng)):=by
           show _∧_
           rw [hy.out,hj4'];exact HSAT.out.same (4-0) ng
          clear hj4';go_wp2_with (go_at_call 100;refine (fix_any f0 f1 f2 f3 f4 f5 y ng _ DF.out).mono ?_;rintro e w7 ⟨rfl,q7⟩)
          go_ret2
          exact ⟨RP.yes HOK.out hfin.out.1 hfin.out.2,J2.q.trans q7⟩
       ·clear hbad hlen
        go_wp2_with fail
        go_loopw [10] (fun i W=>∃ (j:Nat) (f0 f1 f2 f3 f4 f5 y:Int),0≤j∧j≤4∧i=.int .i64 j∧Jp w f0 f1 f2 f3 f4 f5 W∧Dg f0 f1 f2 f3 f4 f5 y∧Hid (y=x*10 ^ (j-0))) (fun i _=>4-(intOf i).toNat)
        case atStart=>exact ⟨0,d0,d1,d2,d3,d4,d5,x,Nat.le_refl _,by omega,rfl,J,DG.out,by show _=_;rw [Nat.sub_self];simp⟩
        case round=>
         obtain ⟨j,f0,f1,f2,f3,f4,f5,y,hj0,hj4,rfl,J2,df,hy⟩:=hrel;have DF:=hid df;clear df;have mc0:=J2.r.c0;have mc1:=J2.r.c1;have mc2:=J2.r.c2;have mc3:=J2.r.c3;have mc4:=J2.r.c4;have mc5:=J2.r.c5;have mf0:=J2.r.f0;have mf1:=J2.r.f1;have mf2:=J2.r.f2;have mf3:=J2.r.f3;have mf4:=J2.r.f4;have mf5:=J2.r.f5;by_cases hj:j<4
         ·have hyb:Hid (0≤y∧y*10<6277101735386680763835789423207666416102355444464034512896):=by
           show _∧_
           have h1:=hy.out;have h2:=HX.out
           rcases (by omega:j-0=0∨j-0=1∨j-0=2∨j-0=3) with e|e|e|e
           all_goals
            rw [e]at h1;simp at h1
            omega
          have HT10:=hid (fun W=>times_any f0 f1 f2 f3 f4 f5 y 10 W DF.out (by omega) (by omega) hyb.out.2)
          have hy2:Hid (y*10=x*10 ^ (j+1-0)):=by
           show _=_
           rw [hy.out,show j+1-0=(j-0)+1 by omega,Int.pow_succ,Int.mul_assoc]
          have hjz:(j:Int)<4:=by omega
          go_wp2_with (go_at_call 97;refine (HT10.out _).mono ?_;rintro e w1 ⟨⟨e0,e1,e2,e3,e4,e5,rfl,de⟩,q1⟩;have J3:=J2.on q1;have ac0:=J3.r.c0;have ac1:=J3.r.c1;have ac2:=J3.r.c2;have ac3:=J3.r.c3;have ac4:=J3.r.c4;have ac5:=J3.r.c5;have af0:=J3.r.f0;have af1:=J3.r.f1;have af2:=J3.r.f2;have af3:=J3.r.f3;have af4:=J3.r.f4;have af5:=J3.r.f5)
          go_roundw
          case rel=>exact ⟨j+1,e0,e1,e2,e3,e4,e5,y*10,by omega,by omega,by go_num,J3.set,de,hy2⟩
          case measure=>simp [intOf];omega
         ·have hj4':j=4:=by omega
          have hjz:¬ (j:Int)<4:=by omega
          have hfin:Hid (keep (sgn y ng)=keep (sgn ((V*10 ^ (4-0):Nat):Int) ng)∧fitB (sgn y ng)=fitB (sgn ((V*10 ^ (4-0):Nat):Int) ng)):=by
           show _∧_
           rw [hy.out,hj4'];exact HSAT.out.same (4-0) ng
          clear hj4';go_wp2_with (go_at_call 100;refine (fix_any f0 f1 f2 f3 f4 f5 y ng _ DF.out).mono ?_;rintro e w7 ⟨rfl,q7⟩)
          go_ret2
          exact ⟨RP.yes HOK.out hfin.out.1 hfin.out.2,J2.q.trans q7⟩
     ·obtain ⟨p,rfl⟩:∃ p:Nat,pt=(p:Int):=⟨pt.toNat,by omega⟩
      obtain ⟨hpl,hD⟩:=HPI.out.done2 ng;rw [hlen]at hD hpl;obtain ⟨rs,ers⟩:∃ rs,T.size-p-1=rs:=⟨_,rfl⟩;rw [ers]at hD;have hrs:(T.size:Int)-(p:Int)-1=(rs:Int):=by omega
      obtain ⟨U,eU⟩:∃ U,T.extract 0 p=U:=⟨_,rfl⟩;have hUs:U.size=p:=by rw [←eU];simp only [ByteArray.size_extract];omega
      by_cases hb1:rs<1∨4<rs
      ·rw [if_pos hb1]at hD
       have HN:=hid (HR.out.symm.trans hD);clear hD
       rcases hb1 with hb|hb
       ·have hbz:(rs:Int)<1:=by omega
        go_wp2_with fail
        go_ret2
        exact ⟨RP.no HN.out,J.q⟩
       ·have hbz:¬ (rs:Int)<1:=by omega
        have hbz2:4<(rs:Int):=by omega
        go_wp2_with fail
        go_ret2
        exact ⟨RP.no HN.out,J.q⟩
      ·rw [if_neg hb1]at hD
       have hbz:¬ (rs:Int)<1:=by omega
       have hbz2:¬ 4<(rs:Int):=by omega
       have hUl:U.data.toList.length=p:=by simpa using hUs
       have hUz:(U.size:Int)=(p:Int):=by omega
       have hU0:∀ h:0<U.size,U[0]=T[0]'(by omega):=fun h=>by
        have e1:=headD_get U h;have e2:=headD_get T (by omega)
        rw [←e1,←e2,←eU,Lib.extract_data,List.drop_zero];exact headD_take _ _ (by omega)
       by_cases hb2:p=0∨(1<p∧T.data.toList.headD 0=48)
       ·rw [if_pos hb2]at hD
        have HN:=hid (HR.out.symm.trans hD);clear hD
        rcases hb2 with hb|⟨hb,h48⟩
        ·have hem:(U.toList == [])=true:=by
          rw [Lib.toList_data,List.eq_nil_of_length_eq_zero (hUl.trans hb)];rfl
         clear hU0 hUl hUs hb1;go_wp2_with fail
         go_ret2
         exact ⟨RP.no HN.out,J.q⟩
        ·have hem:(U.toList == [])=false:=by
          rw [Lib.toList_data];cases h:U.data.toList with
          |nil=>rw [h]at hUl;simp at hUl;omega
          |cons c l=>rfl
         have hz:1<(p:Int):=by omega
         have hu:0<U.size:=by omega
         have h0':U[0]=48:=by rw [hU0 hu,←headD_get T (by omega)];exact h48
         have h48':((U[0].toNat:Int) == 48)=true:=by rw [h0'];rfl
         clear h48 h0' hU0 hUl hUs hb1;go_wp2_with fail
         go_ret2
         exact ⟨RP.no HN.out,J.q⟩
       ·rw [if_neg hb2]at hD
        have HOK:Hid (R=some (sgn ((V*10 ^ (4-rs):Nat):Int) ng)):=HR.out.symm.trans hD
        have hem:(U.toList == [])=false:=by
         rw [Lib.toList_data];cases h:U.data.toList with
         |nil=>rw [h]at hUl;simp at hUl;omega
         |cons c l=>rfl
        have hu:0<U.size:=by omega
        clear hD;by_cases h1:1<(p:Int)
        ·have h48:((U[0].toNat:Int) == 48)=false:=by
          rw [beq_eq_false_iff_ne];intro h
          apply hb2
          refine .inr ⟨by omega,?_⟩
          rw [headD_get T (by omega),←hU0 hu]
          apply UInt8.toNat_inj.1
          show U[0].toNat=48
          omega
         clear hb2 hlen hU0 hUl hUs;go_wp2_with fail
         go_loopw [10] (fun i W=>∃ (j:Nat) (f0 f1 f2 f3 f4 f5 y:Int),rs≤j∧j≤4∧i=.int .i64 j∧Jp w f0 f1 f2 f3 f4 f5 W∧Dg f0 f1 f2 f3 f4 f5 y∧Hid (y=x*10 ^ (j-rs))) (fun i _=>4-(intOf i).toNat)
         case atStart=>exact ⟨rs,d0,d1,d2,d3,d4,d5,x,Nat.le_refl _,by omega,rfl,J,DG.out,by show _=_;rw [Nat.sub_self];simp⟩
         case round=>
          obtain ⟨j,f0,f1,f2,f3,f4,f5,y,hj0,hj4,rfl,J2,df,hy⟩:=hrel;have DF:=hid df;clear df;have mc0:=J2.r.c0;have mc1:=J2.r.c1;have mc2:=J2.r.c2;have mc3:=J2.r.c3;have mc4:=J2.r.c4;have mc5:=J2.r.c5;have mf0:=J2.r.f0;have mf1:=J2.r.f1;have mf2:=J2.r.f2;have mf3:=J2.r.f3;have mf4:=J2.r.f4;have mf5:=J2.r.f5;by_cases hj:j<4
          ·have hyb:Hid (0≤y∧y*10<6277101735386680763835789423207666416102355444464034512896):=by
            show _∧_
            have h1:=hy.out;have h2:=HX.out
            rcases (by omega:j-rs=0∨j-rs=1∨j-rs=2∨j-rs=3) with e|e|e|e
            all_goals
             rw [e]at h1;simp at h1
             omega
           have HT10:=hid (fun W=>times_any f0 f1 f2 f3 f4 f5 y 10 W DF.out (by omega) (by omega) hyb.out.2)
           have hy2:Hid (y*10=x*10 ^ (j+1-rs)):=by
            show _=_
            rw [hy.out,show j+1-rs=(j-rs)+1 by omega,Int.pow_succ,Int.mul_assoc]
           have hjz:(j:Int)<4:=by omega
           go_wp2_with (go_at_call 97;refine (HT10.out _).mono ?_;rintro e w1 ⟨⟨e0,e1,e2,e3,e4,e5,rfl,de⟩,q1⟩;have J3:=J2.on q1;have ac0:=J3.r.c0;have ac1:=J3.r.c1;have ac2:=J3.r.c2;have ac3:=J3.r.c3;have ac4:=J3.r.c4;have ac5:=J3.r.c5;have af0:=J3.r.f0;have af1:=J3.r.f1;have af2:=J3.r.f2;have af3:=J3.r.f3;have af4:=J3.r.f4;have af5:=J3.r.f5)
           go_roundw
           case rel=>exact ⟨j+1,e0,e1,e2,e3,e4,e5,y*10,by omega,by omega,by go_num,J3.set,de,hy2⟩
           case measure=>simp [intOf];omega
          ·have hj4':j=4:=by omega
           have hjz:¬ (j:Int)<4:=by omega
           have hfin:Hid (keep (sgn y ng)=keep (sgn ((V*10 ^ (4-rs):Nat):Int) ng)∧fitB (sgn y ng)=fitB (sgn ((V*10 ^ (4-rs):Nat):Int) ng)):=by
            show _∧_
            rw [hy.out,hj4'];exact HSAT.out.same (4-rs) ng
           clear hj4';go_wp2_with (go_at_call 100;refine (fix_any f0 f1 f2 f3 f4 f5 y ng _ DF.out).mono ?_;rintro e w7 ⟨rfl,q7⟩)
           go_ret2
           exact ⟨RP.yes HOK.out hfin.out.1 hfin.out.2,J2.q.trans q7⟩
        ·clear hb2 hlen hU0 hUl hUs
         go_wp2_with fail
         go_loopw [10] (fun i W=>∃ (j:Nat) (f0 f1 f2 f3 f4 f5 y:Int),rs≤j∧j≤4∧i=.int .i64 j∧Jp w f0 f1 f2 f3 f4 f5 W∧Dg f0 f1 f2 f3 f4 f5 y∧Hid (y=x*10 ^ (j-rs))) (fun i _=>4-(intOf i).toNat)
         case atStart=>exact ⟨rs,d0,d1,d2,d3,d4,d5,x,Nat.le_refl _,by omega,rfl,J,DG.out,by show _=_;rw [Nat.sub_self];simp⟩
         case round=>
          obtain ⟨j,f0,f1,f2,f3,f4,f5,y,hj0,hj4,rfl,J2,df,hy⟩:=hrel;have DF:=hid df;clear df;have mc0:=J2.r.c0;have mc1:=J2.r.c1;have mc2:=J2.r.c2;have mc3:=J2.r.c3;have mc4:=J2.r.c4;have mc5:=J2.r.c5;have mf0:=J2.r.f0;have mf1:=J2.r.f1;have mf2:=J2.r.f2;have mf3:=J2.r.f3;have mf4:=J2.r.f4;have mf5:=J2.r.f5;by_cases hj:j<4
          ·have hyb:Hid (0≤y∧y*10<6277101735386680763835789423207666416102355444464034512896):=by
            show _∧_
            have h1:=hy.out;have h2:=HX.out
            rcases (by omega:j-rs=0∨j-rs=1∨j-rs=2∨j-rs=3) with e|e|e|e
            all_goals
             rw [e]at h1;simp at h1
             omega
           have HT10:=hid (fun W=>times_any f0 f1 f2 f3 f4 f5 y 10 W DF.out (by omega) (by omega) hyb.out.2)
           have hy2:Hid (y*10=x*10 ^ (j+1-rs)):=by
            show _=_
            rw [hy.out,show j+1-rs=(j-rs)+1 by omega,Int.pow_succ,Int.mul_assoc]
           have hjz:(j:Int)<4:=by omega
           go_wp2_with (go_at_call 97;refine (HT10.out _).mono ?_;rintro e w1 ⟨⟨e0,e1,e2,e3,e4,e5,rfl,de⟩,q1⟩;have J3:=J2.on q1;have ac0:=J3.r.c0;have ac1:=J3.r.c1;have ac2:=J3.r.c2;have ac3:=J3.r.c3;have ac4:=J3.r.c4;have ac5:=J3.r.c5;have af0:=J3.r.f0;have af1:=J3.r.f1;have af2:=J3.r.f2;have af3:=J3.r.f3;have af4:=J3.r.f4;have af5:=J3.r.f5)
           go_roundw
           case rel=>exact ⟨j+1,e0,e1,e2,e3,e4,e5,y*10,by omega,by omega,by go_num,J3.set,de,hy2⟩
           case measure=>simp [intOf];omega
          ·have hj4':j=4:=by omega
           have hjz:¬ (j:Int)<4:=by omega
           have hfin:Hid (keep (sgn y ng)=keep (sgn ((V*10 ^ (4-rs):Nat):Int) ng)∧fitB (sgn y ng)=fitB (sgn ((V*10 ^ (4-rs):Nat):Int) ng)):=by
            show _∧_
            rw [hy.out,hj4'];exact HSAT.out.same (4-rs) ng
           clear hj4';go_wp2_with (go_at_call 100;refine (fix_any f0 f1 f2 f3 f4 f5 y ng _ DF.out).mono ?_;rintro e w7 ⟨rfl,q7⟩)
           go_ret2
           exact ⟨RP.yes HOK.out hfin.out.1 hfin.out.2,J2.q.trans q7⟩
end Go.Proofs.YtoikodohcieipaaGreatDoor.V
namespace Go.Proofs.YtoikodohcieipaaGreatDoor.V
open Go.RowKit
set_option linter.unusedVariables false
set_option linter.unusedSimpArgs false
theorem list_head(s:ByteArray)(h:0<s.size):s.data.toList=s[0]::s.data.toList.drop 1:=by
 have h':0<s.data.toList.length:=by simpa using h
 have e:s[0]=s.data.toList[0]'h':=rfl
 rw [e];have:=List.drop_eq_getElem_cons h'
 rw [List.drop_zero]at this;exact this
theorem rparse_any(s:ByteArray)(w:World)(hs:(s.size:Int)≤1000000) :
  Calls Tryz.prog 82 #[.string s] w fun e w'=>RP (parseO s.data.toList) e∧Q w w':=by
 rw [parseO_eq]
 rcases Nat.eq_zero_or_pos s.size with h|h
 ·have e:s.data.toList=[]:=List.eq_nil_of_length_eq_zero (by simpa using h)
  have h1:Lib.hasPrefix s.data.toList [45]=false:=by rw [e];rfl
  have h2:Lib.trimPrefix s.data.toList [45]=s.data.toList:=by unfold Lib.trimPrefix;rw [h1];rfl
  rw [h1,h2];exact rparse_core s s false w hs (.inl ⟨h,rfl,rfl⟩)
 ·by_cases hc:s[0]=45
  ·have h1:Lib.hasPrefix s.data.toList [45]=true:=by
    rw [list_head s h,hc];unfold Lib.hasPrefix
    simp
   have h2:Lib.trimPrefix s.data.toList [45]=(s.extract 1 s.size).data.toList:=by
    unfold Lib.trimPrefix
    rw [h1,Lib.extract_data,List.take_of_length_le (by simp)]
    rfl
   rw [h1,h2];exact rparse_core s (s.extract 1 s.size) true w (by simp only [ByteArray.size_extract];omega) (.inr (.inl ⟨h,hc,rfl,rfl⟩))
  ·have h1:Lib.hasPrefix s.data.toList [45]=false:=by
    rw [list_head s h];unfold Lib.hasPrefix
    rw [List.isPrefixOf_cons_cons,List.isPrefixOf_nil_left,Bool.and_true,beq_eq_false_iff_ne];exact Ne.symm hc
   have h2:Lib.trimPrefix s.data.toList [45]=s.data.toList:=by unfold Lib.trimPrefix;rw [h1];rfl
   rw [h1,h2];exact rparse_core s s false w hs (.inr (.inr ⟨h,hc,rfl,rfl⟩))
end Go.Proofs.YtoikodohcieipaaGreatDoor.V
