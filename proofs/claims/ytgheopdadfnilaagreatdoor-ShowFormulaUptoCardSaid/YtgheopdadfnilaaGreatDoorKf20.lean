/- What the program's reader read. -/
import Derived.Test.YtgheopdadfnilaaGreatDoorKf14
import Derived.Test.YtgheopdadfnilaaGreatDoorKf05
import Derived.Test.YtgheopdadfnilaaGreatDoorKf10
import Derived.Test.YtgheopdadfnilaaGreatDoorKf13
import Derived.Test.YtgheopdadfnilaaGreatDoorKf09
import Derived.Lib.AppendStr
import Derived.Test.YtgheopdadfnilaaGreatDoorKf01
import Derived.Test.YtgheopdadfnilaaGreatDoorKf18
set_option linter.unusedVariables false
set_option linter.unusedSimpArgs false
set_option maxRecDepth 100000
set_option maxHeartbeats 8000000
namespace Go.Proofs.YtgheopdadfnilaaGreatDoor
abbrev Ws:=List (Nat × List UInt8)
def Wds(L:List Wd):Nat→Ws→Prop
 |_,[]=>True
 |i,w::ws=>(i<L.length∧kAt L i=w.1∧tAt L i=w.2)∧Wds L (i+1) ws
theorem Wds.app{L:List Wd}:∀ {i:Nat} {a b:Ws},Wds L i (a++b)→Wds L i a∧Wds L (i+a.length) b
 |i,[],b,h=>⟨trivial,h⟩
 |i,w::a,b,h=>by
  obtain ⟨h1,h2⟩:=h;obtain ⟨h3,h4⟩:=Wds.app (i:=i+1) (a:=a) h2;exact ⟨⟨h1,h3⟩,by rw [List.length_cons,show i+(a.length+1)=i+1+a.length by omega];exact h4⟩
theorem wds_map{L:List Wd}:∀ (r p:List Wd),L=p++r→Wds L p.length (r.map fun w=>(w.k,w.t))
 |[],p,_=>trivial
 |w::r,p,h=>by
  have hl:p.length<L.length:=by rw [h];simp
  have hk:=kAt_get hl;have e:L[p.length]=w:=by simp [h]
  refine ⟨⟨hl,by rw [hk.1,e],by rw [hk.2,e]⟩,?_⟩
  have:=wds_map (L:=L) r (p++[w]) (by rw [h];simp)
  rw [List.length_append]at this;exact this
theorem isW_of{L:List Wd}{i k:Nat}{t:List UInt8}(h:i<L.length∧kAt L i=k∧tAt L i=t)(s:List UInt8):isW L i s=decide (k=6∧t=s):=by
 have hk:=kAt_get h.1;rw [isW_at h.1,←hk.1,←hk.2,h.2.1,h.2.2]
theorem stg_of{L:List Wd}{i:Nat}{t:List UInt8}(h:i<L.length∧kAt L i=6∧tAt L i=t):stg L i=lvl t:=by
 unfold stg
 rw [if_pos h.2.1,h.2.2]
theorem lvl_shut:lvl [41]=0:=by decide
theorem lvl_comma:lvl [44]=0:=by decide
theorem not_colon{o:List UInt8}(h:1≤lvl o):o≠[58]:=by
 intro e
 subst e
 revert h
 decide
def Reads(E:Env)(x:Ex)(ws:Ws):Prop:=∃ f,∀ (L:List Wd) (i:Nat),Wds L i ws→isW L (i+ws.length) [58]=false→ptF.paF E L f i=some (some (x,i+ws.length))
def RdTo(E:Env)(x:Ex)(ws:Ws)(n:Nat):Prop:=∃ f,∀ (L:List Wd) (i lv:Nat),1≤lv→lv≤n→Wds L i ws→isW L (i+ws.length) [58]=false→stg L (i+ws.length)≤n →
 ∀ g r,ptF.plF E L g lv x (i+ws.length)=some r→ptF E L (f+g) lv i=some r
theorem Reads.to{E:Env}{x:Ex}{ws:Ws}(h:Reads E x ws):RdTo E x ws 5:=by
 obtain ⟨f,h⟩:=h;refine ⟨f+1,fun L i lv _ _ hw hc _ g r hg=>?_⟩
 rw [show f+1+g=(f+g)+1 by omega]
 unfold ptF
 rw [paF_le (h L i hw hc) (by omega)]
 simp only [Option.bind_some]
 exact plF_le hg (by omega)
theorem rd_stop{E:Env}{L:List Wd}{lv j:Nat}{x:Ex}(h:stg L j<lv):ptF.plF E L 1 lv x j=some (some (x,j)):=by
 unfold ptF.plF
 rw [if_neg (by omega)]
theorem rdto_bin{E:Env}{o:List UInt8}{a b:Ex}{wa wb:Ws}{na nb:Nat}(ho:1≤lvl o)(ha:RdTo E a wa na)(hna:lvl o≤na)(hb:RdTo E b wb nb)(hnb:lvl o+1≤nb):RdTo E (binE o a b) (wa++(6,o)::wb) (lvl o):=by
 obtain ⟨fa,ha⟩:=ha;obtain ⟨fb,hb⟩:=hb;refine ⟨fa+fb+2,fun L i lv h1 hl hw hc hs g r hg=>?_⟩
 obtain ⟨hwa,h2,hwb⟩:=hw.app;have hlen:i+(wa++(6,o)::wb).length=i+wa.length+1+wb.length:=by simp only [List.length_append,List.length_cons];omega
 rw [hlen]at hc hs hg;have s2:=stg_of h2;simp only at s2
 have q1:=hb L (i+wa.length+1) (lvl o+1) (by omega) hnb hwb hc (by omega) 1 _ (rd_stop (E:=E) (x:=b) (show stg L (i+wa.length+1+wb.length)<lvl o+1 by omega))
 have q2:ptF.plF E L (fb+1+g+1) lv a (i+wa.length)=some r:=by
  unfold ptF.plF
  rw [s2,if_pos hl,ptF_le q1 (by omega)]
  simp only [Option.bind_some]
  rw [h2.2.2];exact plF_le hg (by omega)
 have q3:=ha L i lv h1 (by omega) hwa (by rw [isW_of h2];simp [not_colon ho]) (by rw [s2];exact hna) _ _ q2
 rw [show fa+fb+2+g=fa+(fb+1+g+1) by omega]
 exact q3
theorem reads_brk{E:Env}{x:Ex}{ws:Ws}{n:Nat}(h:RdTo E x ws n)(hn:1≤n):Reads E x ((6,[40])::(ws++[(6,[41])])):=by
 obtain ⟨f,h⟩:=h;refine ⟨f+3,fun L i ha hc=>?_⟩
 obtain ⟨h1,h2⟩:=ha;obtain ⟨h2,h3,-⟩:=h2.app;have s3:=stg_of h3;simp only at s3
 rw [lvl_shut]at s3;have q:=h L (i+1) 1 (Nat.le_refl _) hn h2 (by rw [isW_of h3];simp) (by omega) 1 _ (rd_stop (E:=E) (x:=x) (show stg L (i+1+ws.length)<1 by omega))
 unfold ptF.paF
 rw [isW_of h1,if_neg (by simp)]
 unfold ptF.pfF
 rw [isW_of h1,if_pos (by simp),ptF_le q (Nat.le_refl _)]
 simp only [Option.bind_some]
 rw [isW_of h3,if_pos (by simp)]
 simp only [List.length_cons,List.length_append,List.length_nil]
 rw [show i+1+ws.length+1=i+(ws.length+(0+1)+1) by omega]
theorem reads_neg{E:Env}{x:Ex}{ws:Ws}(h:Reads E x ws):Reads E (negE x) ((6,[45])::ws):=by
 obtain ⟨f,h⟩:=h;refine ⟨f+1,fun L i ha hc=>?_⟩
 obtain ⟨h1,h2⟩:=ha;rw [List.length_cons]at hc ⊢;unfold ptF.paF
 rw [isW_of h1,if_pos (by simp),h L (i+1) h2 (by rw [←hc];congr 1;omega)]
 simp only [Option.bind_some]
 rw [show i+1+ws.length=i+(ws.length+1) by omega]
theorem reads_one{E:Env}{x:Ex}{k:Nat}{t:List UInt8}(h6:k≠6)(h4:k≠4)(h:∀ (L:List Wd) (i:Nat),(i<L.length∧kAt L i=k∧tAt L i=t)→isW L (i+1) [58]=false→poneF E L i=some (x,i+1)):Reads E x [(k,t)]:=by
 refine ⟨2,fun L i ha hc=>?_⟩
 obtain ⟨h1,-⟩:=ha;simp only [List.length_cons,List.length_nil,Nat.zero_add]at hc ⊢
 unfold ptF.paF
 rw [isW_of h1,if_neg (by simp [h6])]
 unfold ptF.pfF
 rw [isW_of h1,if_neg (by simp [h6]),if_neg (by rw [h1.2.1];exact h4),h L i h1 hc]
theorem reads_num{E:Env}{t:List UInt8}(h:E.nok t=true):Reads E (numE (E.num t)) [(1,t)]:=
 reads_one (by decide) (by decide) fun L i h1 _=>by unfold poneF;rw [if_pos h1.2.1,h1.2.2,h,if_pos rfl]
theorem reads_text{E:Env}(t:List UInt8):Reads E (textE t) [(2,t)]:=
 reads_one (by decide) (by decide) fun L i h1 _=>by unfold poneF;rw [if_neg (by rw [h1.2.1];decide),if_pos h1.2.1,h1.2.2]
theorem reads_err{E:Env}(t:List UInt8):Reads E (errE (E.err t)) [(5,t)]:=
 reads_one (by decide) (by decide) fun L i h1 _=>by unfold poneF;rw [if_neg (by rw [h1.2.1];decide),if_neg (by rw [h1.2.1];decide),if_pos h1.2.1,h1.2.2]
theorem reads_ref{E:Env}{t:List UInt8}(h:E.rok t=true):Reads E (refE (E.ref t)) [(3,t)]:=
 reads_one (by decide) (by decide) fun L i h1 hc=>by
  unfold poneF
  rw [if_neg (by rw [h1.2.1];decide),if_neg (by rw [h1.2.1];decide),if_neg (by rw [h1.2.1];decide),if_pos h1.2.1,h1.2.2,h,if_neg (by simp),hc,if_neg (by simp)]
theorem reads_range{E:Env}{t u:List UInt8}(h:E.rok t=true)(h':E.rok u=true)(h0:(E.ref u).1=[]):Reads E (rangeE (E.ref t) (E.ref u)) [(3,t),(6,[58]),(3,u)]:=by
 refine ⟨2,fun L i ha hc=>?_⟩
 obtain ⟨h1,h2,h3,-⟩:=ha;simp only [List.length_cons,List.length_nil,Nat.zero_add]at hc ⊢
 unfold ptF.paF
 rw [isW_of h1,if_neg (by simp)]
 unfold ptF.pfF
 rw [isW_of h1,if_neg (by simp),if_neg (by rw [h1.2.1];simp)]
 unfold poneF
 rw [if_neg (by rw [h1.2.1];simp),if_neg (by rw [h1.2.1];simp),if_neg (by rw [h1.2.1];simp),if_pos h1.2.1,h1.2.2,h,if_neg (by simp),isW_of h2,if_pos (by simp)]
 have e3:kAt L (i+2)=3∧tAt L (i+2)=u:=⟨h3.2.1,h3.2.2⟩
 rw [e3.2,if_pos ⟨e3.1,h',h0⟩]
theorem reads_bool{E:Env}{t:List UInt8}(h:t=truW∨t=flsW):Reads E (boolE (decide (t=truW))) [(4,t)]:=by
 refine ⟨2,fun L i ha hc=>?_⟩
 obtain ⟨h1,-⟩:=ha;simp only [List.length_cons,List.length_nil,Nat.zero_add]at hc ⊢
 unfold ptF.paF
 rw [isW_of h1,if_neg (by simp)]
 unfold ptF.pfF
 rw [isW_of h1,if_neg (by simp),if_pos h1.2.1,h1.2.2,if_pos h]
def argW:List Ws→Ws
 |[]=>[]
 |[w]=>w
 |w::v::r=>w++(6,[44])::argW (v::r)
def Hw(ws:Ws):Prop:=∃ k t r,ws=(k,t)::r∧¬ (k=6∧t=[41])
theorem reads_args{E:Env}(t:List UInt8):∀ (ps:List (Ex × Ws)),ps≠[]→(∀ p∈ps,∃ n,1≤n∧RdTo E p.1 p.2 n)→∃ f,∀ (acc:List Ex) (L:List Wd) (i:Nat),acc.length+ps.length≤30→Wds L i (argW (ps.map (·.2))++[(6,[41])]) →
  ptF.pgF E L f t acc i=some (some (callE t (acc++ps.map (·.1)),i+(argW (ps.map (·.2))).length+1)):=by
 intro ps
 induction ps with
 |nil=>intro h;exact absurd rfl h
 |cons p ps ih=>
  intro _ hr
  obtain ⟨n,hn,f,hp⟩:=hr p (by simp)
  cases ps with
  |nil=>
   refine ⟨f+2,fun acc L i hl hw=>?_⟩
   simp only [List.map_cons,List.map_nil,argW,List.length_cons,List.length_nil]at hw hl ⊢
   obtain ⟨h1,h2,-⟩:=hw.app;have s2:=stg_of h2;simp only at s2
   rw [lvl_shut]at s2;have q:=hp L i 1 (Nat.le_refl _) hn h1 (by rw [isW_of h2];simp) (by omega) 1 _ (rd_stop (E:=E) (x:=p.1) (show stg L (i+p.2.length)<1 by omega))
   unfold ptF.pgF
   rw [if_pos (by omega),ptF_le q (Nat.le_refl _)]
   simp only [Option.bind_some]
   rw [isW_of h2,if_neg (by simp),isW_of h2,if_pos (by simp)]
  |cons q ps=>
   obtain ⟨g,hg⟩:=ih (by simp) (fun x hx=>hr x (List.mem_cons_of_mem _ hx))
   refine ⟨f+g+2,fun acc L i hl hw=>?_⟩
   simp only [List.map_cons,argW,List.length_cons]at hw hl ⊢
   rw [List.append_assoc]at hw;obtain ⟨h1,h2,h3⟩:=hw.app;have s2:=stg_of h2;simp only at s2
   rw [lvl_comma]at s2;have q1:=hp L i 1 (Nat.le_refl _) hn h1 (by rw [isW_of h2];simp) (by omega) 1 _ (rd_stop (E:=E) (x:=p.1) (show stg L (i+p.2.length)<1 by omega))
   have q2:=hg (acc++[p.1]) L (i+p.2.length+1) (by simp only [List.length_append,List.length_cons,List.length_nil];omega) h3
   unfold ptF.pgF
   rw [if_pos (by omega),ptF_le q1 (by omega)]
   simp only [Option.bind_some]
   rw [isW_of h2,if_pos (by simp),pgF_le q2 (by omega)]
   simp only [List.map_cons,List.append_assoc,List.cons_append,List.nil_append,List.length_append,List.length_cons]
   congr 4
   omega
theorem reads_call0{E:Env}{t:List UInt8}(ht:¬ (t=truW∨t=flsW))(hn:E.nam t=true):Reads E (callE t []) [(4,t),(6,[40]),(6,[41])]:=by
 refine ⟨2,fun L i ha hc=>?_⟩
 obtain ⟨h1,h2,h3,-⟩:=ha;simp only [List.length_cons,List.length_nil,Nat.zero_add]at hc ⊢
 unfold ptF.paF
 rw [isW_of h1,if_neg (by simp)]
 unfold ptF.pfF
 rw [isW_of h1,if_neg (by simp),if_pos h1.2.1,h1.2.2,if_neg ht,if_pos ⟨hn,by rw [isW_of h2];simp⟩]
 have e3:=isW_of h3 [41];rw [show i+1+1=i+2 from rfl]at e3
 rw [e3,if_pos (by simp)]
theorem reads_call{E:Env}{t:List UInt8}(ht:¬ (t=truW∨t=flsW))(hn:E.nam t=true)(ps:List (Ex × Ws))(h0:ps≠[])(hl:ps.length≤30)(hh:Hw (argW (ps.map (·.2))))(hr:∀ p∈ps,∃ n,1≤n∧RdTo E p.1 p.2 n) :
  Reads E (callE t (ps.map (·.1))) ((4,t)::(6,[40])::(argW (ps.map (·.2))++[(6,[41])])):=by
 obtain ⟨f,h⟩:=reads_args t ps h0 hr;refine ⟨f+2,fun L i ha hc=>?_⟩
 obtain ⟨h1,h2,h3⟩:=ha;have key:=h [] L (i+1+1) (by simpa using hl) h3
 obtain ⟨k,u,r,er,hku⟩:=hh;have h4:isW L (i+2) [41]=false:=by
  rw [er]at h3;obtain ⟨h4,-⟩:=h3;have:=isW_of h4 [41]
  simp only at this
  rw [show i+1+1=i+2 from rfl]at this
  rw [this];exact decide_eq_false hku
 unfold ptF.paF
 rw [isW_of h1,if_neg (by simp)]
 unfold ptF.pfF
 rw [isW_of h1,if_neg (by simp),if_pos h1.2.1,h1.2.2,if_neg ht,if_pos ⟨hn,by rw [isW_of h2];simp⟩,h4,if_neg (by simp)]
 rw [show i+1+1=i+2 from rfl]at key
 rw [key];simp only [List.nil_append,List.length_cons,List.length_append,List.length_nil]
 rw [show i+2+(argW (ps.map (·.2))).length+1=i+((argW (ps.map (·.2))).length+(0+1)+1+1) by omega]
end Go.Proofs.YtgheopdadfnilaaGreatDoor
namespace Go.Proofs.YtgheopdadfnilaaGreatDoor
open Go
theorem numF_all{l:List UInt8}{m:Nat}(h:numF l m=true):allD l=true:=by
 unfold numF at h
 simp only [Bool.and_eq_true]at h
 exact h.1.2
theorem id_no33{l:List UInt8}(h:idB l=true):(33:UInt8) ∉ l:=by
 unfold idB at h
 have h':=of_decide_eq_true h;unfold ownK at h'
 split at h'
 ·rename_i hp
  have e1:l=99::Lib.trimPrefix l [99]:=by
   match l,hp with
   |[],hp=>unfold Lib.hasPrefix at hp;simp at hp
   |c::l,hp=>
    have hc:c=99:=by
     have h2:=hp;unfold Lib.hasPrefix at h2
     simp at h2
     exact h2.symm
    unfold Lib.trimPrefix
    rw [if_pos hp,hc]
    rfl
  generalize Lib.trimPrefix l [99]=t at *
  rcases cut_any 110 t with ⟨a,b,rfl,hn⟩|hn
  ·rw [cut_at 110 a b hn]at h'
   unfold ownP at h'
   cases ha:numF a 15 with
   |false=>rw [ha]at h';simp at h'
   |true=>
    cases hb:numF b 999999 with
    |false=>rw [ha,hb]at h';simp at h'
    |true=>
     have da:=numF_all ha;have db:=numF_all hb;rw [e1];intro hm
     simp only [List.mem_cons,List.mem_append]at hm
     have e33:(33:UInt8).toNat=33:=rfl
     rcases hm with hm|hm|hm|hm
     ·exact absurd hm (by decide)
     ·have:=allD_mem da hm;omega
     ·exact absurd hm (by decide)
     ·have:=allD_mem db hm;omega
  ·rw [cut_free 110 t hn]at h'
   unfold ownP at h'
   simp at h'
 ·omega
theorem tw_app(a r:List UInt8)(ha:allL a=true)(hr:∀ c x,r=c::x→let1 c=false):(a++r).takeWhile let1=a∧(a++r).dropWhile let1=r:=by
 match r,hr with
 |[],_=>
  rw [List.append_nil,←take_lead,←drop_lead,lead_all a ha,List.take_length,List.drop_length];exact ⟨rfl,rfl⟩
 |c::r,hr=>
  rw [←take_lead,←drop_lead,lead_at a r c ha (hr c r rfl)];exact ⟨by rw [List.take_left],by rw [List.drop_left]⟩
theorem no33_L{l:List UInt8}(h:allL l=true):(33:UInt8) ∉ l:=fun hm=>by
 have:=allL_mem h hm
 have e:(33:UInt8).toNat=33:=rfl
 omega
theorem no33_D{l:List UInt8}(h:allD l=true):(33:UInt8) ∉ l:=fun hm=>by
 have:=allD_mem h hm
 have e:(33:UInt8).toNat=33:=rfl
 omega
theorem no33_S(b:Bool):(33:UInt8) ∉ sgS b:=by cases b <;> decide
theorem hp_sg(b:Bool)(r:List UInt8)(hr:∀ c x,r=c::x→c≠36):Lib.hasPrefix (sgS b++r) [36]=b∧Lib.trimPrefix (sgS b++r) [36]=r:=by
 cases b
 ·have e:sgS false++r=r:=rfl
  rw [e];have hp:Lib.hasPrefix r [36]=false:=by
   unfold Lib.hasPrefix
   match r,hr with
   |[],_=>rfl
   |c::r,hr=>
    have h36:=hr c r rfl;show ((36:UInt8) == c&&List.isPrefixOf [] r)=false
    rw [beq_eq_false_iff_ne.2 (Ne.symm h36)]
    rfl
  refine ⟨hp,?_⟩
  unfold Lib.trimPrefix
  rw [hp]
  rfl
 ·have e:sgS true++r=36::r:=rfl
  rw [e];have hp:Lib.hasPrefix (36::r) [36]=true:=by unfold Lib.hasPrefix;simp
  refine ⟨hp,?_⟩
  unfold Lib.trimPrefix
  rw [hp]
  rfl
theorem dec_cons(u:Nat):∃ c x,Lib.decDigits u=c::x∧48≤c.toNat∧c.toNat≤57:=by
 have h1:=dec_ne u;have h2:=dec_all u
 match e:Lib.decDigits u with
 |[]=>exact absurd e h1
 |c::x=>
  rw [e]at h2;exact ⟨c,x,rfl,allD_mem h2 (by simp)⟩
theorem nm_cons(u:Nat)(h:0<u):∃ c x,nmL u=c::x∧65≤c.toNat∧c.toNat≤90:=by
 have h1:=nm_ne u h;have h2:=nm_all u
 match e:nmL u with
 |[]=>exact absurd e h1
 |c::x=>
  rw [e]at h2;exact ⟨c,x,rfl,allL_mem h2 (by simp)⟩
theorem tail_read(sh:List UInt8)(row col:Int)(ra ca:Bool)(r0:0≤row)(r1:row<2199023255552)(c0:0≤col)(c1:col<2199023255552) :
  tailF (sgS ca++(cnL col++(sgS ra++Lib.decDigits (row+1).toNat)))=true∧tailT sh (sgS ca++(cnL col++(sgS ra++Lib.decDigits (row+1).toNat)))=(sh,row,col,ra,ca):=by
 have ecn:cnL col=nmL (col+1).toNat:=by unfold cnL;rw [if_pos ⟨c0,c1⟩]
 rw [ecn];obtain ⟨d,dx,ed,d0,d1⟩:=dec_cons (row+1).toNat;obtain ⟨n,nx,en,n0,n1⟩:=nm_cons (col+1).toNat (by omega)
 have a1:=hp_sg ca (nmL (col+1).toNat++(sgS ra++Lib.decDigits (row+1).toNat)) (by
  intro c x e
  rw [en,List.cons_append]at e;have e2:=(List.cons.inj e).1;rw [←e2];intro h
  rw [h]at n0;exact absurd n0 (by decide))
 have a3:=hp_sg ra (Lib.decDigits (row+1).toNat) (by
  intro c x e
  rw [ed]at e;have e2:=(List.cons.inj e).1;rw [←e2];intro h
  rw [h]at d0;exact absurd d0 (by decide))
 have a2:=tw_app (nmL (col+1).toNat) (sgS ra++Lib.decDigits (row+1).toNat) (nm_all _) (by
  intro c x e
  cases ra
  ·have e':Lib.decDigits (row+1).toNat=c::x:=e
   rw [ed]at e';have e2:=(List.cons.inj e').1;rw [←e2];unfold let1
   simp
   omega
  ·have e':36::Lib.decDigits (row+1).toNat=c::x:=e
   have e2:=(List.cons.inj e').1;rw [←e2]
   decide)
 unfold tailF tailT
 rw [a1.1,a1.2,a2.1,a2.2,a3.1,a3.2,nm_colF _ (by omega) (by omega),dec_numF _ _ (by omega) (by omega),dec_val,nm_val,decide_eq_true (by omega)]
 refine ⟨rfl,?_⟩
 have x1:(((row+1).toNat:Nat):Int)-1=row:=by omega
 have x2:(((col+1).toNat:Nat):Int)-1=col:=by omega
 rw [x1,x2]
theorem cn_all(n:Int):allL (cnL n)=true:=by
 unfold cnL
 split
 ·exact nm_all _
 ·rfl
theorem read_yes(sh:List UInt8)(row col:Int)(ra ca:Bool)(h:mayR sh row col=true) :
  refF (prR sh row col ra ca)=true∧refT (prR sh row col ra ca)=(sh,row,col,ra,ca):=by
 have h':=h;unfold mayR at h'
 simp only [Bool.and_eq_true,decide_eq_true_eq]at h'
 obtain ⟨hi,⟨r0,r1⟩,c0,c1⟩:=h';have e:prR sh row col ra ca=shX sh++(sgS ca++(cnL col++(sgS ra++Lib.decDigits (row+1).toNat))):=by
  unfold prR prL
  rw [h];simp only [if_true,List.append_assoc]
 rw [e];have ht:=tail_read sh row col ra ca r0 r1 c0 c1;have hno:(33:UInt8) ∉ sgS ca++(cnL col++(sgS ra++Lib.decDigits (row+1).toNat)):=by
  simp only [List.mem_append]
  intro hm
  rcases hm with hm|hm|hm|hm
  ·exact no33_S ca hm
  ·exact no33_L (cn_all col) hm
  ·exact no33_S ra hm
  ·exact no33_D (dec_all _) hm
 generalize sgS ca++(cnL col++(sgS ra++Lib.decDigits (row+1).toNat))=c at *;cases he:sh.isEmpty
 ·have hi':idB sh=true:=by rw [he]at hi;simpa using hi
  have ex:shX sh++c=sh++33::c:=by unfold shX;rw [he];simp
  rw [ex];obtain ⟨f1,f2⟩:=ref_other (cut_at 33 sh c (id_no33 hi'));rw [f1,f2,hi',ht.1];exact ⟨rfl,ht.2⟩
 ·have hs:sh=[]:=by cases sh;rfl;cases he
  subst hs;have ex:shX []++c=c:=rfl
  rw [ex];obtain ⟨f1,f2⟩:=ref_free (cut_free 33 c hno);rw [f1,f2,ht.1];exact ⟨rfl,ht.2⟩
end Go.Proofs.YtgheopdadfnilaaGreatDoor
namespace Go.Proofs.YtgheopdadfnilaaGreatDoor
open Go.RowKit
def scanL(l:List UInt8):Option (List Wd) × Nat:=if 1000<l.length then (none,0) else
 match scanF l 0 [] with
 |(some L,n)=>(some (L++[⟨7,[],l.length⟩]),0)
 |(none,n)=>(none,n)
theorem scanL_long{l:List UInt8}(h:1000<l.length):scanL l=(none,0):=by unfold scanL;rw [if_pos h]
theorem scanL_yes{l:List UInt8}{L:List Wd}{n:Nat}(h:¬ 1000<l.length)(e:scanF l 0 []=(some L,n)):scanL l=(some (L++[⟨7,[],l.length⟩]),0):=by unfold scanL;rw [if_neg h,e]
theorem scanL_no{l:List UInt8}{n:Nat}(h:¬ 1000<l.length)(e:scanF l 0 []=(none,n)):scanL l=(none,n):=by unfold scanL;rw [if_neg h,e]
def ScanRet(o:Option (List Wd) × Nat)(e:Ending)(W:World):Prop:=
 match o with
 |(some L,n)=>∃ v,e=.returned (.tuple #[v,.int .i64 0,.bool true])∧Sl wd 3 W v L
 |(none,n)=>e=.returned (.tuple #[.slice none 0 0,.int .i64 (n:Int),.bool false])
theorem ScanRet.no{o:Option (List Wd) × Nat}{n:Nat}{W:World}{k:Int}(h:o=(none,n))(hk:k=(n:Int)):ScanRet o (.returned (.tuple #[.slice none 0 0,.int .i64 k,.bool false])) W:=by
 subst h;subst hk
 rfl
theorem ScanRet.yes{o:Option (List Wd) × Nat}{L:List Wd}{W:World}{v:Value}(h:o=(some L,0))(hv:Sl wd 3 W v L):ScanRet o (.returned (.tuple #[v,.int .i64 0,.bool true])) W:=by
 subst h;exact ⟨v,rfl,hv⟩
theorem drop_head(s:ByteArray)(k:Nat)(h:k<s.size):s.data.toList.drop k≠[]:=by
 rw [drop_cons s k h];simp
theorem scan_any(s:ByteArray)(w:World)(hw:Std w)(hs:s.size≤100000) :
  Calls Tryz.prog 107 #[.string s] w fun e w'=>ScanRet (scanL s.data.toList) e w'∧Q w w':=by
 by_cases hlong:1000<s.size
 ·have HR:=hid (scanL_long (l:=s.data.toList) (by simpa using hlong))
  generalize scanL s.data.toList=o at HR ⊢;go_enter Tryz.func107,Tryz.ntmps107
  go_wp2
  go_ret3
  exact ⟨ScanRet.no HR.out rfl,Q.refl _⟩
 ·obtain ⟨i0,hi⟩:=inf_of info31
  have HI:=hid hi;have HY:Hid (∀ L n,scanF s.data.toList 0 []=(some L,n)→scanL s.data.toList=(some (L++[⟨7,[],s.size⟩]),0)):=hid (fun L n h=>by rw [scanL_yes (by simpa using hlong) h];simp)
  have HN:Hid (∀ n,scanF s.data.toList 0 []=(none,n)→scanL s.data.toList=(none,n)):=hid (fun n h=>scanL_no (by simpa using hlong) h)
  obtain ⟨R,hR⟩:∃ R,scanF s.data.toList 0 []=R:=⟨_,rfl⟩;rw [hR]at HY HN;have HR:=hid hR;have HW:=hid hw;generalize scanL s.data.toList=o at HY HN ⊢;have HP0:=hid (pass_any s 0 w (Nat.zero_le _) (by omega))
  have hb0:=blk_le s.data.toList;rw [len_data]at hb0;have HR0:=hR;rw [scanF_blk]at HR0;rw [List.drop_zero,Nat.zero_add]at HP0;rw [Nat.zero_add]at HR0;have hd0:=head_blk s.data.toList;rw [len_data]at hd0;generalize blk s.data.toList=b0 at HP0 hb0 HR0 hd0;have HR0:=hid HR0;have HD0:=hid hd0;clear hR hi hw hd0;go_enter Tryz.func107,Tryz.ntmps107
  go_wp2_with (go_at_call 140;refine HP0.out.mono ?_;rintro e w1 ⟨rfl,h1⟩;replace h1:=h1.symm;subst h1)
  go_loopw [5,6] (fun v x W=>∃ (k:Nat) (L:List Wd),k≤s.size∧x=.int .i64 (k:Int)∧L.length≤k∧Own wd 141 3 w.heap.size W v L∧Q w W∧Hid (scanF (s.data.toList.drop k) k L=R)∧Hid (k<s.size→(s.data.toList.drop k).headD 0≠32)) (fun _ x _=>s.size-(intOf x).toNat)
  case atStart=>exact ⟨b0,[],hb0,rfl,by simp,own_nil w,Q.refl _,HR0,HD0⟩
  case round=>
   obtain ⟨k,L,hk,rfl,hL,hO,hQ,hr,hh⟩:=hrel;have HO:=hid hO;have HQ:=hid hQ;clear hO hQ;by_cases hlt:k<s.size
   ·obtain ⟨T,eT,lT,zT⟩:=drop_letters s k
    have HF:=hid (first_any T wr (HW.out.on HQ.out) (by omega) (by omega))
    have hne:=drop_head s k hlt;have h32:=hh.out hlt;have hwl:=word_len (s.data.toList.drop k);rw [List.length_drop,len_data]at hwl;rw [lT]at HF;have hr2:=hr.out;have hbad:=fun h=>scanF_bad k L hne h32 h
    have hword:=fun h=>scanF_word k L hne h32 h
    rw [hr2]at hbad hword;generalize wordF (s.data.toList.drop k)=q at HF hbad hword hwl;obtain ⟨a,l,n⟩:=q;simp only at hbad hword hwl
    unfold wv at HF
    simp only at HF
    clear hr2 hne h32 hr hh lT;by_cases hn:n=0
    ·subst hn
     have HB:=hid (HN.out k (hbad rfl));clear hbad hword;go_wp2_with (go_at_call 141;refine HF.out.mono ?_;rintro e w1 ⟨rfl,q1⟩;have Q1:=hid q1;clear q1)
     go_ret3
     exact ⟨ScanRet.no HB.out rfl,HQ.out.trans Q1.out⟩
    ·have hn':((n:Int) == 0)=false:=by rw [beq_eq_false_iff_ne];omega
     have hw2:=hword hn;rw [List.drop_drop,scanF_blk,List.drop_drop]at hw2;have HP:=hid (fun W=>pass_any s (k+n) W (by omega) (by omega))
     have hb:=blk_le (s.data.toList.drop (k+n));rw [List.length_drop,len_data]at hb;have hd2:=head_blk (s.data.toList.drop (k+n));rw [List.length_drop,len_data,List.drop_drop]at hd2;generalize blk (s.data.toList.drop (k+n))=bb at HP hb hw2 hd2;have HW2:=hid hw2.symm;have HD2:Hid (k+n+bb<s.size→(s.data.toList.drop (k+n+bb)).headD 0≠32):=hid (fun h=>hd2 (by omega))
     have HP2:Hid (∀ W,Calls Tryz.prog 140 #[.string s,.int .i64 ((k:Int)+(n:Int))] W fun e w'=>e=.returned (.int .i64 ((k+n+bb:Nat):Int))∧w'=W):=HP
     clear hbad hword hw2 HP hd2;go_wp2_with (first|(go_at_call 141;refine HF.out.mono ?_;rintro e w1 ⟨rfl,q1⟩;have HO1:=hid (HO.out.on q1);have HQ1:=hid (HQ.out.trans q1);clear q1)|(at_builtin;refine wpList_append_own _ rfl _ _ 134 rfl w.heap.size 141 i0 (.agg #[.int .i64 0,.string ⟨#[]⟩,.int .i64 0]) 3 32 Tryz.underlying134 HI.out.1 HI.out.2.1 HI.out.2.2.1 HI.out.2.2.2 rfl (by decide) _ _ _ rfl (HO1.out.alloc _) _ 1 1 [.int .i64 (a:Int),.string ⟨l.toArray⟩,.int .i64 (k:Int)] rfl rfl (news_at _ [.int .i64 (a:Int),.string ⟨l.toArray⟩,.int .i64 (k:Int)] 141 _ (by simp)) (wd_one ⟨a,l,k⟩) (by unfold maxLen;omega) (by omega) (by have:=HQ1.out.size;simp;omega) ?_))
     intro v3 w3 hown' hgrow _
     have HO3:=hid (own_snoc' (enc:=wd) (x:=⟨a,l,k⟩) hown' rfl);have HQ3:Hid (Q w w3):=Below.grown (HQ1.out.alloc _) hgrow (by have:=HQ1.out.size;simp;omega) (HO1.out.blk)
     clear hown' hgrow HO1 HQ1 HO HQ;go_wp2_with (go_at_call 140;refine (HP2.out _).mono ?_;rintro e w1 ⟨rfl,h1⟩;replace h1:=h1.symm;subst h1)
     go_roundw
     case rel=>exact ⟨k+n+bb,_,by omega,rfl,by simp;omega,HO3.out,HQ3.out,HW2,HD2⟩
     case measure=>simp [intOf];omega
   ·have hr2:=hr.out
    rw [List.drop_of_length_le (by simp;omega),scanF_nil]at hr2
    have HB:=hid (HY.out L 0 hr2.symm);clear hr2 hr hh;go_wp2_with (at_builtin;refine wpList_append_own _ rfl _ _ 134 rfl w.heap.size 141 i0 (.agg #[.int .i64 0,.string ⟨#[]⟩,.int .i64 0]) 3 32 Tryz.underlying134 HI.out.1 HI.out.2.1 HI.out.2.2.1 HI.out.2.2.2 rfl (by decide) _ _ _ rfl (HO.out.alloc _) _ 1 1 [.int .i64 7,.string ⟨#[]⟩,.int .i64 (s.size:Int)] rfl rfl (news_at _ [.int .i64 7,.string ⟨#[]⟩,.int .i64 (s.size:Int)] 141 _ (by simp)) (wd_one ⟨7,[],s.size⟩) (by unfold maxLen;omega) (by omega) (by have:=HQ.out.size;simp;omega) ?_)
    intro v3 w3 hown' hgrow _
    have HO3:=hid (own_snoc' (enc:=wd) (x:=⟨7,[],s.size⟩) hown' rfl);have HQ3:Hid (Q w w3):=Below.grown (HQ.out.alloc _) hgrow (by have:=HQ.out.size;simp;omega) (HO.out.blk)
    clear hown' hgrow HO HQ;go_wp2_with fail
    go_ret3
    exact ⟨ScanRet.yes HB.out (HO3.out.sl wd_len (by decide)),HQ3.out⟩
def ScanTo(l:List UInt8)(S:Ws):Prop:=∀ a acc,∃ ws:List Wd,scanF l a acc=(some (acc++ws),0)∧ws.map (fun w=>(w.k,w.t))=S
theorem scan_nil:ScanTo [] []:=fun a acc=>⟨[],by rw [scanF_nil,List.append_nil],rfl⟩
theorem scan_word{p r:List UInt8}{k:Nat}{t:List UInt8}{S:Ws}(h:wordF (p++r)=(k,t,p.length))(hp:0<p.length)(h32:(p++r).headD 0≠32)(hr:ScanTo r S):ScanTo (p++r) ((k,t)::S):=by
 intro a acc
 obtain ⟨ws,h1,h2⟩:=hr (a+p.length) (acc++[⟨k,t,a⟩]);refine ⟨⟨k,t,a⟩::ws,?_,by simp [h2]⟩
 have e:(wordF (p++r)).2.2=p.length:=by rw [h]
 rw [scanF_word a acc (by intro e;simp at e;rw [e.1]at hp;simp at hp) h32 (by rw [e];omega),e,h]
 simp only [List.drop_left]
 rw [h1,List.append_assoc]
 rfl
theorem scan_l{l:List UInt8}{S:Ws}(h:ScanTo l S)(hl:l.length≤1000):∃ L,scanL l=(some L,0)∧L.map (fun w=>(w.k,w.t))=S++[(7,[])]:=by
 obtain ⟨ws,h1,h2⟩:=h 0 []
 exact ⟨_,scanL_yes (by omega) h1,by simp [h2]⟩
def Nx(r:List UInt8):Prop:=joinB (r.headD 32)=false∧r.headD 32≠34∧r.headD 32≠40
theorem nx_nil:Nx []:=⟨by kernel_rfl,by decide,by decide⟩
theorem nx_shut(r:List UInt8):Nx (41::r):=⟨by kernel_rfl,by simp,by simp⟩
theorem nx_comma(r:List UInt8):Nx (44::r):=⟨by kernel_rfl,by simp,by simp⟩
theorem nx_colon(r:List UInt8):Nx (58::r):=⟨by kernel_rfl,by simp,by simp⟩
def Hd(T:List UInt8):Prop:=∃ c r,T=c::r∧c≠61∧c≠62∧c≠32
theorem Hd.app{T:List UInt8}(h:Hd T)(r:List UInt8):Hd (T++r):=by
 obtain ⟨c,t,rfl,h⟩:=h;exact ⟨c,t++r,rfl,h⟩
theorem w_neg(r:List UInt8):wordF (45::r)=(6,[45],1):=by kernel_rfl
theorem w_open(r:List UInt8):wordF (40::r)=(6,[40],1):=by kernel_rfl
theorem w_shut(r:List UInt8):wordF (41::r)=(6,[41],1):=by kernel_rfl
theorem w_comma(r:List UInt8):wordF (44::r)=(6,[44],1):=by kernel_rfl
theorem w_colon(r:List UInt8):wordF (58::r)=(6,[58],1):=by kernel_rfl
theorem lvl_cases{o:List UInt8}(h:1≤lvl o):o=[61]∨o=[60,62]∨o=[60]∨o=[60,61]∨o=[62]∨o=[62,61]∨o=[38]∨o=[43]∨o=[45]∨o=[42]∨o=[47]:=by
 unfold lvl at h
 by_cases h1:o=[61]
 ·exact .inl h1
 by_cases h2:o=[60,62]
 ·exact .inr (.inl h2)
 by_cases h3:o=[60]
 ·exact .inr (.inr (.inl h3))
 by_cases h4:o=[60,61]
 ·exact .inr (.inr (.inr (.inl h4)))
 by_cases h5:o=[62]
 ·exact .inr (.inr (.inr (.inr (.inl h5))))
 by_cases h6:o=[62,61]
 ·exact .inr (.inr (.inr (.inr (.inr (.inl h6)))))
 by_cases h7:o=[38]
 ·exact .inr (.inr (.inr (.inr (.inr (.inr (.inl h7))))))
 by_cases h8:o=[43]
 ·exact .inr (.inr (.inr (.inr (.inr (.inr (.inr (.inl h8)))))))
 by_cases h9:o=[45]
 ·exact .inr (.inr (.inr (.inr (.inr (.inr (.inr (.inr (.inl h9))))))))
 by_cases h10:o=[42]
 ·exact .inr (.inr (.inr (.inr (.inr (.inr (.inr (.inr (.inr (.inl h10)))))))))
 by_cases h11:o=[47]
 ·exact .inr (.inr (.inr (.inr (.inr (.inr (.inr (.inr (.inr (.inr h11)))))))))
 rw [if_neg h1,if_neg h2,if_neg h3,if_neg h4,if_neg h5,if_neg h6,if_neg h7,if_neg h8,if_neg h9,if_neg h10,if_neg h11]at h;omega
theorem hp_fst(c d:UInt8)(r:List UInt8)(h:c≠d):Lib.hasPrefix (c::r) [d]=false:=by
 unfold Lib.hasPrefix
 show ((d:UInt8) == c&&List.isPrefixOf [] r)=false
 rw [beq_eq_false_iff_ne.2 (Ne.symm h)]
 rfl
theorem hp_two(a b c d:UInt8)(r:List UInt8)(h:b≠d):Lib.hasPrefix (a::b::r) [c,d]=false:=by
 unfold Lib.hasPrefix
 show ((c:UInt8) == a&&((d == b)&&List.isPrefixOf [] r))=false
 rw [beq_eq_false_iff_ne.2 (Ne.symm h)];simp
theorem w_op{o:List UInt8}(ho:1≤lvl o){r:List UInt8}(h:Hd r):wordF (o++r)=(6,o,o.length):=by
 obtain ⟨c,r,rfl,h61,h62,h32⟩:=h
 rcases lvl_cases ho with rfl|rfl|rfl|rfl|rfl|rfl|rfl|rfl|rfl|rfl|rfl
 ·kernel_rfl
 ·kernel_rfl
 ·have e1:=hp_two 60 c 60 62 r h62
  have e2:=hp_two 60 c 60 61 r h61;have e3:Lib.hasPrefix (60::c::r) [62,61]=false:=by kernel_rfl
  show sigW (60::c::r)=_
  unfold sigW sigF sgL
  rw [List.find?_cons_of_neg (by rw [e1];simp),List.find?_cons_of_neg (by rw [e2];simp),List.find?_cons_of_neg (by rw [e3];simp),List.find?_cons_of_pos (by kernel_rfl)]
  rfl
 ·kernel_rfl
 ·have e1:Lib.hasPrefix (62::c::r) [60,62]=false:=by kernel_rfl
  have e2:Lib.hasPrefix (62::c::r) [60,61]=false:=by kernel_rfl
  have e3:=hp_two 62 c 62 61 r h61;have e4:Lib.hasPrefix (62::c::r) [60]=false:=by kernel_rfl
  show sigW (62::c::r)=_
  unfold sigW sigF sgL
  rw [List.find?_cons_of_neg (by rw [e1];simp),List.find?_cons_of_neg (by rw [e2];simp),List.find?_cons_of_neg (by rw [e3];simp),List.find?_cons_of_neg (by rw [e4];simp),List.find?_cons_of_pos (by kernel_rfl)]
  rfl
 ·kernel_rfl
 ·kernel_rfl
 ·kernel_rfl
 ·kernel_rfl
 ·kernel_rfl
 ·kernel_rfl
theorem op_next{o:List UInt8}(ho:1≤lvl o)(r:List UInt8):Nx (o++r)∧(o++r).headD 0≠32∧0<o.length:=by
 rcases lvl_cases ho with rfl|rfl|rfl|rfl|rfl|rfl|rfl|rfl|rfl|rfl|rfl <;> exact ⟨⟨by kernel_rfl,by simp,by simp⟩,by simp,by simp⟩
theorem scan_op{o:List UInt8}(ho:1≤lvl o){r:List UInt8}(h:Hd r){S:Ws}(hr:ScanTo r S):ScanTo (o++r) ((6,o)::S):=
 scan_word (w_op ho h) (op_next ho r).2.2 (op_next ho r).2.1 hr
structure Sc (T:List UInt8) (ws:Ws):Prop where
 sc:∀ r S,Nx r→ScanTo r S→ScanTo (T++r) (ws++S)
 hd:Hd T
 hw:Hw ws
theorem sc_neg{T:List UInt8}{ws:Ws}(h:Sc T ws):Sc (45::T) ((6,[45])::ws):=
 ⟨fun r S hr hs=>scan_word (p:=[45]) (r:=T++r) (w_neg _) (by simp) (by simp) (h.sc r S hr hs),⟨45,T,rfl,by decide,by decide,by decide⟩,⟨6,[45],ws,rfl,by simp⟩⟩
theorem sc_brk{T:List UInt8}{ws:Ws}(h:Sc T ws):Sc (40::(T++[41])) ((6,[40])::(ws++[(6,[41])])):=by
 refine ⟨fun r S hr hs=>?_,⟨40,_,rfl,by decide,by decide,by decide⟩,⟨6,[40],_,rfl,by simp⟩⟩
 have s1:ScanTo (41::r) ((6,[41])::S):=scan_word (p:=[41]) (r:=r) (w_shut _) (by simp) (by simp) hs
 have s2:=h.sc (41::r) _ (nx_shut r) s1;have s3:=scan_word (p:=[40]) (r:=T++41::r) (w_open _) (by simp) (by simp) s2
 have e1:40::(T++[41])++r=[40]++(T++41::r):=by simp
 have e2:(6,[40])::(ws++[(6,[41])])++S=(6,[40])::(ws++(6,[41])::S):=by simp
 rw [e1,e2];exact s3
theorem sc_bin{o T U:List UInt8}{wx wy:Ws}(ho:1≤lvl o)(hx:Sc T wx)(hy:Sc U wy):Sc (T++o++U) (wx++(6,o)::wy):=by
 refine ⟨fun r S hr hs=>?_,by rw [List.append_assoc];exact hx.hd.app _,?_⟩
 ·have s2:=hy.sc r _ hr hs
  have s3:=scan_op ho (hy.hd.app _) s2;have s4:=hx.sc _ _ (op_next ho _).1 s3;have e1:T++o++U++r=T++(o++(U++r)):=by simp
  have e2:wx++(6,o)::wy++S=wx++(6,o)::(wy++S):=by simp
  rw [e1,e2];exact s4
 ·obtain ⟨k,t,w,rfl,h⟩:=hx.hw
  exact ⟨k,t,_,rfl,h⟩
theorem tw_join(T r:List UInt8)(hT:∀ c∈T,joinB c=true)(hr:joinB (r.headD 32)=false):(T++r).takeWhile joinB=T∧(T++r).dropWhile joinB=r:=by
 induction T with
 |nil=>
  cases r with
  |nil=>exact ⟨rfl,rfl⟩
  |cons c r=>
   simp only [List.headD_cons]at hr
   exact ⟨by simp [List.takeWhile,hr],by simp [List.dropWhile,hr]⟩
 |cons c T ih=>
  have h1:=hT c (by simp)
  have h2:=ih (fun d hd=>hT d (List.mem_cons_of_mem _ hd))
  exact ⟨by simp [List.takeWhile,h1,h2.1],by simp [List.dropWhile,h1,h2.2]⟩
theorem join_not{c:UInt8}(h:joinB c=true):c≠34∧c≠35∧c≠32∧c≠61∧c≠62∧c≠45:=by
 refine ⟨?_,?_,?_,?_,?_,?_⟩ <;> · rintro rfl;revert h;decide
theorem w_join{T r:List UInt8}{k:Nat}(hT:∀ c∈T,joinB c=true)(h0:T≠[])(hr:joinB (r.headD 32)=false)(hk:kindJ T (Lib.hasPrefix r [40])=k)(hk0:k≠0):wordF (T++r)=(k,T,T.length):=by
 obtain ⟨c,T',e⟩:∃ c T',T=c::T':=by
  cases T with
  |nil=>exact absurd rfl h0
  |cons c T'=>exact ⟨c,T',rfl⟩
 have hc:=hT c (by rw [e];simp)
 have hn:=join_not hc;have he:(T++r).headD 0=c:=by rw [e];rfl
 have ht:=tw_join T r hT hr;unfold wordF
 rw [he,if_neg hn.1,if_neg hn.2.1,hc,if_pos rfl];unfold joinW
 rw [ht.1,ht.2,hk,if_neg hk0]
theorem sc_join{T:List UInt8}{k:Nat}(hT:∀ c∈T,joinB c=true)(h0:T≠[])(hk:kindJ T false=k)(hk0:k≠0)(h6:k≠6):Sc T [(k,T)]:=by
 obtain ⟨c,T',e⟩:∃ c T',T=c::T':=by
  cases T with
  |nil=>exact absurd rfl h0
  |cons c T'=>exact ⟨c,T',rfl⟩
 have hc:=hT c (by rw [e];simp)
 have hn:=join_not hc;have he:∀ r,(T++r).headD 0=c:=fun r=>by rw [e];rfl
 refine ⟨fun r S hr hs=>?_,⟨c,T',e,hn.2.2.2.1,hn.2.2.2.2.1,hn.2.2.1⟩,⟨k,T,[],rfl,fun x=>h6 x.1⟩⟩
 have h40:Lib.hasPrefix r [40]=false:=by
  cases r with
  |nil=>rfl
  |cons d r=>exact hp_fst d 40 r hr.2.2
 exact scan_word (p:=T) (w_join hT h0 hr.1 (by rw [h40];exact hk) hk0) (by rw [e];simp) (by rw [he];exact hn.2.2.1) hs
def dbl:List UInt8→List UInt8
 |[]=>[]
 |c::r=>if c=34 then 34::34::dbl r else c::dbl r
theorem quo_dbl(r:List UInt8)(hr:r.headD 32≠34):∀ (t acc:List UInt8) (n:Nat),quoF (dbl t++34::r) acc n=some (acc++t,n+(dbl t).length+1)
 |[],acc,n=>by
  have e:Lib.hasPrefix r [34]=false:=by
   cases r with
   |nil=>rfl
   |cons c r=>exact hp_fst c 34 r hr
  rw [dbl,List.nil_append,quoF_end e,List.append_nil]
  rfl
 |c::t,acc,n=>by
  rw [dbl];by_cases h:c=34
  ·subst h
   rw [if_pos rfl];show quoF (34::34::(dbl t++34::r)) acc n=_
   rw [quoF_two,quo_dbl r hr t];simp only [List.append_assoc,List.cons_append,List.nil_append,List.length_cons]
   rw [show n+2+(dbl t).length+1=n+((dbl t).length+1+1)+1 by omega]
  ·rw [if_neg h]
   show quoF (c::(dbl t++34::r)) acc n=_
   rw [quoF_not h,quo_dbl r hr t];simp only [List.append_assoc,List.cons_append,List.nil_append,List.length_cons]
   rw [show n+1+(dbl t).length+1=n+((dbl t).length+1)+1 by omega]
theorem sc_text{t:List UInt8}(h:V.mtB t=true):Sc (34::(dbl t++[34])) [(2,t)]:=by
 refine ⟨fun r S hr hs=>?_,⟨34,_,rfl,by decide,by decide,by decide⟩,⟨2,t,[],rfl,by simp⟩⟩
 refine scan_word (p:=34::(dbl t++[34])) ?_ (by simp) (by simp) hs
 have e:34::(dbl t++[34])++r=34::(dbl t++34::r):=by simp
 rw [e];show quoP (quoF (dbl t++34::r) [] 1)=_
 rw [quo_dbl r hr.2.1];unfold quoP
 simp only [List.nil_append]
 rw [h,if_pos rfl];simp only [List.length_cons,List.length_append,List.length_nil]
 rw [show 1+(dbl t).length+1=(dbl t).length+(0+1)+1 by omega]
theorem en_cases{e:Int}(h:enL e≠[]):e=1∨e=2∨e=3∨e=4∨e=5∨e=6∨e=7:=by
 unfold enL at h
 by_cases h1:e=1
 ·exact .inl h1
 by_cases h2:e=2
 ·exact .inr (.inl h2)
 by_cases h3:e=3
 ·exact .inr (.inr (.inl h3))
 by_cases h4:e=4
 ·exact .inr (.inr (.inr (.inl h4)))
 by_cases h5:e=5
 ·exact .inr (.inr (.inr (.inr (.inl h5))))
 by_cases h6:e=6
 ·exact .inr (.inr (.inr (.inr (.inr (.inl h6)))))
 by_cases h7:e=7
 ·exact .inr (.inr (.inr (.inr (.inr (.inr h7)))))
 rw [if_neg h1,if_neg h2,if_neg h3,if_neg h4,if_neg h5,if_neg h6,if_neg h7]at h;exact absurd rfl h
theorem sc_err{e:Int}(h:enL e≠[]):Sc (enL e) [(5,enL e)]∧((errN (enL e):Nat):Int)=e:=by
 refine ⟨⟨fun r S hr hs=>?_,?_,⟨5,_,[],rfl,by simp⟩⟩,?_⟩
 ·refine scan_word (p:=enL e) ?_ ?_ ?_ hs
  ·rcases en_cases h with rfl|rfl|rfl|rfl|rfl|rfl|rfl <;> kernel_rfl
  ·rcases en_cases h with rfl|rfl|rfl|rfl|rfl|rfl|rfl <;> decide
  ·rcases en_cases h with rfl|rfl|rfl|rfl|rfl|rfl|rfl <;> simp [enL]
 ·rcases en_cases h with rfl|rfl|rfl|rfl|rfl|rfl|rfl <;> exact ⟨35,_,rfl,by decide,by decide,by decide⟩
 ·rcases en_cases h with rfl|rfl|rfl|rfl|rfl|rfl|rfl <;> decide
theorem sc_bool(b:Bool):Sc (if b then truW else flsW) [(4,if b then truW else flsW)]:=by
 cases b
 ·exact sc_join (by decide) (by decide) (by kernel_rfl) (by decide) (by decide)
 ·exact sc_join (by decide) (by decide) (by kernel_rfl) (by decide) (by decide)
theorem no_num{l:List UInt8}{c:UInt8}(hc:c∈l)(h:let1 c=true)(h45:Lib.hasPrefix l [45]=false):V.parseO l=none:=by
 have hd:dig c=false:=by
  unfold let1 at h
  unfold dig
  simp only [decide_eq_true_eq]at h
  simp only [decide_eq_false_iff_not]
  omega
 have h46:c≠46:=by rintro rfl;revert h;decide
 rw [V.parseO_eq,h45];have e:Lib.trimPrefix l [45]=l:=by unfold Lib.trimPrefix;rw [h45];rfl
 rw [e];obtain ⟨p,r,rfl⟩:=List.append_of_mem hc
 rcases V.cut_any p with ⟨a,b,rfl,hn⟩|hn
 ·have:=V.parse2_bad2 (a:=a) (b:=b) (r:=r) false hd hn
  simpa using this
 ·exact V.parse2_bad1 false hd h46 hn
theorem dig_join{c:UInt8}(h:48≤c.toNat∧c.toNat≤57):joinB c=true:=by
 unfold joinB
 rw [decide_eq_true h];simp
theorem let_join{c:UInt8}(h:65≤c.toNat∧c.toNat≤90):joinB c=true:=by
 unfold joinB
 rw [decide_eq_true h];simp
theorem no_dash{T:List UInt8}(hT:∀ c∈T,joinB c=true):Lib.hasPrefix T [45]=false:=by
 cases T with
 |nil=>rfl
 |cons c T=>exact hp_fst c 45 T (join_not (hT c (by simp))).2.2.2.2.2
theorem trimB_sub(l:List UInt8):∀ c∈Lib.trimRightB l 48,c∈l:=by
 obtain ⟨k,hk⟩:=V.trim_split l;intro c hc
 rw [hk];exact List.mem_append.2 (.inl hc)
theorem print_join(n:Int)(h:0≤n):∀ c∈V.printL n,joinB c=true:=by
 intro c hc
 unfold V.printL at hc
 rw [if_neg (by omega)]at hc
 unfold V.magL at hc
 rcases List.mem_append.1 hc with hc|hc
 ·exact dig_join (allD_mem (dec_all _) hc)
 ·unfold V.partL at hc
  split at hc
  ·cases hc
  ·rcases List.mem_cons.1 hc with rfl|hc
   ·decide
   ·have h1:=List.mem_of_mem_drop (trimB_sub _ _ hc)
    exact dig_join (allD_mem (dec_all _) h1)
theorem print_ne(n:Int):V.printL n≠[]:=by
 unfold V.printL V.magL
 have:=dec_ne (n.natAbs / 10000)
 split
 ·simp
 ·intro e
  exact this (List.append_eq_nil_iff.1 e).1
theorem sc_num{n:Int}(h:0≤n)(h':n≤9223372036854775807):Sc (V.printL n) [(1,V.printL n)]∧EE.nok (V.printL n)=true∧EE.num (V.printL n)=n:=by
 have hf:V.fitB n=true:=decide_eq_true ⟨by omega,h'⟩
 have hp:V.pf (V.parseO (V.printL n))=true:=by rw [V.parse_print];exact hf
 refine ⟨sc_join (print_join n h) (print_ne n) ?_ (by decide) (by decide),hp,?_⟩
 ·unfold kindJ
  rw [hp]
  rfl
 ·show V.pk (V.parseO (V.printL n))=n
  rw [V.parse_print];show V.keep n=n
  unfold V.keep
  rw [hf]
  rfl
theorem id_join{l:List UInt8}(h:idB l=true):∀ c∈l,joinB c=true:=by
 unfold idB at h
 have h':=of_decide_eq_true h;unfold ownK at h'
 split at h'
 ·rename_i hp
  have e1:l=99::Lib.trimPrefix l [99]:=by
   match l,hp with
   |[],hp=>unfold Lib.hasPrefix at hp;simp at hp
   |c::l,hp=>
    have hc:c=99:=by
     have h2:=hp;unfold Lib.hasPrefix at h2
     simp at h2
     exact h2.symm
    unfold Lib.trimPrefix
    rw [if_pos hp,hc]
    rfl
  generalize Lib.trimPrefix l [99]=t at *
  rcases cut_any 110 t with ⟨a,b,rfl,hn⟩|hn
  ·rw [cut_at 110 a b hn]at h'
   unfold ownP at h'
   cases ha:numF a 15 with
   |false=>rw [ha]at h';simp at h'
   |true=>
    cases hb:numF b 999999 with
    |false=>rw [ha,hb]at h';simp at h'
    |true=>
     have da:=numF_all ha;have db:=numF_all hb;rw [e1];intro c hm
     simp only [List.mem_cons,List.mem_append]at hm
     rcases hm with rfl|hm|rfl|hm
     ·decide
     ·exact dig_join (allD_mem da hm)
     ·decide
     ·exact dig_join (allD_mem db hm)
  ·rw [cut_free 110 t hn]at h'
   unfold ownP at h'
   simp at h'
 ·omega
def prf(r:Rf):List UInt8:=prR r.1 r.2.1 r.2.2.1 r.2.2.2.1 r.2.2.2.2
theorem sg_join(b:Bool):∀ c∈sgS b,joinB c=true:=by cases b <;> decide
theorem sc_ref{r:Rf}(h:mayR r.1 r.2.1 r.2.2.1=true):Sc (prf r) [(3,prf r)]∧EE.rok (prf r)=true∧EE.ref (prf r)=r∧prf r≠[]:=by
 obtain ⟨sh,row,col,ra,ca⟩:=r;simp only [prf]at h ⊢
 have hr:=read_yes sh row col ra ca h;have h':=h;unfold mayR at h'
 simp only [Bool.and_eq_true,decide_eq_true_eq]at h'
 obtain ⟨hi,⟨r0,r1⟩,c0,c1⟩:=h';have e:prR sh row col ra ca=shX sh++(sgS ca++(cnL col++(sgS ra++Lib.decDigits (row+1).toNat))):=by
  unfold prR prL
  rw [h];simp only [if_true,List.append_assoc]
 have ecn:cnL col=nmL (col+1).toNat:=by unfold cnL;rw [if_pos ⟨c0,c1⟩]
 obtain ⟨n,nx,en,n0,n1⟩:=nm_cons (col+1).toNat (by omega)
 have hj:∀ c∈prR sh row col ra ca,joinB c=true:=by
  rw [e];intro c hc
  simp only [List.mem_append]at hc
  rcases hc with hc|hc|hc|hc|hc
  ·unfold shX at hc
   cases he:sh.isEmpty
   ·have hi':idB sh=true:=by rw [he]at hi;simpa using hi
    rw [he]at hc;simp only [Bool.false_eq_true,if_false,List.mem_append,List.mem_singleton]at hc
    rcases hc with hc|rfl
    ·exact id_join hi' c hc
    ·decide
   ·rw [he]at hc
    simp at hc
  ·exact sg_join ca c hc
  ·exact let_join (allL_mem (cn_all col) hc)
  ·exact sg_join ra c hc
  ·exact dig_join (allD_mem (dec_all _) hc)
 have hm:n∈prR sh row col ra ca:=by
  rw [e,ecn,en];simp
 have h0:prR sh row col ra ca≠[]:=by intro x;rw [x]at hm;cases hm
 have hp:=no_num hm (by unfold let1;exact decide_eq_true ⟨n0,n1⟩) (no_dash hj)
 refine ⟨sc_join hj h0 ?_ (by decide) (by decide),hr.1,hr.2,h0⟩
 unfold kindJ
 rw [hp,hr.1]
 rfl
theorem sc_range{r q:Rf}(h:mayR r.1 r.2.1 r.2.2.1=true)(h':mayR q.1 q.2.1 q.2.2.1=true):Sc (prf r++58::prf q) [(3,prf r),(6,[58]),(3,prf q)]:=by
 have s1:=(sc_ref h).1;have s2:=(sc_ref h').1;refine ⟨fun x S hx hs=>?_,s1.hd.app _,⟨3,_,_,rfl,by simp⟩⟩
 have t1:=s2.sc x S hx hs;have t2:=scan_word (p:=[58]) (r:=prf q++x) (w_colon _) (by simp) (by simp) t1
 have t3:=s1.sc _ _ (nx_colon _) t2;have e1:prf r++58::prf q++x=prf r++([58]++(prf q++x)):=by simp
 rw [e1];exact t3
def joinT:List (List UInt8)→List UInt8
 |[]=>[]
 |[w]=>w
 |w::v::r=>w++44::joinT (v::r)
theorem sc_args:∀ (ps:List (List UInt8 × Ws)),ps≠[]→(∀ p∈ps,Sc p.1 p.2)→Sc (joinT (ps.map (·.1))) (argW (ps.map (·.2)))
 |[],h,_=>absurd rfl h
 |[p],_,h=>h p (by simp)
 |p::q::ps,_,h=>by
  have ih:=sc_args (q::ps) (by simp) (fun x hx=>h x (List.mem_cons_of_mem _ hx))
  have hp:=h p (by simp)
  simp only [List.map_cons,joinT,argW]at ih ⊢
  refine ⟨fun r S hr hs=>?_,hp.hd.app _,?_⟩
  ·have t1:=ih.sc r S hr hs
   have t2:=scan_word (p:=[44]) (w_comma _) (by simp) (by simp) t1
   have t3:=hp.sc _ _ (nx_comma _) t2
   simpa using t3
  ·obtain ⟨k,t,w,e,hk⟩:=hp.hw
   rw [e];exact ⟨k,t,_,rfl,hk⟩
theorem nam_facts{t:List UInt8}(h:namF t=true):t≠[]∧(∀ c∈t,let1 c=true)∧¬ (t=truW∨t=flsW):=by
 unfold namF at h
 simp only [Bool.and_eq_true,decide_eq_true_eq,List.all_eq_true]at h
 refine ⟨?_,h.2.2.2,h.2.2.1⟩
 rintro rfl
 simp at h
theorem nam_w{t:List UInt8}(h:namF t=true)(r:List UInt8):wordF (t++40::r)=(4,t,t.length):=by
 obtain ⟨h0,h1,h2⟩:=nam_facts h;have hj:∀ c∈t,joinB c=true:=fun c hc=>let_join (of_decide_eq_true (h1 c hc))
 refine w_join hj h0 (by kernel_rfl) ?_ (by decide)
 obtain ⟨c,t',e⟩:∃ c t',t=c::t':=by
  cases t with
  |nil=>exact absurd rfl h0
  |cons c t'=>exact ⟨c,t',rfl⟩
 have hp:=no_num (l:=t) (c:=c) (by rw [e];simp) (h1 c (by rw [e];simp)) (no_dash hj)
 have ha:allL t=true:=by unfold allL;rw [List.all_eq_true];exact h1
 have hr:refF t=false:=by
  have hn:(33:UInt8) ∉ t:=no33_L ha
  have e1:=(ref_free (cut_free 33 t hn)).1;rw [e1];have e3:Lib.trimPrefix t [36]=t:=by
   unfold Lib.trimPrefix
   rw [e,hp_fst c 36 t' (by rintro rfl;have:=h1 36 (by rw [e];simp);revert this;decide)]
   rfl
  have e2:=(tw_app t [] ha (fun _ _ x=>by cases x)).2
  rw [List.append_nil]at e2;unfold tailF
  rw [e3,e2];have e4:numF (Lib.trimPrefix [] [36]) 2199023255552=false:=by decide
  rw [e4];simp
 unfold kindJ
 rw [hp,hr,ha];have e5:Lib.hasPrefix (40::r) [40]=true:=by unfold Lib.hasPrefix;simp
 rw [e5];simp [V.pf]
theorem sc_call{t A:List UInt8}{wa:Ws}(h:namF t=true)(ha:Sc A wa):Sc (t++40::(A++[41])) ((4,t)::(6,[40])::(wa++[(6,[41])])):=by
 obtain ⟨h0,h1,h2⟩:=nam_facts h;obtain ⟨c,t',e⟩:∃ c t',t=c::t':=by
  cases t with
  |nil=>exact absurd rfl h0
  |cons c t'=>exact ⟨c,t',rfl⟩
 have hn:=join_not (let_join (of_decide_eq_true (h1 c (by rw [e];simp))))
 have hd:Hd t:=⟨c,t',e,hn.2.2.2.1,hn.2.2.2.2.1,hn.2.2.1⟩
 refine ⟨fun r S hr hs=>?_,hd.app _,⟨4,t,_,rfl,by simp⟩⟩
 have s1:=(sc_brk ha).sc r S hr hs;have e1:t++40::(A++[41])++r=t++(40::(A++[41])++r):=by simp
 rw [e1];refine scan_word (p:=t) (r:=40::(A++[41])++r) (nam_w h _) (by rw [e];simp) ?_ s1
 rw [e];exact hn.2.2.1
theorem sc_call0{t:List UInt8}(h:namF t=true):Sc (t++[40,41]) [(4,t),(6,[40]),(6,[41])]:=by
 obtain ⟨h0,h1,h2⟩:=nam_facts h;obtain ⟨c,t',e⟩:∃ c t',t=c::t':=by
  cases t with
  |nil=>exact absurd rfl h0
  |cons c t'=>exact ⟨c,t',rfl⟩
 have hn:=join_not (let_join (of_decide_eq_true (h1 c (by rw [e];simp))))
 have hd:Hd t:=⟨c,t',e,hn.2.2.2.1,hn.2.2.2.2.1,hn.2.2.1⟩
 refine ⟨fun r S hr hs=>?_,hd.app _,⟨4,t,_,rfl,by simp⟩⟩
 have s1:ScanTo (41::r) ((6,[41])::S):=scan_word (p:=[41]) (r:=r) (w_shut _) (by simp) (by simp) hs
 have s2:=scan_word (p:=[40]) (r:=41::r) (w_open _) (by simp) (by simp) s1
 have e1:t++[40,41]++r=t++([40]++41::r):=by simp
 rw [e1];refine scan_word (p:=t) (r:=[40]++41::r) (nam_w h _) (by rw [e];simp) ?_ s2
 rw [e];exact hn.2.2.1
def Kp(W W':World):Prop:=∀ (i:Nat) (c:Array Value) (f:Nat × Nat),W.heap[i]?=some (.cells c 26 f)→W'.heap[i]?=W.heap[i]?
theorem Kp.refl(W:World):Kp W W:=fun _ _ _ _=>rfl
theorem Kp.trans{a b c:World}(h:Kp a b)(k:Kp b c):Kp a c:=fun i x f hx=>(k i x f ((h i x f hx).trans hx)).trans (h i x f hx)
theorem heap_lt{W:World}{i:Nat}{o:Obj}(h:W.heap[i]?=some o):i<W.heap.size:=by
 rcases Nat.lt_or_ge i W.heap.size with h'|h'
 ·exact h'
 ·rw [Array.getElem?_eq_none h']at h
  cases h
theorem Kp.of{a b:World}(q:Q a b):Kp a b:=fun i _ _ hx=>Q.block q (heap_lt hx)
theorem kp_set{W:World}{b:Nat}{c:Array Value}{f:Nat × Nat}(hb:W.heap[b]?=some (.cells c 54 f))(j:Nat)(v:Value):Kp W (W.setCell ⟨b,j,none⟩ v):=fun i c' f' hx=>by
 refine Below.heap_setCell _ _ _ _ ?_
 rintro rfl
 rw [hb]at hx;cases hx
theorem check_kp(B b:Nat)(bs:List Value)(w:World)(h:Lib.IsBuilder 54 5 B b bs w) :
  Calls Tryz.prog 94 #[.pointer (some ⟨b,0,none⟩)] w fun e w'=>e=.returned (.tuple #[])∧Lib.BuilderAt 54 5 B b (.pointer (some ⟨b,0,none⟩)) bs w'∧Below B w w'∧Kp w w':=by
 rcases h with h|h
 ·refine (check_new b w h.cell0 h.shape h.frozen0).mono ?_
  rintro e w' ⟨rfl,rfl⟩
  obtain ⟨v,hb,_⟩:=h.2;exact ⟨rfl,h.used _,(Below.refl B w).setCell (p:=⟨b,0,none⟩) h.1 _,kp_set hb 0 _⟩
 ·refine (check_used b w h.cell0).mono ?_
  rintro e w' ⟨rfl,rfl⟩
  exact ⟨rfl,h,Below.refl B _,Kp.refl _⟩
theorem writeString_any(B b:Nat)(bs:List Value)(s:ByteArray)(w:World)(h:Lib.IsBuilder 54 5 B b bs w)(hs:0<s.size)(hlen:bs.length+s.size≤1000000)(hBw:B≤w.heap.size) :
  Calls Tryz.prog 58 #[.pointer (some ⟨b,0,none⟩),.string s] w fun e w'=>(∃ v,e=.returned v)∧Lib.BuilderAt 54 5 B b (.pointer (some ⟨b,0,none⟩)) (bs++Lib.strCells s) w'∧Below B w w'∧Kp w w':=by
 obtain ⟨i0,hi,hz0,hz1,hz2⟩:=inf_of info5;have HC:=hid (check_kp B b bs w h);clear h;go_enter Tryz.func58,Tryz.ntmps58
 go_wp2_with (go_at_call 94;refine HC.out.mono ?_)
 rintro e w1 ⟨rfl,h1,hb1,hk1⟩
 obtain ⟨hB,v,hbk,hown,hne⟩:=h1;have c0:w1.cell? ⟨b,0,none⟩=some (.pointer (some ⟨b,0,none⟩)):=by rw [Lib.cell_of_heap hbk];rfl
 have c1:w1.cell? ⟨b,1,none⟩=some v:=by rw [Lib.cell_of_heap hbk];rfl
 go_wp2_with (at_builtin;(refine Lib.wpList_append_own_string _ rfl _ _ 52 9 rfl B 5 i0 Tryz.underlying52 Tryz.underlying9 hi hz0 hz1 hz2 _ _ _ rfl hown s rfl (by unfold maxLen;omega) (by omega) (by have:=hb1.size;omega) ?_))
 intro v' w2 hown' hgrow _
 have hlt:b<w1.heap.size:=by
  rcases Nat.lt_or_ge b w1.heap.size with h'|h'
  ·exact h'
  ·simp [Array.getElem?_eq_none h']at hbk
 have hb2:w2.heap[b]?=some (.cells #[.pointer (some ⟨b,0,none⟩),v] 54 (0,0)):=by
  rw [hgrow.block b (by omega) (fun e=>hne e.symm)]
  exact hbk
 have d0:w2.cell? ⟨b,0,none⟩=some (.pointer (some ⟨b,0,none⟩)):=by rw [Lib.cell_of_heap hb2];rfl
 have d1:w2.cell? ⟨b,1,none⟩=some v:=by rw [Lib.cell_of_heap hb2];rfl
 have f1:w2.frozen? ⟨b,1,none⟩=false:=Lib.frozen_of_heap hb2 1
 obtain ⟨g,cap,rfl⟩:∃ g cap,v'=.slice (some ⟨g,0,none⟩) (bs.length+s.size) cap:=by
  rcases hown'.2 with ⟨_,h0⟩|⟨g,cap,cur,hv,_⟩
  ·omega
  ·exact ⟨g,cap,hv⟩
 go_wp2
 go_ret2
 refine ⟨⟨_,rfl⟩,?_,?_,?_⟩
 ·exact Lib.BuilderAt.put (T:=54) (e:=5) hB hb2 (bs':=bs++Lib.strCells s) (by rw [List.length_append,Lib.strCells_length];exact hown') (by decide)
 ·exact (hb1.grown hgrow (by have:=hb1.size;omega) (fun k hk=>(hown.lt k hk).1)).setCell (p:=⟨b,1,none⟩) hB _
 ·have hk2:Kp w1 w2:=fun i c f hx=>hgrow.block i (heap_lt hx) (fun e=>by
   rcases hown.2 with ⟨hv,_⟩|⟨g9,cap9,cur9,hv,_,hg9,_⟩
   ·rw [hv]at e
    cases e
   ·rw [hv]at e
    have:i=g9:=Option.some.inj e
    subst this;rw [hg9]at hx;cases hx)
  exact (hk1.trans hk2).trans (kp_set hb2 1 _)
def vx(k n:Int)(t:ByteArray)(b:Bool)(e:Int):Value:=.agg #[.int .i64 k,.int .i64 n,.string t,.bool b,.int .i64 e]
theorem fault_any(k n:Int)(t:ByteArray)(b:Bool)(e:Int)(w:World)(hw:Std w)(hs:(t.size:Int)≤9223372036854775000) :
  Calls Tryz.prog 115 #[vx k n t b e] w fun x w'=>x=.returned (.int .i64 (if V.mayB k n t.toList b e then e else 5))∧Q w w':=by
 have HM:=hid (fun W' (q:Q w W')=>V.may_any k n t b e W' (hw.on q) hs)
 generalize V.mayB k n t.toList b e=r at HM ⊢;unfold V.vv at HM
 unfold vx
 clear hw;cases r
 ·go_enter Tryz.func115,Tryz.ntmps115
  go_wp2_with (go_at_call 43;refine (HM.out _ ((Q.refl _).alloc _)).mono ?_;rintro e9 w1 ⟨rfl,q1⟩;have Q1:Hid (Q w w1):=hid (((Q.refl _).alloc _).trans q1);clear q1)
  go_ret
  exact ⟨rfl,Q1.out⟩
 ·go_enter Tryz.func115,Tryz.ntmps115
  go_wp2_with (go_at_call 43;refine (HM.out _ ((Q.refl _).alloc _)).mono ?_;rintro e9 w1 ⟨rfl,q1⟩;have Q1:Hid (Q w w1):=hid (((Q.refl _).alloc _).trans q1);have c4:w1.cell? ⟨w.heap.size,4,none⟩=some (.int .i64 e):=(by rw [q1.cell (by simp)];simp [World.cell?_alloc_new]);clear q1)
  go_ret
  exact ⟨rfl,Q1.out⟩
theorem readTruth_any(s:ByteArray)(w:World):Calls Tryz.prog 116 #[.string s] w fun e w'=>e=.returned (.tuple #[.bool (decide (s.data.toList=truW)),.int .i64 (if s.data.toList=truW∨s.data.toList=flsW then 0 else 5)])∧w'=w:=by
 have et:=hid (Lib.toList_data s);by_cases h1:s.data.toList=truW
 ·have f1:(s.toList == [84,82,85,69])=true:=by rw [et.out,beq_iff_eq];exact h1
  rw [if_pos (.inl h1),decide_eq_true h1];clear et h1;go_enter Tryz.func116,Tryz.ntmps116
  go_wp2
  go_ret2
  exact ⟨rfl,rfl⟩
 ·have f1:(s.toList == [84,82,85,69])=false:=by rw [et.out,beq_eq_false_iff_ne];exact h1
  rw [decide_eq_false h1];by_cases h2:s.data.toList=flsW
  ·have f2:(s.toList == [70,65,76,83,69])=true:=by rw [et.out,beq_iff_eq];exact h2
   rw [if_pos (.inr h2)];clear et h1 h2;go_enter Tryz.func116,Tryz.ntmps116
   go_wp2
   go_ret2
   exact ⟨rfl,rfl⟩
  ·have f2:(s.toList == [70,65,76,83,69])=false:=by rw [et.out,beq_eq_false_iff_ne];exact h2
   rw [if_neg (fun e=>e.elim h1 h2)]
   clear et h1 h2;go_enter Tryz.func116,Tryz.ntmps116
   go_wp2
   go_ret2
   exact ⟨rfl,rfl⟩
theorem mt_true:V.mtB truW=true∧V.mtB flsW=true:=by decide
theorem truth_text(t:ByteArray)(w:World)(hw:Std w)(hs:(t.size:Int)≤9223372036854775000) :
  Calls Tryz.prog 80 #[vx 2 0 t false 0] w fun e w'=>e=.returned (.tuple #[.bool (decide (t.data.toList=truW)),.int .i64 (if t.data.toList=truW∨t.data.toList=flsW then 0 else 5)])∧Q w w':=by
 have HF:=hid (fun W' (q:Q w W')=>fault_any 2 0 t false 0 W' (hw.on q) hs)
 have HR:=hid (fun W'=>readTruth_any t W')
 have hm:V.mayB 2 0 t.toList false 0=V.mtB t.toList:=by simp [V.mayB]
 rw [hm]at HF;clear hw hm;by_cases hb:V.mtB t.toList=true
 ·rw [hb,if_pos rfl]at HF
  generalize (if t.data.toList=truW∨t.data.toList=flsW then (0:Int) else 5)=r at HR ⊢
  generalize decide (t.data.toList=truW)=d at HR ⊢;unfold vx at HF ⊢
  clear hb;go_enter Tryz.func80,Tryz.ntmps80
  go_wp2_with (first|(go_at_call 115;refine (HF.out _ ((Q.refl _).alloc _)).mono ?_;rintro e9 w1 ⟨rfl,q1⟩;have Q1:Hid (Q w w1):=hid (((Q.refl _).alloc _).trans q1);have c0:w1.cell? ⟨w.heap.size,0,none⟩=some (.int .i64 2):=(by rw [q1.cell (by simp)];simp [World.cell?_alloc_new]);have c2:w1.cell? ⟨w.heap.size,2,none⟩=some (.string t):=(by rw [q1.cell (by simp)];simp [World.cell?_alloc_new]);clear q1)|(go_at_call 116;refine (HR.out _).mono ?_;rintro e9 w2 ⟨rfl,rfl⟩))
  go_ret2
  exact ⟨rfl,Q1.out⟩
 ·have hb':V.mtB t.toList=false:=by simpa using hb
  rw [hb']at HF;have h1:¬ t.data.toList=truW:=fun e=>hb (by rw [Lib.toList_data,e];exact mt_true.1)
  have h2:¬ t.data.toList=flsW:=fun e=>hb (by rw [Lib.toList_data,e];exact mt_true.2)
  rw [if_neg (fun e=>e.elim h1 h2),decide_eq_false h1]
  clear hb hb' h1 h2 HR;unfold vx at HF ⊢
  go_enter Tryz.func80,Tryz.ntmps80
  go_wp2_with (go_at_call 115;refine (HF.out _ ((Q.refl _).alloc _)).mono ?_;rintro e9 w1 ⟨rfl,q1⟩;have Q1:Hid (Q w w1):=hid (((Q.refl _).alloc _).trans q1);clear q1)
  go_ret2
  exact ⟨rfl,Q1.out⟩
structure Cb (W:World) (q:Nat) (cs:List Value):Prop where
 c:∀ j u,cs[j]?=some u→W.cell? ⟨q,j,none⟩=some u
 f:∀ j,W.frozen? ⟨q,j,none⟩=false
 l:q<W.heap.size
theorem Cb.on{W W':World}{q:Nat}{cs:List Value}(h:Cb W q cs)(x:Q W W'):Cb W' q cs:=
 ⟨fun j u hu=>(x.cell h.l).trans (h.c j u hu),fun j=>(Below.frozen x h.l).trans (h.f j),x.lt h.l⟩
theorem cb_new(W:World)(cs:List Value)(t:TypeId):Cb (W.alloc (.cells cs.toArray t)) W.heap.size cs:=
 ⟨fun j u hu=>by rw [World.cell?_alloc_at _ _ _ _ rfl];simpa using hu,fun j=>by simp [World.frozen?_alloc_new],by simp⟩
theorem textValue_any(s:ByteArray)(w:World)(hs:s.size≤281474976710656):Calls Tryz.prog 77 #[.string s] w fun e w'=>e=.returned (vx 2 0 s false 0)∧Q w w':=by
 have HC:=hid (fun W'=>clone_any s W' hs)
 have HZ:=hid (cb_new w [.int .i64 0,.int .i64 0,.string ⟨#[]⟩,.bool false,.int .i64 0] 37);unfold vx
 go_enter Tryz.func77,Tryz.ntmps77
 go_wp2_with (go_at_call 89;refine (HC.out _).mono ?_;rintro e9 w1 ⟨rfl,q1⟩;have Z1:=hid (HZ.out.on q1);have Q1:Hid (Q w w1):=hid (((Q.refl _).alloc _).trans q1);clear q1;have d0:=Z1.out.c 0 _ rfl;have d1:=Z1.out.c 1 _ rfl;have d2:=Z1.out.c 2 _ rfl;have d3:=Z1.out.c 3 _ rfl;have d4:=Z1.out.c 4 _ rfl;have y0:=Z1.out.f 0;have y1:=Z1.out.f 1;have y2:=Z1.out.f 2;have y3:=Z1.out.f 3;have y4:=Z1.out.f 4)
 refine bodyPost_ret (v:=.agg #[.int .i64 2,.int .i64 0,.string s,.bool false,.int .i64 0]) (by simp [results,Tryz.results77,go_sem,d0,d1,d2,d3,d4]) rfl ?_
 exact ⟨rfl,Q.setCell (Q.setCell (Q.setCell (Q.setCell (Q.setCell Q1.out (Nat.le_refl _) _) (Nat.le_refl _) _) (Nat.le_refl _) _) (Nat.le_refl _) _) (Nat.le_refl _) _⟩
theorem ifmt_small(i:Nat)(h:i<100)(w:World):Calls Tryz.prog 168 #[.int .u64 (i:Int),.int .i64 10] w fun e w'=>e=.returned (.string ⟨(Lib.decDigits i).toArray⟩)∧w'=w:=by
 have HS:=hid (Tryz.internal_strconv_small i h w);generalize (⟨(Lib.decDigits i).toArray⟩:ByteArray)=T at HS ⊢;have g1:(i:Int)<100:=by omega
 go_enter Tryz.func168,Tryz.ntmps168
 go_wp2_with (go_at_call 157;refine HS.out.mono ?_;rintro e9 w9 ⟨rfl,h9⟩;replace h9:=h9.symm;subst h9)
 go_ret
 exact ⟨rfl,rfl⟩
theorem fmt_small(i:Nat)(h:i<100)(w:World):Calls Tryz.prog 148 #[.int .u64 (i:Int),.int .i64 10] w fun e w'=>e=.returned (.string ⟨(Lib.decDigits i).toArray⟩)∧w'=w:=by
 have HS:=hid (ifmt_small i h w);generalize (⟨(Lib.decDigits i).toArray⟩:ByteArray)=T at HS ⊢;go_enter Tryz.func148,Tryz.ntmps148
 go_wp2_with (go_at_call 168;refine HS.out.mono ?_;rintro e9 w9 ⟨rfl,h9⟩;replace h9:=h9.symm;subst h9)
 go_ret
 exact ⟨rfl,rfl⟩
theorem part_zero(w:World):Calls Tryz.prog 149 #[.int .u64 0] w fun e w'=>e=.returned (.string ⟨#[]⟩)∧w'=w:=by
 go_enter Tryz.func149,Tryz.ntmps149
 go_wp2
 go_ret
 exact ⟨rfl,rfl⟩
theorem size_pos(n:Int)(w:World)(h:0≤n)(h':n≤9223372036854775807):Calls Tryz.prog 147 #[.int .i64 n] w fun e w'=>e=.returned (.int .u64 n)∧w'=w:=by
 have g:¬ n<0:=by omega
 go_enter Tryz.func147,Tryz.ntmps147
 go_wp2
 go_ret
 exact ⟨rfl,rfl⟩
theorem print_small(i:Nat)(h:i<100)(hd:(Lib.decDigits i).length≤100)(w:World):Calls Tryz.prog 120 #[.int .i64 ((i:Int)*10000)] w fun e w'=>e=.returned (.string ⟨(Lib.decDigits i).toArray⟩)∧w'=w:=by
 have H1:=hid (size_pos ((i:Int)*10000) w (by omega) (by omega))
 have H2:=hid (fmt_small i h w);have H3:=hid (part_zero w);obtain ⟨T,hT⟩:∃ T:ByteArray,(⟨(Lib.decDigits i).toArray⟩:ByteArray)=T:=⟨_,rfl⟩;rw [hT]at H2 ⊢;have hX:T++(⟨#[]⟩:ByteArray)=T:=by apply ByteArray.ext;simp
 have hTs:T.size≤1000:=by
  rw [←hT,size_mk];omega
 have f1:¬ 9223372036854775807<T.size+0:=by omega
 have f2:¬ 9223372036854775807<T.size+(⟨#[]⟩:ByteArray).size:=f1
 have e1:(i:Int)*10000 / 10000=(i:Int):=by omega
 have e2:(i:Int)*10000 % 10000=0:=by omega
 have e3:¬ (i:Int)*10000<0:=by omega
 have e4:((i:Int)*10000).tdiv 10000=(i:Int):=by rw [Int.tdiv_eq_ediv_of_nonneg (by omega)];omega
 have e5:((i:Int)*10000).tmod 10000=0:=by rw [Int.tmod_eq_emod_of_nonneg (by omega)];omega
 clear hT;go_enter Tryz.func120,Tryz.ntmps120
 go_wp2_with (first|(go_at_call 147;refine H1.out.mono ?_;rintro e9 w9 ⟨rfl,h9⟩;replace h9:=h9.symm;subst h9)|(go_at_call 148;refine H2.out.mono ?_;rintro e9 w9 ⟨rfl,h9⟩;replace h9:=h9.symm;subst h9)|(go_at_call 149;refine H3.out.mono ?_;rintro e9 w9 ⟨rfl,h9⟩;replace h9:=h9.symm;subst h9))
 go_ret
 exact ⟨rfl,rfl⟩
theorem text_num(n:Int)(T:ByteArray)(w:World)(hw:Std w)(HP:Hid (∀ W,Calls Tryz.prog 120 #[.int .i64 n] W fun e w'=>e=.returned (.string T)∧w'=W)):Calls Tryz.prog 90 #[vx 1 n ⟨#[]⟩ false 0] w fun e w'=>e=.returned (.tuple #[.string T,.int .i64 0])∧Q w w':=by
 have HF:=hid (fun W' (q:Q w W')=>fault_any 1 n ⟨#[]⟩ false 0 W' (hw.on q) (by decide))
 have hm:V.mayB 1 n (⟨#[]⟩:ByteArray).toList false 0=true:=by rw [Lib.toList_data];simp [V.mayB]
 rw [hm,if_pos rfl]at HF;clear hw hm;unfold vx at HF ⊢
 go_enter Tryz.func90,Tryz.ntmps90
 go_wp2_with (first|(go_at_call 115;refine (HF.out _ ((Q.refl _).alloc _)).mono ?_;rintro e9 w1 ⟨rfl,q1⟩;have Q1:Hid (Q w w1):=hid (((Q.refl _).alloc _).trans q1);have c0:w1.cell? ⟨w.heap.size,0,none⟩=some (.int .i64 1):=(by rw [q1.cell (by simp)];simp [World.cell?_alloc_new]);have c1:w1.cell? ⟨w.heap.size,1,none⟩=some (.int .i64 n):=(by rw [q1.cell (by simp)];simp [World.cell?_alloc_new]);clear q1)|(go_at_call 120;refine (HP.out _).mono ?_;rintro e9 w2 ⟨rfl,h9⟩;replace h9:=h9.symm;subst h9))
 go_ret2
 exact ⟨rfl,Q1.out⟩
theorem plain_num(n:Int)(T:ByteArray)(w:World)(hw:Std w)(HP:Hid (∀ W,Calls Tryz.prog 120 #[.int .i64 n] W fun e w'=>e=.returned (.string T)∧w'=W)):Calls Tryz.prog 54 #[vx 1 n ⟨#[]⟩ false 0] w fun e w'=>e=.returned (.string T)∧Q w w':=by
 have HT:=hid (fun W' (q:Q w W')=>text_num n T W' (hw.on q) HP)
 clear hw;unfold vx at HT ⊢
 go_enter Tryz.func54,Tryz.ntmps54
 go_wp2_with (go_at_call 90;refine (HT.out _ ((Q.refl _).alloc _)).mono ?_;rintro e9 w1 ⟨rfl,q1⟩;have Q1:Hid (Q w w1):=hid (((Q.refl _).alloc _).trans q1);clear q1)
 go_ret
 exact ⟨rfl,Q1.out⟩
theorem const_num(n:Int)(t:ByteArray)(b:Bool)(er:Int)(a1 a2:Option Addr)(l1 c1 l2 c2:Nat)(w:World):Calls Tryz.prog 64 #[.agg #[.int .i64 1,.int .i64 n,.string t,.bool b,.int .i64 er,.slice a1 l1 c1,.slice a2 l2 c2]] w fun e w'=>e=.returned (vx 1 n ⟨#[]⟩ false 0)∧Q w w':=by
 unfold vx
 go_enter Tryz.func64,Tryz.ntmps64
 go_wp2
 refine bodyPost_ret (v:=.agg #[.int .i64 1,.int .i64 n,.string ⟨#[]⟩,.bool false,.int .i64 0]) (by simp [results,Tryz.results64,go_sem]) rfl ?_
 exact ⟨rfl,by repeat (first|with_reducible exact Q.refl _|with_reducible refine Q.alloc ?_ _|with_reducible refine Q.setCell ?_ (by simp) _)⟩
theorem flat_id(L:List Value):flat (fun x:Value=>[x]) L=L:=by unfold flat;simp
theorem BuilderAt_on{T e:TypeId}{B b:Nat}{p:Value}{bs:List Value}{w w':World}(h:Lib.BuilderAt T e B b p bs w)(q:Q w w'):Lib.BuilderAt T e B b p bs w':=by
 have hl:=h.lt;obtain ⟨hB,v,hb,ho,hne⟩:=h;refine ⟨hB,v,(Q.block q hl).trans hb,?_,hne⟩
 have h1:Own (fun x:Value=>[x]) e 1 B w v bs:=by unfold Own;rw [flat_id];exact ho
 have h2:=h1.on q;unfold Own at h2
 rw [flat_id]at h2;exact h2
theorem isb_on{T e:TypeId}{B b:Nat}{bs:List Value}{w w':World}(h:Lib.IsBuilder T e B b bs w)(q:Q w w'):Lib.IsBuilder T e B b bs w':=by
 rcases h with h|h
 ·exact .inl (BuilderAt_on h q)
 ·exact .inr (BuilderAt_on h q)
def Bd(W0 W:World)(b:Nat)(bs:List UInt8):Prop:=Lib.IsBuilder 54 5 W0.heap.size b (Lib.byteCells bs) W∧Q W0 W
theorem Bd.on{W0 W W':World}{b:Nat}{bs:List UInt8}(h:Bd W0 W b bs)(q:Q W W'):Bd W0 W' b bs:=⟨isb_on h.1 q,h.2.trans q⟩
theorem bd_write{W0 W:World}{b:Nat}{bs:List UInt8}(h:Bd W0 W b bs)(s:ByteArray)(hs:0<s.size)(hl:bs.length+s.size≤1000000):Calls Tryz.prog 58 #[.pointer (some ⟨b,0,none⟩),.string s] W fun e W'=>(∃ u,e=.returned u)∧Bd W0 W' b (bs++s.data.toList)∧Kp W W':=by
 refine (writeString_any W0.heap.size b _ s W h.1 hs (by rw [Lib.byteCells_length];exact hl) h.2.size).mono ?_
 rintro e w' ⟨hu,h1,h2,h3⟩
 refine ⟨hu,⟨.inr ?_,Below.trans h.2 h2⟩,h3⟩
 rw [Lib.byteCells_append];exact h1
theorem cb_heap{W:World}{q:Nat}{cs:List Value}(h:W.heap[q]?=some (.cells cs.toArray 26 (0,0))):Cb W q cs:=
 ⟨fun j u hu=>by rw [Lib.cell_of_heap h];simpa using hu,fun j=>Lib.frozen_of_heap h j,heap_lt h⟩
def Wri(x:Ex)(T:List UInt8):Prop:=∀ (W0 W:World) (b:Nat) (bs:List UInt8) (v:Value),Gd W0→Bd W0 W b bs→Rd W0 x v→bs.length+T.length≤100000→Calls Tryz.prog 28 #[.pointer (some ⟨b,0,none⟩),v] W fun e W'=>(∃ u,e=.returned u)∧Bd W0 W' b (bs++T)∧Kp W W'
theorem pr_num(n:Int)(T:ByteArray)(hT:0<T.size)(HP:Hid (∀ W,Calls Tryz.prog 120 #[.int .i64 n] W fun e w'=>e=.returned (.string T)∧w'=W)):Wri (numE n) T.data.toList:=by
 intro W0 W b bs v hg hb hr hl
 obtain ⟨k,m,t,bb,er,a1,l1,c1,a2,l2,c2,rfl⟩:=hr.shape;obtain ⟨rfl,rfl⟩:k=1∧m=n:=by
  obtain ⟨k9,n9,t9,b9,e9,rs,ks,rv',kv,ao,cap,hv,hp⟩:=hr.prt;have hx:=hp.ex;unfold numE at hx
  simp only [Ex.mk.injEq]at hx
  simp at hv
  obtain ⟨rfl,rfl,_⟩:=hv;exact ⟨hx.1.symm,hx.2.1.symm⟩
 have HG:=hid hg;have HB:=hid hb;have hl':bs.length+T.size≤1000000:=by rw [←len_data];omega
 clear hr hg hb hl;go_enter Tryz.func28,Tryz.ntmps28
 go_upto_region 1 with fail
 have Z1:=hid (cb_new W [.int .i64 1,.int .i64 m,.string t,.bool bb,.int .i64 er,.slice a1 l1 c1,.slice a2 l2 c2] 26);have B1:=hid (HB.out.on ((Q.refl W).alloc (.cells #[.int .i64 1,.int .i64 m,.string t,.bool bb,.int .i64 er,.slice a1 l1 c1,.slice a2 l2 c2] 26)));rw [show ([.int .i64 1,.int .i64 m,.string t,.bool bb,.int .i64 er,.slice a1 l1 c1,.slice a2 l2 c2]:List Value).toArray=#[.int .i64 1,.int .i64 m,.string t,.bool bb,.int .i64 er,.slice a1 l1 c1,.slice a2 l2 c2] from rfl]at Z1
 have K1:=hid (Kp.of ((Q.refl W).alloc (.cells #[.int .i64 1,.int .i64 m,.string t,.bool bb,.int .i64 er,.slice a1 l1 c1,.slice a2 l2 c2] 26)));generalize W.alloc (.cells #[.int .i64 1,.int .i64 m,.string t,.bool bb,.int .i64 er,.slice a1 l1 c1,.slice a2 l2 c2] 26)=W1 at Z1 B1 K1 ⊢;generalize W.heap.size=b1 at Z1 ⊢;have d0:=Z1.out.c 0 _ rfl;have d1:=Z1.out.c 1 _ rfl;have d2:=Z1.out.c 2 _ rfl;have d3:=Z1.out.c 3 _ rfl;have d4:=Z1.out.c 4 _ rfl;have d5:=Z1.out.c 5 _ rfl;have d6:=Z1.out.c 6 _ rfl;have HC:=hid (fun W'=>const_num m t bb er a1 a2 l1 c1 l2 c2 W')
 have HT:=hid (fun W' (g:Std W')=>plain_num m T W' g HP)
 unfold vx at HC HT
 go_wp2_with (first|(go_at_call 64;refine (HC.out _).mono ?_;rintro e9 w2 ⟨rfl,q2⟩;have B2:=hid (B1.out.on q2);have K2:=hid (K1.out.trans (Kp.of q2));clear q2)|(go_at_call 54;refine (HT.out _ (HG.out.on B2.out.2).1).mono ?_;rintro e9 w3 ⟨rfl,q3⟩;have B3:=hid (B2.out.on q3);have K3:=hid (K2.out.trans (Kp.of q3));clear q3)|(go_at_call 58;refine (bd_write B3.out T hT hl').mono ?_;rintro e9 w4 ⟨⟨u,rfl⟩,b4,k4⟩;have B4:=hid b4;have K4:=hid (K3.out.trans k4);clear b4 k4))
 go_end0
 exact ⟨⟨_,rfl⟩,B4.out,K4.out⟩
def sgE(k:Int)(t:List UInt8):Nat:=if k≠8 then 5 else if t=[42]∨t=[47] then 4 else if t=[43]∨t=[45] then 3 else if t=[38] then 2 else 1
theorem tl_eq{T:ByteArray}{l:List UInt8}(h:T.data.toList=l):(T.toList == l)=true:=by rw [Lib.toList_data,h];simp
theorem tl_ne{T:ByteArray}{l:List UInt8}(h:T.data.toList≠l):(T.toList == l)=false:=by rw [Lib.toList_data,beq_eq_false_iff_ne];exact h
theorem strength8(k n:Int)(t:ByteArray)(b:Bool)(e:Int)(a1 a2:Option Addr)(l1 c1 l2 c2:Nat)(w:World):Calls Tryz.prog 62 #[.agg #[.int .i64 k,.int .i64 n,.string t,.bool b,.int .i64 e,.slice a1 l1 c1,.slice a2 l2 c2]] w fun x w'=>x=.returned (.int .i64 (sgE k t.data.toList:Int))∧Q w w':=by
 unfold sgE
 by_cases hk:k≠8
 ·rw [if_pos hk]
  have f0:(k == 8)=false:=by simpa using hk
  clear hk;go_enter Tryz.func62,Tryz.ntmps62
  go_wp2
  go_ret
  exact ⟨rfl,(Q.refl _).alloc _⟩
 ·rw [if_neg hk]
  have hk':k=8:=by simpa using hk
  subst hk';clear hk;by_cases h1:t.data.toList=[42]
  ·have f1:=tl_eq h1
   rw [if_pos (.inl h1)];clear h1;go_enter Tryz.func62,Tryz.ntmps62
   go_wp2
   go_ret
   exact ⟨rfl,(Q.refl _).alloc _⟩
  ·have f1:=tl_ne h1
   by_cases h2:t.data.toList=[47]
   ·have f2:=tl_eq h2
    rw [if_pos (.inr h2)];clear h1 h2;go_enter Tryz.func62,Tryz.ntmps62
    go_wp2
    go_ret
    exact ⟨rfl,(Q.refl _).alloc _⟩
   ·have f2:=tl_ne h2
    rw [if_neg (fun e=>e.elim h1 h2)]
    by_cases h3:t.data.toList=[43]
    ·have f3:=tl_eq h3
     rw [if_pos (.inl h3)];clear h1 h2 h3;go_enter Tryz.func62,Tryz.ntmps62
     go_wp2
     go_ret
     exact ⟨rfl,(Q.refl _).alloc _⟩
    ·have f3:=tl_ne h3
     by_cases h4:t.data.toList=[45]
     ·have f4:=tl_eq h4
      rw [if_pos (.inr h4)];clear h1 h2 h3 h4;go_enter Tryz.func62,Tryz.ntmps62
      go_wp2
      go_ret
      exact ⟨rfl,(Q.refl _).alloc _⟩
     ·have f4:=tl_ne h4
      rw [if_neg (fun e=>e.elim h3 h4)]
      by_cases h5:t.data.toList=[38]
      ·have f5:=tl_eq h5
       rw [if_pos h5];clear h1 h2 h3 h4 h5;go_enter Tryz.func62,Tryz.ntmps62
       go_wp2
       go_ret
       exact ⟨rfl,(Q.refl _).alloc _⟩
      ·have f5:=tl_ne h5
       rw [if_neg h5];clear h1 h2 h3 h4 h5;go_enter Tryz.func62,Tryz.ntmps62
       go_wp2
       go_ret
       exact ⟨rfl,(Q.refl _).alloc _⟩
theorem pr_ref(r:Rf)(hs:r.1.length≤1000)(hT:0<(prR r.1 r.2.1 r.2.2.1 r.2.2.2.1 r.2.2.2.2).length):Wri (refE r) (prR r.1 r.2.1 r.2.2.1 r.2.2.2.1 r.2.2.2.2):=by
 intro W0 W b bs v hg hb hr hl
 obtain ⟨k,m,t,bb,er,rs,ks,rv',kv,ao,cap,rfl,hp⟩:=hr.prt;have hx:=hp.ex;unfold refE at hx
 simp only [Ex.mk.injEq]at hx
 obtain ⟨rfl,rfl,ht,rfl,rfl,rfl,rfl⟩:=hx;have hkl:=hp.kl;subst hkl;obtain ⟨rb,ro,rc,hrv,_,hrc,hra⟩:=hp.rl.at (i:=0) (by simp)
 subst hrv;obtain ⟨sh,row,col,ra,ca⟩:=r;simp only at hs hT hl ⊢
 have r0:W0.cell? ⟨rb,ro,none⟩=some (.string ⟨sh.toArray⟩):=by have:=hra 0 _ rfl;simpa using this
 have r1:W0.cell? ⟨rb,ro+1,none⟩=some (.int .i64 row):=by have:=hra 1 _ rfl;simpa using this
 have r2:W0.cell? ⟨rb,ro+2,none⟩=some (.int .i64 col):=by have:=hra 2 _ rfl;simpa using this
 have r3:W0.cell? ⟨rb,ro+3,none⟩=some (.bool ra):=by have:=hra 3 _ rfl;simpa using this
 have r4:W0.cell? ⟨rb,ro+4,none⟩=some (.bool ca):=by have:=hra 4 _ rfl;simpa using this
 have hlt:rb<W0.heap.size:=World.block_lt_of_cell? W0 _ r0
 have HG:=hid hg;have HB:=hid hb;have HPr:=hid (fun W' (g:Gd W')=>print_any ⟨sh.toArray⟩ row col ra ca W' g.1 g.2 (by rw [size_mk];exact hs))
 obtain ⟨T,hTT⟩:∃ T:ByteArray,(⟨(prR sh row col ra ca).toArray⟩:ByteArray)=T:=⟨_,rfl⟩;have hTl:T.data.toList=prR sh row col ra ca:=by rw [←hTT]
 have hT0:0<T.size:=by rw [←len_data,hTl];exact hT
 have hl':bs.length+T.size≤1000000:=by rw [←len_data,hTl];omega
 rw [show (⟨sh.toArray⟩:ByteArray).data.toList=sh from rfl,hTT]at HPr
 rw [←hTl];clear hr hg hb hl hp hra hs hT hTl hTT;go_enter Tryz.func28,Tryz.ntmps28
 go_upto_region 1 with fail
 have Z1:=hid (cb_new W [.int .i64 5,.int .i64 0,.string t,.bool false,.int .i64 0,.slice (some ⟨rb,ro,none⟩) 1 rc,.slice ao 0 cap] 26);have B1:=hid (HB.out.on ((Q.refl W).alloc (.cells #[.int .i64 5,.int .i64 0,.string t,.bool false,.int .i64 0,.slice (some ⟨rb,ro,none⟩) 1 rc,.slice ao 0 cap] 26)));rw [show ([.int .i64 5,.int .i64 0,.string t,.bool false,.int .i64 0,.slice (some ⟨rb,ro,none⟩) 1 rc,.slice ao 0 cap]:List Value).toArray=#[.int .i64 5,.int .i64 0,.string t,.bool false,.int .i64 0,.slice (some ⟨rb,ro,none⟩) 1 rc,.slice ao 0 cap] from rfl]at Z1
 have K1:=hid (Kp.of ((Q.refl W).alloc (.cells #[.int .i64 5,.int .i64 0,.string t,.bool false,.int .i64 0,.slice (some ⟨rb,ro,none⟩) 1 rc,.slice ao 0 cap] 26)));generalize W.alloc (.cells #[.int .i64 5,.int .i64 0,.string t,.bool false,.int .i64 0,.slice (some ⟨rb,ro,none⟩) 1 rc,.slice ao 0 cap] 26)=W1 at Z1 B1 K1 ⊢;generalize W.heap.size=b1 at Z1 ⊢;have d0:=Z1.out.c 0 _ rfl;have d1:=Z1.out.c 1 _ rfl;have d2:=Z1.out.c 2 _ rfl;have d3:=Z1.out.c 3 _ rfl;have d4:=Z1.out.c 4 _ rfl;have d5:=Z1.out.c 5 _ rfl;have d6:=Z1.out.c 6 _ rfl;have x0:=(B1.out.2.cell hlt).trans r0;have x1:=(B1.out.2.cell hlt).trans r1;have x2:=(B1.out.2.cell hlt).trans r2;have x3:=(B1.out.2.cell hlt).trans r3;have x4:=(B1.out.2.cell hlt).trans r4;generalize (⟨sh.toArray⟩:ByteArray)=S at HPr x0;unfold rv at HPr
 clear r0 r1 r2 r3 r4;go_wp2_with (first|(go_at_call 60;refine (HPr.out _ (HG.out.on B1.out.2)).mono ?_;rintro e9 w3 ⟨rfl,q3⟩;have B3:=hid (B1.out.on q3);have K3:=hid (K1.out.trans (Kp.of q3));clear q3)|(go_at_call 58;refine (bd_write B3.out T hT0 hl').mono ?_;rintro e9 w4 ⟨⟨u,rfl⟩,b4,k4⟩;have B4:=hid b4;have K4:=hid (K3.out.trans k4);clear b4 k4))
 go_end0
 exact ⟨⟨_,rfl⟩,B4.out,K4.out⟩
def brk(br:Bool)(T:List UInt8):List UInt8:=if br then 40::(T++[41]) else T
theorem side_any(x:Ex)(T:List UInt8)(hx:Wri x T)(W0 W:World)(b:Nat)(bs:List UInt8)(v:Value)(br:Bool)(hg:Gd W0)(hb:Bd W0 W b bs)(hr:Rd W0 x v)(hl:bs.length+(brk br T).length≤100000):Calls Tryz.prog 61 #[.pointer (some ⟨b,0,none⟩),v,.bool br] W fun e W'=>(∃ u,e=.returned u)∧Bd W0 W' b (bs++brk br T)∧Kp W W':=by
 have HX:=hid (fun W' bs' (h:Bd W0 W' b bs') (hl':bs'.length+T.length≤100000)=>hx W0 W' b bs' v hg h hr hl')
 obtain ⟨k,m,t,bb,er,a1,l1,c1,a2,l2,c2,rfl⟩:=hr.shape;have HB:=hid hb;clear hr hg hb;cases br with
 |false=>
  rw [show brk false T=T from rfl]at hl ⊢
  go_enter Tryz.func61,Tryz.ntmps61
  go_upto_region 1 with fail
  have H1:=hid (heap_alloc_new W (.cells #[.int .i64 k,.int .i64 m,.string t,.bool bb,.int .i64 er,.slice a1 l1 c1,.slice a2 l2 c2] 26));have B1:=hid (HB.out.on ((Q.refl W).alloc (.cells #[.int .i64 k,.int .i64 m,.string t,.bool bb,.int .i64 er,.slice a1 l1 c1,.slice a2 l2 c2] 26)));have K1:=hid (Kp.of ((Q.refl W).alloc (.cells #[.int .i64 k,.int .i64 m,.string t,.bool bb,.int .i64 er,.slice a1 l1 c1,.slice a2 l2 c2] 26)));generalize W.alloc (.cells #[.int .i64 k,.int .i64 m,.string t,.bool bb,.int .i64 er,.slice a1 l1 c1,.slice a2 l2 c2] 26)=W1 at H1 B1 K1 ⊢;generalize W.heap.size=b1 at H1 ⊢;have Z1:=hid (cb_heap (cs:=[.int .i64 k,.int .i64 m,.string t,.bool bb,.int .i64 er,.slice a1 l1 c1,.slice a2 l2 c2]) H1.out);have d0:=Z1.out.c 0 _ rfl;have d1:=Z1.out.c 1 _ rfl;have d2:=Z1.out.c 2 _ rfl;have d3:=Z1.out.c 3 _ rfl;have d4:=Z1.out.c 4 _ rfl;have d5:=Z1.out.c 5 _ rfl;have d6:=Z1.out.c 6 _ rfl;go_wp2_with (go_at_call 28;refine (HX.out _ _ B1.out (by omega)).mono ?_;rintro e9 w4 ⟨⟨u,rfl⟩,b4,k4⟩;have B4:=hid b4;have K4:=hid (K1.out.trans k4);clear b4 k4)
  refine bodyPost_ret (v:=.tuple #[]) (by simp [results,Tryz.results61,go_sem]) rfl ?_
  exact ⟨⟨_,rfl⟩,B4.out,K4.out⟩
 |true=>
  have hl2:bs.length+T.length+2≤100000:=by
   unfold brk at hl
   simp at hl
   omega
  have HBE:Hid (((bs++[40])++T)++[41]=bs++brk true T):=by show _=_;unfold brk;simp
  rw [←HBE.out];clear HBE;go_enter Tryz.func61,Tryz.ntmps61
  go_upto_region 1 with fail
  have H1:=hid (heap_alloc_new W (.cells #[.int .i64 k,.int .i64 m,.string t,.bool bb,.int .i64 er,.slice a1 l1 c1,.slice a2 l2 c2] 26));have B1:=hid (HB.out.on ((Q.refl W).alloc (.cells #[.int .i64 k,.int .i64 m,.string t,.bool bb,.int .i64 er,.slice a1 l1 c1,.slice a2 l2 c2] 26)));have K1:=hid (Kp.of ((Q.refl W).alloc (.cells #[.int .i64 k,.int .i64 m,.string t,.bool bb,.int .i64 er,.slice a1 l1 c1,.slice a2 l2 c2] 26)));generalize W.alloc (.cells #[.int .i64 k,.int .i64 m,.string t,.bool bb,.int .i64 er,.slice a1 l1 c1,.slice a2 l2 c2] 26)=W1 at H1 B1 K1 ⊢;generalize W.heap.size=b1 at H1 ⊢;have Z1:=hid (cb_heap (cs:=[.int .i64 k,.int .i64 m,.string t,.bool bb,.int .i64 er,.slice a1 l1 c1,.slice a2 l2 c2]) H1.out);have d0:=Z1.out.c 0 _ rfl;have d1:=Z1.out.c 1 _ rfl;have d2:=Z1.out.c 2 _ rfl;have d3:=Z1.out.c 3 _ rfl;have d4:=Z1.out.c 4 _ rfl;have d5:=Z1.out.c 5 _ rfl;have d6:=Z1.out.c 6 _ rfl;go_wp2_with (first|(go_at_call 28;refine (HX.out _ _ B2.out (by rw [List.length_append];simp only [List.length_cons,List.length_nil];omega)).mono ?_;rintro e9 w3 ⟨⟨u,rfl⟩,b3,k3⟩;have B3:=hid b3;have K3:=hid (K2.out.trans k3);clear b3 k3)|(go_at_call 58;refine (bd_write B3.out ⟨#[41]⟩ (by decide) (by show _+1≤1000000;simp only [List.length_append,List.length_cons,List.length_nil];omega)).mono ?_;rintro e9 w4 ⟨⟨u,rfl⟩,b4,k4⟩;have B4:=hid b4;have K4:=hid (K3.out.trans k4);clear b4 k4)|(go_at_call 58;refine (bd_write B1.out ⟨#[40]⟩ (by decide) (by show bs.length+1≤1000000;omega)).mono ?_;rintro e9 w2 ⟨⟨u,rfl⟩,b2,k2⟩;have B2:=hid b2;have K2:=hid (K1.out.trans k2);have Z2:=hid (cb_heap (cs:=[.int .i64 k,.int .i64 m,.string t,.bool bb,.int .i64 er,.slice a1 l1 c1,.slice a2 l2 c2]) ((k2 _ _ _ H1.out).trans H1.out));clear b2 k2;have x0:=Z2.out.c 0 _ rfl;have x1:=Z2.out.c 1 _ rfl;have x2:=Z2.out.c 2 _ rfl;have x3:=Z2.out.c 3 _ rfl;have x4:=Z2.out.c 4 _ rfl;have x5:=Z2.out.c 5 _ rfl;have x6:=Z2.out.c 6 _ rfl))
  go_end0
  exact ⟨⟨_,rfl⟩,B4.out,K4.out⟩
end Go.Proofs.YtgheopdadfnilaaGreatDoor
