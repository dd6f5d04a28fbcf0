/- The program reads what the ref. -/
import Derived.Test.YtgheopdadfnilaaGreatDoorKf01
import Derived.BigQuiet
set_option linter.unusedVariables false
set_option linter.unusedSimpArgs false
set_option maxRecDepth 100000
set_option maxHeartbeats 8000000
namespace Go.Proofs.YtgheopdadfnilaaGreatDoor
def nodes:Ex→Nat
 |.mk _ _ _ _ _ _ ks=>1+nodesL ks
 where
 nodesL:List Ex→Nat
 |[]=>0
 |x::xs=>nodes x+nodesL xs
theorem nodesL_snoc(ks:List Ex)(x:Ex):nodes.nodesL (ks++[x])=nodes.nodesL ks+nodes x:=by
 induction ks with
 |nil=>simp [nodes.nodesL]
 |cons y ys ih=>rw [List.cons_append,nodes.nodesL,nodes.nodesL,ih];omega
theorem nodes_leaf(k n:Int)(t:List UInt8)(b:Bool)(e:Int)(rs:List Rf):nodes (.mk k n t b e rs [])=1:=by simp [nodes,nodes.nodesL]
theorem nodes_neg(x:Ex):nodes (negE x)=nodes x+1:=by simp [negE,nodes,nodes.nodesL];omega
theorem nodes_bin(t:List UInt8)(x y:Ex):nodes (binE t x y)=nodes x+nodes y+1:=by simp [binE,nodes,nodes.nodesL];omega
theorem nodes_call(t:List UInt8)(ks:List Ex):nodes (callE t ks)=nodes.nodesL ks+1:=by simp [callE,nodes];omega
structure Good (E:Env) (L:List Wd):Prop where
 num:∀ i,i<L.length→kAt L i=1→E.nok (tAt L i)=true
 ref:∀ i,i<L.length→kAt L i=3→E.rok (tAt L i)=true
 err:∀ i,i<L.length→kAt L i=5→E.err (tAt L i)≠0
 nam:∀ i,i<L.length→kAt L i=4→tAt L i=truW∨tAt L i=flsW∨E.nam (tAt L i)=decide ((tAt L i).length≤20)
def Ag(c:Nat)(r:Ex × St):Option (Ex × Nat)→Prop
 |none=>r.2.bd=true
 |some (x,j)=>r.1=x∧r.2.i=j∧r.2.bd=false∧r.2.n=c+nodes x
theorem loop_post{E:Env}{L:List Wd}:∀ {g lv:Nat} {x y:Ex} {j k:Nat},ptF.plF E L g lv x j=some (some (y,k))→stg L k<lv:=by
 intro g
 induction g with
 |zero=>intro lv x y j k h;unfold ptF.plF at h;cases h
 |succ g ih=>
  intro lv x y j k h
  rw [ptF.plF]at h
  split at h
  ·obtain ⟨o,h1,h2⟩:=Option.bind_eq_some_iff.1 h
   cases o with
   |none=>cases h2
   |some r=>exact ih h2
  ·cases h
   omega
theorem tree_post{E:Env}{L:List Wd}{g lv i:Nat}{y:Ex}{k:Nat}(h:ptF E L g lv i=some (some (y,k))):stg L k<lv:=by
 cases g with
 |zero=>unfold ptF at h;cases h
 |succ g=>
  rw [ptF]at h;obtain ⟨o,h1,h2⟩:=Option.bind_eq_some_iff.1 h;cases o with
  |none=>cases h2
  |some r=>exact loop_post h2
theorem loop_split{E:Env}{L:List Wd}:∀ {g lv:Nat} {x:Ex} {j:Nat} {o:Option (Ex × Nat)},ptF.plF E L g (lv+1) x j=some o →
  (o=none→∃ g',ptF.plF E L g' lv x j=some none)∧(∀ y k q g2,o=some (y,k)→ptF.plF E L g2 lv y k=some q→∃ g',ptF.plF E L g' lv x j=some q):=by
 intro g
 induction g with
 |zero=>intro lv x j o h;unfold ptF.plF at h;cases h
 |succ g ih=>
  intro lv x j o h
  rw [ptF.plF]at h
  split at h
  ·rename_i hc
   obtain ⟨o1,h1,h2⟩:=Option.bind_eq_some_iff.1 h;cases o1 with
   |none=>
    cases h2
    refine ⟨fun _=>⟨g+1,?_⟩,fun y k q g2 e=>by cases e⟩
    rw [ptF.plF,if_pos (by omega)]
    exact Option.bind_eq_some_iff.2 ⟨none,h1,rfl⟩
   |some r=>
    obtain ⟨a1,a2⟩:=ih h2;refine ⟨fun e=>?_,fun y k q g2 e hq=>?_⟩
    ·obtain ⟨g',hg⟩:=a1 e
     refine ⟨max g g'+1,?_⟩
     rw [ptF.plF,if_pos (by omega)]
     exact Option.bind_eq_some_iff.2 ⟨some r,ptF_le h1 (Nat.le_max_left _ _),plF_le hg (Nat.le_max_right _ _)⟩
    ·obtain ⟨g',hg⟩:=a2 y k q g2 e hq
     refine ⟨max g g'+1,?_⟩
     rw [ptF.plF,if_pos (by omega)]
     exact Option.bind_eq_some_iff.2 ⟨some r,ptF_le h1 (Nat.le_max_left _ _),plF_le hg (Nat.le_max_right _ _)⟩
  ·cases h
   refine ⟨(fun e=>by cases e),fun y k q g2 e hq=>?_⟩
   cases e
   exact ⟨g2,hq⟩
theorem ag_some{c:Nat}{r:Ex × St}{x:Ex}{j:Nat}(h1:r.1=x)(h2:r.2.i=j)(h3:r.2.bd=false)(h4:r.2.n=c+nodes x):Ag c r (some (x,j)):=⟨h1,h2,h3,h4⟩
theorem ag_none{c:Nat}{r:Ex × St}(h:r.2.bd=true):Ag c r none:=h
theorem one_same{E:Env}{L:List Wd}(hG:Good E L){s:St}(hs:s.i<L.length)(hb:s.bd=false):Ag s.n (oneF E L s) (poneF E L s.i):=by
 unfold oneF poneF
 by_cases k1:kAt L s.i=1
 ·rw [if_pos k1,if_pos k1,if_pos (hG.num _ hs k1)]
  exact ag_some rfl rfl hb (by rw [numE,nodes_leaf];rfl)
 ·rw [if_neg k1,if_neg k1]
  by_cases k2:kAt L s.i=2
  ·rw [if_pos k2,if_pos k2]
   exact ag_some rfl rfl hb (by rw [textE,nodes_leaf];rfl)
  ·rw [if_neg k2,if_neg k2]
   by_cases k5:kAt L s.i=5
   ·rw [if_pos k5,if_pos k5,if_neg (hG.err _ hs k5)]
    exact ag_some rfl rfl hb (by rw [errE,nodes_leaf];rfl)
   ·rw [if_neg k5,if_neg k5]
    by_cases k3:kAt L s.i=3
    ·rw [if_pos k3,if_pos k3,if_neg (show ¬ E.rok (tAt L s.i)=false by rw [hG.ref _ hs k3];simp)]
     by_cases hc:isW L (s.i+1) [58]=true
     ·rw [if_pos hc,if_pos hc]
      by_cases hr:kAt L (s.i+2)=3∧E.rok (tAt L (s.i+2))=true∧(E.ref (tAt L (s.i+2))).1=[]
      ·rw [if_pos hr,if_pos hr]
       exact ag_some rfl rfl hb (by rw [rangeE,nodes_leaf];rfl)
      ·rw [if_neg hr,if_neg hr]
       exact ag_none rfl
     ·rw [if_neg hc,if_neg hc]
      exact ag_some rfl rfl hb (by rw [refE,nodes_leaf];rfl)
    ·rw [if_neg k3,if_neg k3]
     exact ag_none rfl
def contF(E:Env)(L:List Wd)(g:Nat)(t:List UInt8)(ks:List Ex)(j:Nat):Option (Option (Ex × Nat)):=
 if isW L j [44] then ptF.pgF E L g t ks (j+1) else some (if isW L j [41] then some (callE t ks,j+1) else none)
theorem isW_one{L:List Wd}{i:Nat}{s t:List UInt8}(h:isW L i s=true)(hn:s≠t):isW L i t=false:=by
 cases hw:isW L i t
 ·rfl
 ·exact absurd ((isW_six h).2.2.symm.trans (isW_six hw).2.2) hn
theorem pt_five{E:Env}{L:List Wd}{g i:Nat}{o:Option (Ex × Nat)}(h:ptF E L g 5 i=some o):∃ g',ptF.paF E L g' i=some o:=by
 cases g with
 |zero=>unfold ptF at h;cases h
 |succ g=>
  rw [ptF]at h;obtain ⟨o1,h1,h2⟩:=Option.bind_eq_some_iff.1 h;refine ⟨g,?_⟩
  cases o1 with
  |none=>cases h2;exact h1
  |some r=>
   have hl:=stg_le L r.2;cases g with
   |zero=>unfold ptF.plF at h2;cases h2
   |succ g=>
    simp only at h2
    rw [ptF.plF,if_neg (by omega)]at h2
    cases h2
    exact h1
theorem same_all(E:Env)(L:List Wd)(hE:Ends L)(hG:Good E L):∀ f:Nat,
  (∀ lv s r,1≤lv→lv≤5→s.i<L.length→s.bd=false→treeF E L f lv s=some r→∃ g o,ptF E L g lv s.i=some o∧Ag s.n r o) ∧
  (∀ lv x s r c,1≤lv→s.i<L.length→s.bd=false→stg L s.i≤lv→s.n=c+nodes x→treeF.loopF E L f lv x s=some r→∃ g o,ptF.plF E L g lv x s.i=some o∧Ag c r o) ∧
  (∀ s r,s.i<L.length→s.bd=false→treeF.aheadF E L f s=some r→∃ g o,ptF.paF E L g s.i=some o∧Ag s.n r o) ∧
  (∀ s r,s.i<L.length→s.bd=false→treeF.firstF E L f s=some r→∃ g o,ptF.pfF E L g s.i=some o∧Ag s.n r o) ∧
  (∀ t ks s r c,s.i<L.length→s.bd=false→ks≠[]→ks.length≤30→s.n=c+nodes.nodesL ks→treeF.argsF E L f t ks s=some r→∃ g o,contF E L g t ks s.i=some o∧Ag c r o):=by
 intro f
 induction f with
 |zero=>
  refine ⟨?_,?_,?_,?_,?_⟩
  ·intro lv s r _ _ _ _ h;unfold treeF at h;cases h
  ·intro lv x s r c _ _ _ _ _ h;unfold treeF.loopF at h;cases h
  ·intro s r _ _ h;unfold treeF.aheadF at h;cases h
  ·intro s r _ _ h;unfold treeF.firstF at h;cases h
  ·intro t ks s r c _ _ _ _ _ h;unfold treeF.argsF at h;cases h
 |succ f ih=>
  obtain ⟨iT,iL,iA,iF,iG⟩:=ih;refine ⟨?_,?_,?_,?_,?_⟩
  ·intro lv s r hv hv5 hs hb h
   rw [treeF,if_neg (by rw [hb];simp)]at h
   split at h
   ·rename_i e5
    subst e5;obtain ⟨g,o,h1,h2⟩:=iA _ _ hs hb h;cases o with
    |none=>exact ⟨g+1,none,by rw [ptF];exact Option.bind_eq_some_iff.2 ⟨none,h1,rfl⟩,h2⟩
    |some q=>
     refine ⟨g+1+1,some q,?_,h2⟩
     rw [ptF];refine Option.bind_eq_some_iff.2 ⟨some q,paF_le h1 (by omega),?_⟩
     have hl:=stg_le L q.2;simp only
     rw [ptF.plF,if_neg (by omega)]
   ·rename_i hn5
    obtain ⟨r1,h1,h2⟩:=Option.bind_eq_some_iff.1 h;obtain ⟨g,o,h3,h4⟩:=iT _ _ _ (by omega) (by omega) hs hb h1
    have hw:=((fwd_all E L hE f).1 _ _ _ (by omega) h1 hs).1
    -- the program's tree at the next level
    cases g with
    |zero=>unfold ptF at h3;cases h3
    |succ g=>
     rw [ptF]at h3;obtain ⟨oa,h5,h6⟩:=Option.bind_eq_some_iff.1 h3;cases oa with
     |none=>
      cases h6
      have hbd:r1.2.bd=true:=h4
      have e:r=(r1.1,r1.2):=by
       cases f with
       |zero=>unfold treeF.loopF at h2;cases h2
       |succ f=>rw [treeF.loopF,if_neg (by rw [hbd];simp)]at h2;exact (Option.some.inj h2).symm
      refine ⟨g+1,none,by rw [ptF];exact Option.bind_eq_some_iff.2 ⟨none,h5,rfl⟩,?_⟩
      rw [e];exact hbd
     |some q=>
      simp only at h6
      obtain ⟨b1,b2⟩:=loop_split h6;cases o with
      |none=>
       have hbd:r1.2.bd=true:=h4
       have e:r=(r1.1,r1.2):=by
        cases f with
        |zero=>unfold treeF.loopF at h2;cases h2
        |succ f=>rw [treeF.loopF,if_neg (by rw [hbd];simp)]at h2;exact (Option.some.inj h2).symm
       obtain ⟨g',hg⟩:=b1 rfl;refine ⟨max g g'+1,none,?_,by rw [e];exact hbd⟩
       rw [ptF];exact Option.bind_eq_some_iff.2 ⟨some q,paF_le h5 (Nat.le_max_left _ _),plF_le hg (Nat.le_max_right _ _)⟩
      |some yk=>
       obtain ⟨y,k⟩:=yk;obtain ⟨c1,c2,c3,c4⟩:=h4;have hp:=loop_post h6;obtain ⟨g2,o2,h7,h8⟩:=iL lv r1.1 r1.2 r s.n hv hw.lt c3 (by rw [c2];omega) (by rw [c1];exact c4) h2
       rw [c1,c2]at h7;obtain ⟨g',hg⟩:=b2 y k o2 g2 rfl h7;refine ⟨max g g'+1,o2,?_,h8⟩
       rw [ptF];exact Option.bind_eq_some_iff.2 ⟨some q,paF_le h5 (Nat.le_max_left _ _),plF_le hg (Nat.le_max_right _ _)⟩
  ·intro lv x s r c hv hs hb hst hn h
   rw [treeF.loopF]at h
   split at h
   ·rename_i hc
    obtain ⟨r1,h1,h2⟩:=Option.bind_eq_some_iff.1 h;have hs2:s.on.i<L.length:=hE _ hs (by have:=stg_six (L:=L) (i:=s.i) (by omega);omega)
    have hl:=stg_le L s.i;obtain ⟨g,o,h3,h4⟩:=iT _ _ _ (by omega) (by omega) hs2 hb h1
    have hw:=((fwd_all E L hE f).1 _ _ _ (by omega) h1 hs2).1
    simp only [on_i]at h3
    have e1:stg L s.i+1=lv+1:=by omega
    cases o with
    |none=>
     have hbd:r1.2.bd=true:=h4
     have e:r=(binE (tAt L s.i) x r1.1,r1.2.node):=by
      cases f with
      |zero=>unfold treeF.loopF at h2;cases h2
      |succ f=>rw [treeF.loopF,if_neg (by rw [node_bd,hbd];simp)]at h2;exact (Option.some.inj h2).symm
     refine ⟨g+1,none,?_,by rw [e];exact hbd⟩
     rw [ptF.plF,if_pos (by omega),e1]
     exact Option.bind_eq_some_iff.2 ⟨none,h3,rfl⟩
    |some yk=>
     obtain ⟨y,k⟩:=yk;obtain ⟨c1,c2,c3,c4⟩:=h4;have hp:=tree_post h3;obtain ⟨g2,o2,h7,h8⟩:=iL lv _ r1.2.node r c hv hw.lt c3 (by rw [node_i,c2];omega) (by rw [node_n,c4,nodes_bin,c1,on_n,hn];omega) h2
     simp only [node_i]at h7
     rw [c1,c2]at h7;refine ⟨max g g2+1,o2,?_,h8⟩
     rw [ptF.plF,if_pos (by omega),e1]
     exact Option.bind_eq_some_iff.2 ⟨some (y,k),ptF_le h3 (Nat.le_max_left _ _),plF_le h7 (Nat.le_max_right _ _)⟩
   ·rename_i hc
    cases h
    have:stg L s.i≠lv:=fun e=>hc ⟨hb,e⟩
    exact ⟨1,some (x,s.i),by rw [ptF.plF,if_neg (by omega)],rfl,rfl,hb,hn⟩
  ·intro s r hs hb h
   rw [treeF.aheadF]at h
   split at h
   ·rename_i hc
    obtain ⟨r1,h1,h2⟩:=Option.bind_eq_some_iff.1 h;cases h2
    have hs2:s.on.i<L.length:=hE.sign hc
    obtain ⟨g,o,h3,h4⟩:=iT _ _ _ (by omega) (by omega) hs2 hb h1
    obtain ⟨g',h5⟩:=pt_five h3;simp only [on_i]at h5
    cases o with
    |none=>exact ⟨g'+1,none,by rw [ptF.paF,if_pos hc];exact Option.bind_eq_some_iff.2 ⟨none,h5,rfl⟩,h4⟩
    |some yk=>
     obtain ⟨y,k⟩:=yk;obtain ⟨c1,c2,c3,c4⟩:=h4;refine ⟨g'+1,some (negE y,k),by rw [ptF.paF,if_pos hc];exact Option.bind_eq_some_iff.2 ⟨some (y,k),h5,rfl⟩,by simp only [c1],c2,c3,?_⟩
     rw [nodes_neg];simp only [node_n,c4,on_n]
     omega
   ·rename_i hc
    obtain ⟨g,o,h1,h2⟩:=iF _ _ hs hb h;exact ⟨g+1,o,by rw [ptF.paF,if_neg hc];exact h1,h2⟩
  ·intro s r hs hb h
   rw [treeF.firstF]at h
   split at h
   ·rename_i hc
    obtain ⟨r1,h1,h2⟩:=Option.bind_eq_some_iff.1 h;cases h2
    have hs2:s.on.i<L.length:=hE.sign hc
    obtain ⟨g,o,h3,h4⟩:=iT _ _ _ (by omega) (by omega) hs2 hb h1
    simp only [on_i]at h3
    cases o with
    |none=>exact ⟨g+1,none,by rw [ptF.pfF,if_pos hc];exact Option.bind_eq_some_iff.2 ⟨none,h3,rfl⟩,close_bd h4⟩
    |some yk=>
     obtain ⟨y,k⟩:=yk;obtain ⟨c1,c2,c3,c4⟩:=h4;refine ⟨g+1,if isW L k [41] then some (y,k+1) else none,by rw [ptF.pfF,if_pos hc];exact Option.bind_eq_some_iff.2 ⟨some (y,k),h3,rfl⟩,?_⟩
     unfold closeS
     rw [if_neg (by rw [c3];simp),c2]
     split
     ·exact ⟨c1,by simp only [on_i,c2],c3,by simp only [on_n];exact c4⟩
     ·rfl
   ·rename_i hc
    split at h
    ·rename_i hk
     split at h
     ·rename_i ht
      cases h
      exact ⟨1,some (boolE (decide (tAt L s.i=truW)),s.i+1),by rw [ptF.pfF,if_neg hc,if_pos hk,if_pos ht],ag_some rfl rfl hb (by rw [boolE,nodes_leaf];rfl)⟩
     ·rename_i ht
      have hnam:E.nam (tAt L s.i)=decide ((tAt L s.i).length≤20):=by
       rcases hG.nam _ hs hk with e|e|e
       ·exact absurd (.inl e) ht
       ·exact absurd (.inr e) ht
       ·exact e
      split at h
      ·rename_i h40
       have hs3:s.on.on.i<L.length:=hE.sign h40
       split at h
       ·rename_i hl
        cases h
        refine ⟨1,none,?_,rfl⟩
        rw [ptF.pfF,if_neg hc,if_pos hk,if_neg ht,if_neg]
        rintro ⟨e,_⟩
        rw [hnam]at e;simp at e
        omega
       ·rename_i hl
        have hy:E.nam (tAt L s.i)=true∧isW L (s.i+1) [40]=true:=⟨by rw [hnam];simp;omega,h40⟩
        cases f with
        |zero=>unfold treeF.argsF at h;cases h
        |succ f=>
         by_cases h41:isW L (s.i+2) [41]=true
         ·rw [treeF.argsF,if_neg (by rw [on_bd,on_bd,hb];simp),if_pos (show isW L s.on.on.i [41]=true from h41)]at h
          cases h
          exact ⟨1,some (callE (tAt L s.i) [],s.i+3),by rw [ptF.pfF,if_neg hc,if_pos hk,if_neg ht,if_pos hy,if_pos h41],ag_some rfl rfl hb (by rw [nodes_call,nodes.nodesL];rfl)⟩
         ·rw [treeF.argsF,if_neg (by rw [on_bd,on_bd,hb];simp),if_neg (show ¬ isW L s.on.on.i [41]=true from h41),if_neg (by simp),if_pos rfl]at h
          obtain ⟨r1,h1,h2⟩:=Option.bind_eq_some_iff.1 h;obtain ⟨g,o,h3,h4⟩:=iT _ _ _ (by omega) (by omega) hs3 hb ((mono_ref E L _).1 _ _ _ h1)
          have hw:=((fwd_all E L hE f).1 _ _ _ (by omega) h1 hs3).1
          simp only [on_i]at h3
          cases o with
          |none=>
           have hbd:r1.2.bd=true:=h4
           refine ⟨g+1+1,none,?_,?_⟩
           ·rw [ptF.pfF,if_neg hc,if_pos hk,if_neg ht,if_pos hy,if_neg h41,ptF.pgF,if_pos (by simp)]
            exact Option.bind_eq_some_iff.2 ⟨none,h3,rfl⟩
           ·cases f with
            |zero=>unfold treeF.argsF at h2;cases h2
            |succ f=>
             rw [treeF.argsF,if_pos (by rw [argS_bd,hbd];rfl)]at h2
             cases h2
             show (argS [] r1.2).bd=true
             rw [argS_bd,hbd]
             rfl
          |some yk=>
           obtain ⟨y,k⟩:=yk;obtain ⟨c1,c2,c3,c4⟩:=h4;obtain ⟨g2,o2,h7,h8⟩:=iG _ _ (argS [] r1.2) r s.n hw.lt (by rw [argS_bd,c3];rfl) (by simp) (by simp) (by rw [argS_n,c4,List.nil_append,nodes.nodesL,nodes.nodesL,c1];rfl) ((mono_ref E L _).2.2.2.2 _ _ _ _ h2)
           simp only [argS_i]at h7
           rw [c1,c2]at h7;refine ⟨max g g2+1+1,o2,?_,h8⟩
           rw [ptF.pfF,if_neg hc,if_pos hk,if_neg ht,if_pos hy,if_neg h41,ptF.pgF,if_pos (by simp)]
           refine Option.bind_eq_some_iff.2 ⟨some (y,k),ptF_le h3 (Nat.le_max_left _ _),?_⟩
           unfold contF at h7
           simp only
           (revert h7;split <;> intro h7)
           ·exact pgF_le h7 (Nat.le_max_right _ _)
           ·exact h7
      ·rename_i h40
       cases h
       exact ⟨1,none,by rw [ptF.pfF,if_neg hc,if_pos hk,if_neg ht,if_neg (fun e=>h40 e.2)],rfl⟩
    ·rename_i hk
     cases h
     exact ⟨1,_,by rw [ptF.pfF,if_neg hc,if_neg hk],one_same hG hs hb⟩
  ·intro t ks s r c hs hb hne hlen hn h
   rw [treeF.argsF,if_neg (by rw [hb];simp)]at h
   split at h
   ·rename_i h41
    cases h
    refine ⟨0,some (callE t ks,s.i+1),?_,rfl,rfl,hb,by rw [nodes_call];simp only [node_n,on_n,hn];omega⟩
    unfold contF
    rw [isW_one h41 (by simp),if_neg (by simp),if_pos h41]
   ·rename_i h41
    split at h
    ·rename_i h44
     cases h
     refine ⟨0,none,?_,rfl⟩
     unfold contF
     rw [h44.2,if_neg (by simp),if_neg h41]
    ·rename_i h44
     have w44:isW L s.i [44]=true:=by
      cases hw:isW L s.i [44]
      ·exact absurd ⟨hne,hw⟩ h44
      ·rfl
     have hs2:s.on.i<L.length:=hE.sign w44
     obtain ⟨r1,h1,h2⟩:=Option.bind_eq_some_iff.1 h;obtain ⟨g,o,h3,h4⟩:=iT _ _ _ (by omega) (by omega) hs2 hb h1
     have hw:=((fwd_all E L hE f).1 _ _ _ (by omega) h1 hs2).1
     simp only [on_i]at h3
     have stop:(argS ks r1.2).bd=true→r.2.bd=true:=by
      intro hbd
      cases f with
      |zero=>unfold treeF.argsF at h2;cases h2
      |succ f=>
       rw [treeF.argsF,if_pos hbd]at h2;cases h2
       exact hbd
     by_cases hl:ks.length<30
     ·cases o with
      |none=>
       refine ⟨g+1,none,?_,stop (by rw [argS_bd];show (r1.2.bd || _)=true;rw [show r1.2.bd=true from h4];rfl)⟩
       unfold contF
       rw [if_pos w44,ptF.pgF,if_pos hl];exact Option.bind_eq_some_iff.2 ⟨none,h3,rfl⟩
      |some yk=>
       obtain ⟨y,k⟩:=yk;obtain ⟨c1,c2,c3,c4⟩:=h4;obtain ⟨g2,o2,h7,h8⟩:=iG _ _ (argS ks r1.2) r c hw.lt (by rw [argS_bd,c3];simp;omega) (by simp) (by simp;omega) (by rw [argS_n,c4,nodesL_snoc,c1,on_n,hn];omega) h2
       simp only [argS_i]at h7
       rw [c1,c2]at h7;refine ⟨max g g2+1,o2,?_,h8⟩
       unfold contF
       rw [if_pos w44,ptF.pgF,if_pos hl];refine Option.bind_eq_some_iff.2 ⟨some (y,k),ptF_le h3 (Nat.le_max_left _ _),?_⟩
       unfold contF at h7
       simp only
       (revert h7;split <;> intro h7)
       ·exact pgF_le h7 (Nat.le_max_right _ _)
       ·exact h7
     ·refine ⟨1,none,?_,stop (by rw [argS_bd];simp;exact .inr (by omega))⟩
      unfold contF
      rw [if_pos w44,ptF.pgF,if_neg hl]
end Go.Proofs.YtgheopdadfnilaaGreatDoor
namespace Go.Proofs.YtgheopdadfnilaaGreatDoor
open Go.RowKit
def rf(x:Rf):List Value:=[.string ⟨x.1.toArray⟩,.int .i64 x.2.1,.int .i64 x.2.2.1,.bool x.2.2.2.1,.bool x.2.2.2.2]
theorem rf_len(x:Rf):(rf x).length=5:=rfl
def Pl(W:World)(b:Nat):Prop:=∃ c t,W.heap[b]?=some (.cells c t (0,0))
theorem Pl.lt{W:World}{b:Nat}(h:Pl W b):b<W.heap.size:=by
 obtain ⟨c,t,h⟩:=h
 rcases Nat.lt_or_ge b W.heap.size with h'|h'
 ·exact h'
 ·rw [Array.getElem?_eq_none h']at h;cases h
theorem Pl.on{W W':World}{b:Nat}(h:Pl W b)(q:Q W W'):Pl W' b:=by
 have hb:=h.lt;obtain ⟨c,t,h⟩:=h;exact ⟨c,t,(Q.block q hb).trans h⟩
theorem pl_new(W:World)(c:Array Value)(t:TypeId):Pl (W.alloc (.cells c t)) W.heap.size:=⟨c,t,by show (W.heap.push _)[W.heap.size]?=_;simp⟩
def Rd(W:World):Ex→Value→Prop
 |.mk k n t b e rs ks,v=>∃ rv kv,v=.agg #[.int .i64 k,.int .i64 n,.string ⟨t.toArray⟩,.bool b,.int .i64 e,rv,kv]∧Sl rf 5 W rv rs ∧
   ∃ (ao:Option Addr) (cap:Nat),kv=.slice ao ks.length cap∧ks.length≤cap∧cap≤maxLen∧(ks≠[]→∃ b' off,ao=some ⟨b',off,none⟩∧Pl W b'∧RdL W ks b' off)
 where
 RdL (W:World):List Ex→Nat→Nat→Prop
 |[],_,_=>True
 |x::xs,b,off=>(∃ c0 c1 c2 c3 c4 c5 c6,W.cell? ⟨b,off,none⟩=some c0∧W.cell? ⟨b,off+1,none⟩=some c1∧W.cell? ⟨b,off+2,none⟩=some c2∧W.cell? ⟨b,off+3,none⟩=some c3∧W.cell? ⟨b,off+4,none⟩=some c4∧W.cell? ⟨b,off+5,none⟩=some c5∧W.cell? ⟨b,off+6,none⟩=some c6∧Rd W x (.agg #[c0,c1,c2,c3,c4,c5,c6]))∧RdL W xs b (off+7)
theorem Rd.on{W W':World}(q:Q W W'):∀ (x:Ex) (v:Value),Rd W x v→Rd W' x v
 |.mk k n t b e rs ks,v,h=>by
  unfold Rd at h ⊢
  obtain ⟨rv,kv,hv,hr,ao,cap,hk,h1,h2,h3⟩:=h;refine ⟨rv,kv,hv,hr.on q,ao,cap,hk,h1,h2,fun hn=>?_⟩
  obtain ⟨b',off,ha,hp,hl⟩:=h3 hn;exact ⟨b',off,ha,hp.on q,go q ks b' off hl⟩
 where
 go {W W':World} (q:Q W W'):∀ (l:List Ex) (b off:Nat),Rd.RdL W l b off→Rd.RdL W' l b off
 |[],_,_,_=>by unfold Rd.RdL;trivial
 |x::xs,b,off,h=>by
  unfold Rd.RdL at h ⊢
  obtain ⟨⟨c0,c1,c2,c3,c4,c5,c6,g0,g1,g2,g3,g4,g5,g6,hx⟩,hr⟩:=h;have ce:∀ {o:Nat} {c:Value},W.cell? ⟨b,o,none⟩=some c→W'.cell? ⟨b,o,none⟩=some c:=fun h=>(q.cell (World.block_lt_of_cell? W ⟨b,_,none⟩ h)).trans h
  exact ⟨⟨c0,c1,c2,c3,c4,c5,c6,ce g0,ce g1,ce g2,ce g3,ce g4,ce g5,ce g6,Rd.on q x _ hx⟩,go q xs b (off+7) hr⟩
theorem Rd.RdL.on{W W':World}(q:Q W W'):∀ (l:List Ex) (b off:Nat),Rd.RdL W l b off→Rd.RdL W' l b off:=Rd.on.go q
structure Kid (W:World) (x:Ex) (b off:Nat) (c0 c1 c2 c3 c4 c5 c6:Value):Prop where
 g0:W.cell? ⟨b,off,none⟩=some c0
 g1:W.cell? ⟨b,off+1,none⟩=some c1
 g2:W.cell? ⟨b,off+2,none⟩=some c2
 g3:W.cell? ⟨b,off+3,none⟩=some c3
 g4:W.cell? ⟨b,off+4,none⟩=some c4
 g5:W.cell? ⟨b,off+5,none⟩=some c5
 g6:W.cell? ⟨b,off+6,none⟩=some c6
 rd:Rd W x (.agg #[c0,c1,c2,c3,c4,c5,c6])
theorem Rd.RdL.kid{W:World}:∀ {ks:List Ex} {b off:Nat},Rd.RdL W ks b off→∀ i (h:i<ks.length),∃ c0 c1 c2 c3 c4 c5 c6,Kid W ks[i] b (off+i*7) c0 c1 c2 c3 c4 c5 c6
 |[],_,_,_,i,h=>absurd h (by simp)
 |x::xs,b,off,hr,i,h=>by
  unfold Rd.RdL at hr
  obtain ⟨⟨c0,c1,c2,c3,c4,c5,c6,g0,g1,g2,g3,g4,g5,g6,hx⟩,hr⟩:=hr;cases i with
  |zero=>exact ⟨c0,c1,c2,c3,c4,c5,c6,by simpa using g0,by simpa using g1,by simpa using g2,by simpa using g3,by simpa using g4,by simpa using g5,by simpa using g6,hx⟩
  |succ i=>
   obtain ⟨c0,c1,c2,c3,c4,c5,c6,hk⟩:=Rd.RdL.kid hr i (by simpa using h)
   rw [show off+7+i*7=off+(i+1)*7 by omega]at hk
   exact ⟨c0,c1,c2,c3,c4,c5,c6,hk⟩
structure Prt (W:World) (x:Ex) (k n:Int) (t:ByteArray) (b:Bool) (e:Int) (rs:List Rf) (ks:List Ex) (rv kv:Value) (ao:Option Addr) (cap:Nat):Prop where
 ex:x=.mk k n t.data.toList b e rs ks
 rl:Sl rf 5 W rv rs
 kl:kv=.slice ao ks.length cap
 le:ks.length≤cap
 mx:cap≤maxLen
 kd:ks≠[]→∃ b' off,ao=some ⟨b',off,none⟩∧Rd.RdL W ks b' off
theorem Rd.prt{W:World}{x:Ex}{v:Value}(h:Rd W x v):∃ k n t b e rs ks rv kv ao cap,v=.agg #[.int .i64 k,.int .i64 n,.string t,.bool b,.int .i64 e,rv,kv]∧Prt W x k n t b e rs ks rv kv ao cap:=by
 cases x with
 |mk k n t b e rs ks=>
  unfold Rd at h
  obtain ⟨rv,kv,hv,hr,ao,cap,hk,h1,h2,h3⟩:=h;exact ⟨k,n,⟨t.toArray⟩,b,e,rs,ks,rv,kv,ao,cap,hv,rfl,hr,hk,h1,h2,fun hn=>by
   obtain ⟨b',off,ha,_,hl⟩:=h3 hn;exact ⟨b',off,ha,hl⟩⟩
theorem Prt.on{W W':World}{x:Ex}{k n:Int}{t:ByteArray}{b:Bool}{e:Int}{rs:List Rf}{ks:List Ex}{rv kv:Value}{ao:Option Addr}{cap:Nat}(h:Prt W x k n t b e rs ks rv kv ao cap)(q:Q W W'):Prt W' x k n t b e rs ks rv kv ao cap:=
 ⟨h.ex,h.rl.on q,h.kl,h.le,h.mx,fun hn=>by
  obtain ⟨b',off,ha,hl⟩:=h.kd hn;exact ⟨b',off,ha,Rd.RdL.on q _ _ _ hl⟩⟩
structure Bx (w W:World) (c0 c1 c2 c3 c4 c5 c6:Value):Prop where
 q:Q w W
 lt:w.heap.size<W.heap.size
 g0:W.cell? ⟨w.heap.size,0,none⟩=some c0
 g1:W.cell? ⟨w.heap.size,1,none⟩=some c1
 g2:W.cell? ⟨w.heap.size,2,none⟩=some c2
 g3:W.cell? ⟨w.heap.size,3,none⟩=some c3
 g4:W.cell? ⟨w.heap.size,4,none⟩=some c4
 g5:W.cell? ⟨w.heap.size,5,none⟩=some c5
 g6:W.cell? ⟨w.heap.size,6,none⟩=some c6
theorem Bx.start(w:World)(c0 c1 c2 c3 c4 c5 c6:Value)(t:TypeId):Bx w (w.alloc (.cells #[c0,c1,c2,c3,c4,c5,c6] t)) c0 c1 c2 c3 c4 c5 c6:=by
 refine ⟨(Q.refl _).alloc _,by simp,?_,?_,?_,?_,?_,?_,?_⟩
 all_goals simp [World.cell?_alloc_new]
theorem Bx.on{w W W':World}{c0 c1 c2 c3 c4 c5 c6:Value}(h:Bx w W c0 c1 c2 c3 c4 c5 c6)(q:Q W W'):Bx w W' c0 c1 c2 c3 c4 c5 c6:=
 ⟨h.q.trans q,q.lt h.lt,(q.cell h.lt).trans h.g0,(q.cell h.lt).trans h.g1,(q.cell h.lt).trans h.g2,(q.cell h.lt).trans h.g3,(q.cell h.lt).trans h.g4,(q.cell h.lt).trans h.g5,(q.cell h.lt).trans h.g6⟩
def mxN(l:List Nat):Nat:=l.foldl max 0
def dp:Nat→Ex→Nat
 |0,_=>1
 |m+1,.mk _ _ _ _ _ _ ks=>mxN (ks.map (dp m))+1
theorem mxN_snoc(l:List Nat)(d:Nat):mxN (l++[d])=max (mxN l) d:=by unfold mxN;rw [List.foldl_append];rfl
theorem mxN_le{l:List Nat}{m:Nat}(h:∀ x∈l,x≤m):mxN l≤m:=by
 unfold mxN
 suffices ∀ (a:Nat),a≤m→l.foldl max a≤m by exact this 0 (Nat.zero_le _)
 induction l with
 |nil=>intro a ha;exact ha
 |cons x l ih=>
  intro a ha
  rw [List.foldl_cons];exact ih (fun y hy=>h y (by simp [hy])) _ (Nat.max_le.2 ⟨ha,h x (by simp)⟩)
theorem dp_le:∀ (m:Nat) (x:Ex),dp m x≤m+1
 |0,x=>by unfold dp;exact Nat.le_refl _
 |m+1,.mk _ _ _ _ _ _ ks=>by
  unfold dp
  have:mxN (ks.map (dp m))≤m+1:=mxN_le (fun y hy=>by
   obtain ⟨z,_,rfl⟩:=List.mem_map.1 hy;exact dp_le m z)
  omega
theorem take_map_snoc{α β:Type}(f:α→β)(l:List α)(i:Nat)(h:i<l.length):(l.take (i+1)).map f=(l.take i).map f++[f l[i]]:=by
 rw [List.take_succ_eq_append_getElem h,List.map_append]
 rfl
theorem depth_any:∀ (m:Nat) (x:Ex) (v:Value) (W:World) (M:Int),M=(m:Int)→m≤100→Rd W x v→Calls Tryz.prog 39 #[v,.int .i64 M] W fun e W'=>e=.returned (.int .i64 (dp m x:Int))∧Q W W':=by
 intro m
 induction m with
 |zero=>
  intro x v W M hM hm hr
  obtain ⟨k,n,t,b,e,rs,ks,rv,kv,ao,cap,rfl,hp⟩:=hr.prt;have hM0:M≤0:=by omega
  clear hM;have HD:Hid (dp 0 x=1):=hid (by unfold dp;rfl)
  generalize dp 0 x=d at HD ⊢;clear hp hr;go_enter Tryz.func39,Tryz.ntmps39
  go_wp2
  go_ret
  exact ⟨ret_int (by rw [HD.out];rfl),(Q.refl _).alloc _⟩
 |succ m ih=>
  intro x v W M hM hm hr
  obtain ⟨k,n,t,b,e,rs,ks,rv,kv,ao,cap,rfl,hp⟩:=hr.prt;have HD:Hid (dp (m+1) x=mxN (ks.map (dp m))+1):=hid (by rw [hp.ex];rfl)
  generalize dp (m+1) x=d at HD ⊢;have IH:=hid (fun x v W h=>ih x v W (M-1) (by omega) (by omega) h)
  have hM0:0<M:=by omega
  have hM1:M≤200:=by omega
  clear hM;have HX:=hid (Bx.start W (.int .i64 k) (.int .i64 n) (.string t) (.bool b) (.int .i64 e) rv kv 26);have HP:=hid hp;obtain rfl:=hp.kl;have hroom:ks.length≤9223372036854775807:=by have h1:=hp.le;have h2:=hp.mx;unfold maxLen at h2;omega
  clear hp hr ih;go_enter Tryz.func39,Tryz.ntmps39
  go_wp2
  go_loopw [5,6] (fun y z W'=>∃ (i a:Nat),i≤ks.length∧y=.int .i64 (a:Int)∧z=.int .i64 (i:Int)∧a≤1000∧Bx W W' (.int .i64 k) (.int .i64 n) (.string t) (.bool b) (.int .i64 e) rv (.slice ao ks.length cap)∧Hid (a=mxN ((ks.take i).map (dp m)))) (fun _ z _=>ks.length-(intOf z).toNat)
  case atStart=>exact ⟨0,0,Nat.zero_le _,rfl,rfl,by omega,HX.out,rfl⟩
  case round=>
   obtain ⟨i,a,hi,rfl,rfl,ha,hX,hA⟩:=hrel;have c6:=hX.g6;have HX2:=hid hX;by_cases hlt:i<ks.length
   ·have hne:ks≠[]:=by intro h;rw [h]at hlt;simp at hlt
    obtain ⟨b',off,rfl,hl⟩:=(HP.out.on hX.q).kd hne;obtain ⟨e0,e1,e2,e3,e4,e5,e6,hK⟩:=hl.kid i hlt;obtain ⟨h0,h1,h2,h3,h4,h5,h6,hrd⟩:=hK;have HI:=hid (IH.out _ _ _ hrd);have hdl:=dp_le m ks[i];have HA2:Hid (max a (dp m ks[i])=mxN ((ks.take (i+1)).map (dp m))):=by
     show _=_
     rw [take_map_snoc _ _ _ hlt,mxN_snoc,←hA.out]
    generalize dp m ks[i]=dd at HI hdl HA2;clear hX hl hrd hA;by_cases hgt:a<dd
    ·rw [Nat.max_eq_right (by omega)]at HA2
     go_wp2_with (go_at_call 39;refine HI.out.mono ?_;rintro e9 w9 ⟨rfl,q9⟩;have HX3:=hid (HX2.out.on q9);clear q9)
     go_roundw
     case rel=>exact ⟨i+1,dd,by omega,rfl,by go_num,by omega,HX3.out,HA2⟩
     case measure=>simp [intOf];omega
    ·rw [Nat.max_eq_left (by omega)]at HA2
     go_wp2_with (go_at_call 39;refine HI.out.mono ?_;rintro e9 w9 ⟨rfl,q9⟩;have HX3:=hid (HX2.out.on q9);clear q9)
     go_roundw
     case rel=>exact ⟨i+1,a,by omega,rfl,by go_num,by omega,HX3.out,HA2⟩
     case measure=>simp [intOf];omega
   ·have HA2:Hid ((d:Int)=(a:Int)+1):=by
     show _=_
     rw [HD.out,hA.out,List.take_of_length_le (by omega)]
     rfl
    clear hX hA;go_wp2_with fail
    go_ret
    exact ⟨ret_int HA2.out.symm,HX2.out.q⟩
def cnt:Ex→Nat→Nat
 |.mk _ _ _ _ _ _ ks,n=>cntL ks (n+1)
 where
 cntL:List Ex→Nat→Nat
 |[],n=>n
 |x::xs,n=>if n≤200 then cntL xs (cnt x n) else n
theorem cntL_stop{ks:List Ex}{n:Nat}(h:¬ n≤200):cnt.cntL ks n=n:=by
 cases ks with
 |nil=>rw [cnt.cntL]
 |cons x xs=>rw [cnt.cntL,if_neg h]
theorem cnt_le:∀ (x:Ex) (n:Nat),n≤200→cnt x n≤201
 |.mk _ _ _ _ _ _ ks,n,h=>by
  rw [cnt];exact go ks (n+1) (by omega)
 where
 go:∀ (ks:List Ex) (n:Nat),n≤201→cnt.cntL ks n≤201
 |[],n,h=>by rw [cnt.cntL];exact h
 |x::xs,n,h=>by
  rw [cnt.cntL]
  split
  ·rename_i h'
   exact go xs _ (cnt_le x n h')
  ·exact h
theorem kid_size{k n:Int}{t:List UInt8}{b:Bool}{e:Int}{rs:List Rf}{ks:List Ex}(i:Nat)(h:i<ks.length):SizeOf.sizeOf ks[i]<SizeOf.sizeOf (Ex.mk k n t b e rs ks):=by
 have:=List.sizeOf_lt_of_mem (List.getElem_mem h)
 simp
 omega
theorem count_any:∀ (s:Nat) (x:Ex) (v:Value) (W:World) (N D:Int) (n0:Nat),SizeOf.sizeOf x≤s→N=(n0:Int)→n0≤200→Rd W x v→Calls Tryz.prog 65 #[v,.int .i64 N,.int .i64 D] W fun e W'=>e=.returned (.int .i64 (cnt x n0:Int))∧Q W W':=by
 intro s
 induction s with
 |zero=>
  intro x v W N D n0 hs hN hn hr
  cases x with
  |mk k n t b e rs ks=>simp at hs
 |succ s ih=>
  intro x v W N D n0 hs hN hn hr
  obtain ⟨k,n,t,b,e,rs,ks,rv,kv,ao,cap,rfl,hp⟩:=hr.prt;have HD:Hid (cnt x n0=cnt.cntL ks (n0+1)):=hid (by rw [hp.ex,cnt])
  have IH:=hid (fun (i:Nat) (h:i<ks.length) v W N D n0=>ih ks[i] v W N D n0 (by have:=kid_size (k:=k) (n:=n) (t:=t.data.toList) (b:=b) (e:=e) (rs:=rs) i h;rw [←hp.ex]at this;omega))
  generalize cnt x n0=d at HD ⊢;have HX:=hid (Bx.start W (.int .i64 k) (.int .i64 n) (.string t) (.bool b) (.int .i64 e) rv kv 26);have HP:=hid hp;obtain rfl:=hp.kl;have hroom:ks.length≤9223372036854775807:=by have h1:=hp.le;have h2:=hp.mx;unfold maxLen at h2;omega
  have hN0:0≤N:=by omega
  have hN1:N≤200:=by omega
  have HNN:=hid hN;clear hp hr ih hs hN;go_enter Tryz.func65,Tryz.ntmps65
  go_wp2
  go_loopw [1,7] (fun y z W'=>∃ (i a:Nat),i≤ks.length∧y=.int .i64 (a:Int)∧z=.int .i64 (i:Int)∧a≤201∧Bx W W' (.int .i64 k) (.int .i64 n) (.string t) (.bool b) (.int .i64 e) rv (.slice ao ks.length cap)∧Hid (d=cnt.cntL (ks.drop i) a)) (fun _ z _=>ks.length-(intOf z).toNat)
  case atStart=>exact ⟨0,n0+1,Nat.zero_le _,by rw [HNN.out];rfl,rfl,by omega,HX.out,HD⟩
  case round=>
   obtain ⟨i,a,hi,rfl,rfl,ha,hX,hA⟩:=hrel;have c6:=hX.g6;have HX2:=hid hX;by_cases hlt:i<ks.length
   ·by_cases h200:a≤200
    ·have hne:ks≠[]:=by intro h;rw [h]at hlt;simp at hlt
     obtain ⟨b',off,rfl,hl⟩:=(HP.out.on hX.q).kd hne;obtain ⟨e0,e1,e2,e3,e4,e5,e6,hK⟩:=hl.kid i hlt;obtain ⟨h0,h1,h2,h3,h4,h5,h6,hrd⟩:=hK;have HI:=hid (fun D=>IH.out i hlt _ _ (a:Int) D a rfl h200 hrd)
     have hdl:=cnt_le ks[i] a h200;have HA2:Hid (d=cnt.cntL (ks.drop (i+1)) (cnt ks[i] a)):=by
      show _=_
      rw [hA.out,List.drop_eq_getElem_cons hlt,cnt.cntL,if_pos h200]
     generalize cnt ks[i] a=dd at HI hdl HA2;clear hX hl hrd hA;go_wp2_with (go_at_call 65;refine (HI.out _).mono ?_;rintro e9 w9 ⟨rfl,q9⟩;have HX3:=hid (HX2.out.on q9);clear q9)
     go_roundw
     case rel=>exact ⟨i+1,dd,by omega,rfl,by go_num,by omega,HX3.out,HA2⟩
     case measure=>simp [intOf];omega
    ·have HA2:Hid ((d:Int)=(a:Int)):=by show _=_;rw [hA.out,cntL_stop h200]
     clear hX hA;go_wp2_with fail
     go_ret
     exact ⟨ret_int HA2.out.symm,HX2.out.q⟩
   ·have HA2:Hid ((d:Int)=(a:Int)):=by
     show _=_
     rw [hA.out,List.drop_of_length_le (by omega),cnt.cntL]
    clear hX hA;go_wp2_with fail
    go_ret
    exact ⟨ret_int HA2.out.symm,HX2.out.q⟩
def Ans(p:Prop)(e:Ending):Prop:=∃ r:Bool,e=.returned (.bool r)∧(r=true↔p)
theorem Ans.no{p:Prop}(h:¬ p):Ans p (.returned (.bool false)):=⟨false,rfl,by simp [h]⟩
theorem Ans.yes{p:Prop}(h:p):Ans p (.returned (.bool true)):=⟨true,rfl,by simp [h]⟩
theorem beq_no{α:Type}[BEq α][LawfulBEq α]{a b:α}(h:a≠b):(a == b)=false:=by rw [beq_eq_false_iff_ne];exact h
theorem str_no{a b:ByteArray}(h:a.data.toList≠b.data.toList):(a.toList == b.toList)=false:=by rw [Lib.toList_data,Lib.toList_data];exact beq_no h
theorem str_eq{a b:ByteArray}(h:a.data.toList=b.data.toList):a=b:=by
 apply ByteArray.ext
 apply Array.ext'
 exact h
structure Two (w W:World) (k n:Int) (t:ByteArray) (b:Bool) (e:Int) (rv kv:Value) (k' n':Int) (t':ByteArray) (b':Bool) (e':Int) (rv' kv':Value):Prop where
 one:Bx w W (.int .i64 k) (.int .i64 n) (.string t) (.bool b) (.int .i64 e) rv kv
 lt:w.heap.size+1<W.heap.size
 g5:W.cell? ⟨w.heap.size+1,5,none⟩=some rv'
 g6:W.cell? ⟨w.heap.size+1,6,none⟩=some kv'
theorem Two.on{w W W':World}{k n:Int}{t:ByteArray}{b:Bool}{e:Int}{rv kv:Value}{k' n':Int}{t':ByteArray}{b':Bool}{e':Int}{rv' kv':Value}(h:Two w W k n t b e rv kv k' n' t' b' e' rv' kv')(q:Q W W'):Two w W' k n t b e rv kv k' n' t' b' e' rv' kv':=
 ⟨h.one.on q,q.lt h.lt,(q.cell h.lt).trans h.g5,(q.cell h.lt).trans h.g6⟩
theorem Two.start(w:World)(k n:Int)(t:ByteArray)(b:Bool)(e:Int)(rv kv:Value)(k' n':Int)(t':ByteArray)(b':Bool)(e':Int)(rv' kv':Value)(ty:TypeId) :
  Two w ((w.alloc (.cells #[.int .i64 k,.int .i64 n,.string t,.bool b,.int .i64 e,rv,kv] ty)).alloc (.cells #[.int .i64 k',.int .i64 n',.string t',.bool b',.int .i64 e',rv',kv'] ty)) k n t b e rv kv k' n' t' b' e' rv' kv':=by
 refine ⟨(Bx.start _ _ _ _ _ _ _ _ _).on ((Q.refl _).alloc _),by simp,?_,?_⟩
 ·have e:w.heap.size+1=(w.alloc (.cells #[.int .i64 k,.int .i64 n,.string t,.bool b,.int .i64 e,rv,kv] ty)).heap.size:=by simp
  rw [e];simp [World.cell?_alloc_new]
 ·have e:w.heap.size+1=(w.alloc (.cells #[.int .i64 k,.int .i64 n,.string t,.bool b,.int .i64 e,rv,kv] ty)).heap.size:=by simp
  rw [e];simp [World.cell?_alloc_new]
theorem eq_heads(k n:Int)(t:ByteArray)(b:Bool)(e:Int)(a1:Option Addr)(l1 c1:Nat)(a2:Option Addr)(l2 c2:Nat)(k' n':Int)(t':ByteArray)(b':Bool)(e':Int)(a3:Option Addr)(l3 c3:Nat)(a4:Option Addr)(l4 c4:Nat)(w:World)
  (h:¬ (k=k'∧n=n'∧t.data.toList=t'.data.toList∧b=b'∧e=e'∧l1=l3∧l2=l4)) :
  Calls Tryz.prog 14 #[.agg #[.int .i64 k,.int .i64 n,.string t,.bool b,.int .i64 e,.slice a1 l1 c1,.slice a2 l2 c2],.agg #[.int .i64 k',.int .i64 n',.string t',.bool b',.int .i64 e',.slice a3 l3 c3,.slice a4 l4 c4]] w fun x w'=>x=.returned (.bool false)∧Q w w':=by
 by_cases h1:k=k'
 ·subst h1
  by_cases h2:n=n'
  ·subst h2
   by_cases h3:t.data.toList=t'.data.toList
   ·obtain rfl:=str_eq h3
    by_cases h4:b=b'
    ·subst h4
     by_cases h5:e=e'
     ·subst h5
      by_cases h6:l1=l3
      ·subst h6
       have h7:l2≠l4:=fun e=>h ⟨rfl,rfl,rfl,rfl,rfl,rfl,e⟩
       have f7:((l2:Int) == (l4:Int))=false:=beq_no (by omega)
       clear h h3 h7;go_enter Tryz.func14,Tryz.ntmps14
       go_wp2
       go_ret
       exact ⟨rfl,((Q.refl _).alloc _).alloc _⟩
      ·have f6:((l1:Int) == (l3:Int))=false:=beq_no (by omega)
       clear h h3 h6;go_enter Tryz.func14,Tryz.ntmps14
       go_wp2
       go_ret
       exact ⟨rfl,((Q.refl _).alloc _).alloc _⟩
     ·have f5:(e == e')=false:=beq_no h5
      clear h h3;go_enter Tryz.func14,Tryz.ntmps14
      go_wp2
      go_ret
      exact ⟨rfl,((Q.refl _).alloc _).alloc _⟩
    ·have f4:b'=!b:=by cases b <;> cases b' <;> simp_all
     subst f4;clear h h3 h4;cases b
     ·go_enter Tryz.func14,Tryz.ntmps14
      go_wp2
      go_ret
      exact ⟨rfl,((Q.refl _).alloc _).alloc _⟩
     ·go_enter Tryz.func14,Tryz.ntmps14
      go_wp2
      go_ret
      exact ⟨rfl,((Q.refl _).alloc _).alloc _⟩
   ·have f3:=str_no h3
    clear h h3;go_enter Tryz.func14,Tryz.ntmps14
    go_wp2
    go_ret
    exact ⟨rfl,((Q.refl _).alloc _).alloc _⟩
  ·have f2:(n == n')=false:=beq_no h2
   clear h;go_enter Tryz.func14,Tryz.ntmps14
   go_wp2
   go_ret
   exact ⟨rfl,((Q.refl _).alloc _).alloc _⟩
 ·have f1:(k == k')=false:=beq_no h1
  clear h;go_enter Tryz.func14,Tryz.ntmps14
  go_wp2
  go_ret
  exact ⟨rfl,((Q.refl _).alloc _).alloc _⟩
end Go.Proofs.YtgheopdadfnilaaGreatDoor
