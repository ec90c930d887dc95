/-
  Texts Pure Vz Blank Walk Map Ea Eb Vaa Vbb Vcc.
-/
import Derived.Test.YtepcmfegggdjfaaGreatDoorM00
import Derived.Test.YtepcmfegggdjfaaGreatDoorM06
import Derived.Test.YtepcmfegggdjfaaGreatDoorM08
set_option linter.unusedVariables false
set_option maxRecDepth 100000
set_option maxHeartbeats 16000000
namespace Go.Proofs.YtepcmfegggdjfaaGreatDoor
open Go.Proofs.Tryz
def isO(c:Int):Bool:=decide (c=2) || decide (c=3) || decide (c=4)
variable {c:Int}
theorem dR  : isO c=true↔c=2\/c=3\/c=4:=by simp[isO,or_assoc]
theorem je(h:isO c=true):c≠5/\c≠6:=by rw[dR]at h; omega
theorem ry(h:isO c=false):c≠2/\c≠3/\c≠4:=by
 have:¬(c=2\/c=3\/c=4):=fun x=>by rw[dR.2 x]at h; cases h
 omega
def stk(O:NIz):Nat->List Nat
 | 0=>[]
 | k+1=>if isO (O k)=true then k::stk O k else if O k=6 then (stk O k).tail else stk O k
def top:List Nat->Int
 | []=>-1
 | t::_=>t
def elF(O:NIz):Nat->Nat->Int
 | 0,_=>-1
 | k+1,i=>match stk O k with
  | []=>elF O k i
  | t::_=>if O k=5/\i=t then k else elF O k i
def enF(O:NIz):Nat->Nat->Int
 | 0,_=>-1
 | k+1,i=>match stk O k with
  | []=>enF O k i
  | t::_=>if O k=6/\(i=t\/(i:Int)=elF O k t) then k else enF O k i
def owF(O:NIz)(k i:Nat):Int:=if i<k then top (stk O i) else -1
def er(O:NIz)(pc:Nat):Int :=
 if isO (O pc)=true then (if (stk O pc).length=32 then 35 else 0)
 else if O pc=5 then (match stk O pc with
  | []=>37
  | t::_=>if O t=4/\elF O pc t=-1 then 0 else 37)
 else 0
def res(O:NIz):Nat->Nat->Int×Int
 | 0,pc=>(38,pc)
 | f+1,pc=>if er O pc≠0 then (er O pc,pc) else if O pc=6/\stk O pc=[] then (if f=0 then (0,0) else (19,pc+1)) else res O f (pc+1)
def Okp(O:NIz)(k:Nat):Prop:=∀i,i<k->er O i=0/\¬(O i=6/\stk O i=[])
def Good(O:NIz)(n:Nat):Prop:=0<n/\Okp O (n-1)/\er O (n-1)=0/\O (n-1)=6/\stk O (n-1)=[]
theorem xQ{O:NIz}{n:Nat}:∀(f pc:Nat),pc+f=n->Okp O pc->(res O f pc).1=0->Good O n
 | 0,pc,_,_,h=>by simp[res]at h
 | f+1,pc,hn,hk,h=>by
  unfold res at h
  by_cases h1:er O pc≠0
  ·rw[if_pos h1]at h; exact absurd h h1
  rw[if_neg h1]at h;have h1':er O pc=0:=ae
  by_cases h2:O pc=6/\stk O pc=[]
  ·rw[if_pos h2]at h
   by_cases h3:f=0
   ·obtain rfl:pc=n-1:=ae;exact⟨ae,hk,h1',h2.1,h2.2⟩
   rw[if_neg h3]at h; simp at h
  rw[if_neg h2]at h;refine xQ f (pc+1) ae (fun i hi=>?_) h
  by_cases e:i=pc
  ·subst e; exact⟨h1',h2⟩
  exact hk i ae
variable {O:NIz}{n:Nat}
theorem yO(h:(res O n 0).1=0):Good O n:=xQ n 0 ae (fun i hi=>absurd hi ae) h
theorem jA{n pc:Nat}(hlt:pc<n)(he:er O pc=0)(h6:¬(O pc=6/\stk O pc=[])):res O (n-pc) pc=res O (n-(pc+1)) (pc+1):=by
 obtain⟨f,hf⟩:∃f,n-pc=f+1:=⟨n-pc-1,ae⟩;rw[hf,show n-(pc+1)=f by omega]
 conv=>lhs; unfold res
 rw[if_neg ae,if_neg h6]
theorem Hd{n pc:Nat}(hlt:pc<n)(he:er O pc≠0):res O (n-pc) pc=(er O pc,(pc:Int)):=by
 obtain⟨f,hf⟩:∃f,n-pc=f+1:=⟨n-pc-1,ae⟩;rw[hf]; unfold res; rw[if_pos he]
theorem tB{n pc:Nat}(hlt:pc<n)(he:er O pc=0)(h6:O pc=6/\stk O pc=[]):res O (n-pc) pc=if pc+1=n then ((0,0):Int×Int) else (19,(pc:Int)+1):=by
 obtain⟨f,hf⟩:∃f,n-pc=f+1:=⟨n-pc-1,ae⟩;rw[hf]; unfold res; rw[if_neg ae,if_pos h6]
 by_cases h:f=0
 ·rw[if_pos h,if_pos ae]
 rw[if_neg h,if_neg ae]
theorem fN(h:Good O n):res O n 0=(0,0):=by
 obtain⟨h0,h1,h2,h3,h4⟩:=h
 have:∀pc,pc<=n-1->res O (n-pc) pc=res O n 0:=by
  intro pc
  induction pc with
  | zero=>intro _; rfl
  | succ k ih =>
   intro hk;rw[<- ih ae];exact(jA ae (h1 k ae).1 (h1 k ae).2).symm
 rw[<- this (n-1) lRn,tB ae h2 ⟨h3,h4⟩,if_pos ae]
theorem fF(O:NIz):∀(i:Nat),stk O i=[]\/∃t,t<i/\isO (O t)=true/\stk O i=t::stk O t:=by
 intro i
 induction i using Nat.strongRecOn with
 | _ i ih =>
  cases i with
  | zero=>exact .inl rfl
  | succ k =>
   have hk:stk O (k+1)=if isO (O k)=true then k::stk O k else if O k=6 then (stk O k).tail else stk O k:=rfl;rw[hk]
   by_cases h1:isO (O k)=true
   ·rw[if_pos h1]; exact .inr ⟨k,ae,h1,rfl⟩
   rw[if_neg h1]
   by_cases h2:O k=6
   ·rw[if_pos h2]
    rcases ih k ae with h | ⟨t,ht,hO,h⟩
    ·rw[h]; exact .inl rfl
    rw[h];simp only[List.tail_cons]
    rcases ih t ae with h' | ⟨u,hu,hO',h'⟩
    ·exact .inl h'
    exact .inr ⟨u,ae,hO',h'⟩
   rw[if_neg h2]
   rcases ih k ae with h | ⟨t,ht,hO,h⟩
   ·exact .inl h
   exact .inr ⟨t,ae,hO,h⟩
theorem jh(O:NIz):∀(i t:Nat),t∈stk O i->t<i/\isO (O t)=true:=by
 intro i
 induction i using Nat.strongRecOn with
 | _ i ih =>
  intro t ht
  rcases fF O i with h | ⟨u,hu,hO,h⟩
  ·rw[h]at ht; cases ht
  rw[h]at ht
  rcases List.mem_cons.1 ht with rfl | ht
  ·exact⟨hu,hO⟩
  have:=ih u hu t ht;exact⟨ae,this.2⟩
variable {i t:Nat}
theorem rS{r:List Nat}(h:stk O i=t::r):t<i/\isO (O t)=true/\r=stk O t:=by
 rcases fF O i with h' | ⟨u,hu,hO,h'⟩
 ·rw[h']at h; cases h
 rw[h']at h;injection h with h1 h2;subst h1;exact⟨hu,hO,h2.symm⟩
variable {k:Nat}
theorem fU(h:isO (O k)=true):stk O (k+1)=k::stk O k:=by conv=>lhs; unfold stk; rw[if_pos h]
theorem jV(h:O k=6):stk O (k+1)=(stk O k).tail:=by
 conv=>lhs; unfold stk
 rw[if_neg (fun x=>(je x).2 h),if_pos h]
theorem eB(h:isO (O k)=false)(h6:O k≠6):stk O (k+1)=stk O k:=by
 conv=>lhs; unfold stk
 rw[if_neg (by simp[h]),if_neg h6]
theorem oN{O:NIz}:∀{k:Nat},Okp O k->(stk O k).length<=32
 | 0,_=>by simp[stk]
 | k+1,h=>by
  have ih:=oN (k:=k) (fun i hi=>h i ae);have he:=(h k ae).1
  by_cases h1:isO (O k)=true
  ·rw[fU h1];unfold er at he;rw[if_pos h1]at he
   by_cases h2:(stk O k).length=32
   ·rw[if_pos h2]at he; cases he
   simp only[List.length_cons]; omega
  by_cases h2:O k=6
  ·rw[jV h2,List.length_tail]; omega
  rw[eB il h2]; exact ih
theorem gQ(h:O k≠5):elF O (k+1) i=elF O k i:=by
 conv=>lhs; unfold elF
 split
 ·rfl
 rw[if_neg (fun x=>h x.1)]
theorem td{r:List Nat}(h:O k=5)(hs:stk O k=t::r)(i:Nat):elF O (k+1) i=if i=t then (k:Int) else elF O k i:=by
 conv=>lhs; unfold elF
 rw[hs];simp[h]
theorem z8(hs:stk O k=[])(i:Nat):elF O (k+1) i=elF O k i:=by
 conv=>lhs; unfold elF
 rw[hs]
theorem gy(h:O k≠6):enF O (k+1) i=enF O k i:=by
 conv=>lhs; unfold enF
 split
 ·rfl
 rw[if_neg (fun x=>h x.1)]
theorem qV{r:List Nat}(h:O k=6)(hs:stk O k=t::r)(i:Nat):enF O (k+1) i=if i=t\/(i:Int)=elF O k t then (k:Int) else enF O k i:=by
 conv=>lhs; unfold enF
 rw[hs];simp[h]
theorem zo(hs:stk O k=[])(i:Nat):enF O (k+1) i=enF O k i:=by
 conv=>lhs; unfold enF
 rw[hs]
theorem Ak(O:NIz)(k i:Nat):owF O (k+1) i=if i=k then top (stk O k) else owF O k i:=by
 unfold owF
 by_cases h:i=k
 ·subst h; rw[if_pos rfl,if_pos ae]
 rw[if_neg h]
 by_cases h2:i<k
 ·rw[if_pos h2,if_pos ae]
 rw[if_neg h2,if_neg ae]
structure Iv(O:NIz)(k:Nat):Prop where
 opn:∀t,t<k->isO (O t)=true->(t∈stk O k/\enF O k t=-1)\/(t ∉ stk O k/\∃j:Nat,enF O k t=j/\t<j/\j<k/\O j=6/\stk O j=t::stk O t/\elF O k t<j)
 els:∀t,elF O k t=-1\/∃j:Nat,elF O k t=j/\t<j/\j<k/\O t=4/\O j=5/\stk O j=t::stk O t/\enF O k j=enF O k t
 elp:∀j,j<k->O j=5->∃t,t<j/\elF O k t=j
 oth:∀i,isO (O i)=false->O i≠5->enF O k i=-1
 fut:∀i,k<=i->enF O k i=-1/\elF O k i=-1
 nest:∀t u:Nat,t<u->isO (O t)=true->isO (O u)=true->(u:Int)<enF O k t->u<k/\u ∉ stk O k/\enF O k u<enF O k t
 ended:∀j:Nat,j<k->O j=6->∃t,t<j/\isO (O t)=true/\enF O k t=j
theorem Pg(h5:O k=5)(he:er O k=0):∃t,stk O k=t::stk O t/\t<k/\O t=4/\elF O k t=-1:=by
 unfold er at he;rw[if_neg (fun x=>(je x).1 h5),if_pos h5]at he
 rcases fF O k with h | ⟨t,ht,hO,h⟩
 ·rw[h]at he; simp at he
 rw[h]at he;simp only at he
 by_cases hc:O t=4/\elF O k t=-1
 ·exact⟨t,h,ht,hc⟩
 rw[if_neg hc]at he; cases he
theorem PH(O:NIz):Iv O 0 where
 opn:=fun t ht=>absurd ht ae
 els:=fun t=>.inl rfl
 elp:=fun t ht=>absurd ht ae
 oth:=fun i _ _=>rfl
 fut:=fun i _=>⟨rfl,rfl⟩
 nest:=fun t u h _ _ hx=>by
  have:enF O 0 t=-1:=rfl;omega
 ended:=fun t ht=>absurd ht ae
theorem OS(h:Iv O k)(he:er O k=0)(hb:¬(O k=6/\stk O k=[])):Iv O (k+1):=by
 by_cases h1:isO (O k)=true
 ·have n5:=je h1
  have hen:∀i,enF O (k+1) i=enF O k i:=fun i=>gy n5.2;have hel:∀i,elF O (k+1) i=elF O k i:=fun i=>gQ n5.1;have hst:=fU h1
  have hmem:∀t,t<k->(t∈stk O (k+1)↔t∈stk O k):=fun t ht=>by
   rw[hst,List.mem_cons];exact⟨fun x=>x.elim (fun e=>absurd e ae) (fun x=>x),fun x=>.inr x⟩
  constructor
  ·intro t ht hO;rw[hen,hel]
   by_cases e:t=k
   ·subst e
    exact .inl ⟨by rw[hst]; simp,(h.fut t lRn).1⟩
   rw[hmem t ae];exact EZ
  ·exact NW
  ·intro j hj h5
   have:j≠k:=fun e=>n5.1 (e ▸ h5);obtain⟨t,ht,hx⟩:=h.elp j ae h5;exact⟨t,ht,by rw[hel]; exact hx⟩
  ·intro i a b; rw[hen]; exact h.oth i a b
  ·intro i hi; rw[hen,hel]; exact h.fut i ae
  ·intro t u htu a b c;rw[hen]at c ⊢;rw[hen];obtain⟨x1,x2,x3⟩:=h.nest t u htu a b c
   exact⟨ae,by rw[hmem u x1]; exact x2,x3⟩
  intro j hj h6;have:j≠k:=fun e=>n5.2 (e ▸ h6);exact ED
 have h1':isO (O k)=false:=il
 by_cases h5:O k=5
 ·have n6:O k≠6:=ae;obtain⟨t0,hs,ht0,h4,hel0⟩:=Pg h5 he
  have hen:∀i,enF O (k+1) i=enF O k i:=fun i=>gy n6
  have hel:∀i,elF O (k+1) i=if i=t0 then (k:Int) else elF O k i:=fun i=>td h5 hs i
  have hst:=eB h1' n6;have hO0:isO (O t0)=true:=dR.2 ae
  have hm0:t0∈stk O k:=by rw[hs]; simp
  have he0:enF O k t0=-1:=by
   rcases h.opn t0 ht0 hO0 with hx | hx
   ·exact hx.2
   exact absurd hm0 hx.1
  constructor
  ·intro t ht hO
   have:t≠k:=fun e=>xh;rw[hen,hst]
   rcases h.opn t ae hO with hx | ⟨hx,j,a1,a2,a3,a4,a5,a6⟩
   ·exact .inl hx
   refine .inr ⟨hx,j,a1,a2,ae,a4,a5,?_⟩;rw[hel,if_neg (fun e:t=t0=>hx (e ▸ hm0))];exact a6
  ·intro t;rw[hel]
   by_cases e:t=t0
   ·subst e;rw[if_pos rfl]
    exact .inr ⟨k,rfl,ht0,ae,h4,h5,hs,by rw[hen,hen,he0]; exact(h.fut k lRn).1⟩
   rw[if_neg e]
   rcases h.els t with hx | ⟨j,a1,a2,a3,a4,a5,a6,a7⟩
   ·exact .inl hx
   exact .inr ⟨j,a1,a2,ae,a4,a5,a6,by rw[hen,hen]; exact a7⟩
  ·intro j hj hj5
   by_cases e:j=k
   ·subst e
    exact⟨t0,ht0,by rw[hel,if_pos rfl]⟩
   obtain⟨t,ht,hx⟩:=h.elp j ae hj5;refine⟨t,ht,?_⟩;rw[hel,if_neg (fun e=>by subst e; omega)];exact hx
  ·intro i a b; rw[hen]; exact h.oth i a b
  ·intro i hi
   rw[hen,hel,if_neg ae]; exact h.fut i ae
  ·exact EH
  intro j hj h6;have:j≠k:=fun e=>n6 (e ▸ h6);exact ED
 by_cases h6:O k=6
 ·rcases fF O k with hs | ⟨t0,ht0,hO0,hs⟩
  ·exact absurd ⟨h6,hs⟩ hb
  have hen:∀i,enF O (k+1) i=if i=t0\/(i:Int)=elF O k t0 then (k:Int) else enF O k i:=fun i=>qV h6 hs i
  have hel:∀i,elF O (k+1) i=elF O k i:=fun i=>gQ h5
  have hst:stk O (k+1)=stk O t0:=by rw[jV h6,hs]; rfl
  have hm0:t0∈stk O k:=by rw[hs]; simp
  have hne:∀u,isO (O u)=true->(u:Int)≠elF O k t0:=fun u hu e=>by
   rcases h.els t0 with hx | ⟨j,a1,a2,a3,a4,a5,_⟩
   ·omega
   have:u=j:=ae;subst this;exact(je hu).1 a5
  have hsub:∀u,u∈stk O t0->u∈stk O k:=fun u hu=>by rw[hs]; simp[hu]
  have hel0:elF O k t0<k:=by
   rcases h.els t0 with hx | ⟨j,a1,a2,a3,_⟩ <;> omega
  have hOe:∀u,isO (O u)=true->u≠t0->enF O (k+1) u=enF O k u:=fun u hu hn=>by
   rw[hen,if_neg (fun x=>x.elim hn (hne u hu))]
  constructor
  ·intro t ht hO
   have:t≠k:=fun e=>xh
   by_cases e:t=t0
   ·subst e
    refine .inr ⟨?_,k,by rw[hen,if_pos (.inl rfl)],ht0,ae,h6,hs,by rw[hel]; exact hel0⟩;rw[hst]; exact fun hx=>absurd (jh O _ _ hx).1 ae
   rw[hOe t hO e,hel,hst]
   rcases h.opn t ae hO with hx | ⟨hx,j,a1,a2,a3,a4⟩
   ·refine .inl ⟨?_,hx.2⟩
    have:=hx.1;rw[hs]at this;exact(List.mem_cons.1 this).elim (fun x=>absurd x e) (fun x=>x)
   exact .inr ⟨fun x=>hx (hsub t x),j,a1,a2,ae,a4⟩
  ·intro t;rw[hel]
   rcases h.els t with hx | ⟨j,a1,a2,a3,a4,a5,a6,a7⟩
   ·exact .inl hx
   refine .inr ⟨j,a1,a2,ae,a4,a5,a6,?_⟩;have hOt:isO (O t)=true:=dR.2 ae
   have hjt:j≠t0:=fun e=>by rw[<- e,a5]at hO0; exact absurd hO0 aA
   by_cases e:t=t0
   ·subst e;rw[hen,if_pos (.inr a1.symm),hen,if_pos (.inl rfl)]
   rw[hOe t hOt e,hen,if_neg]
   ·exact a7
   intro x
   rcases x with x | x
   ·exact hjt x
   rcases h.els t0 with y | ⟨j',b1,b2,b3,b4,b5,b6,_⟩
   ·omega
   have:j=j':=ae;subst this;rw[a6]at b6;injection b6 with b6 _;exact e b6
  ·exact EY
  ·intro i a b
   have e1:i≠t0:=fun e=>by rw[e,hO0]at a; cases a
   have e2:(i:Int)≠elF O k t0:=fun e=>by
    rcases h.els t0 with hx | ⟨j,a1,a2,a3,a4,a5,_⟩
    ·omega
    have:i=j:=ae;subst this;exact b a5
   rw[hen,if_neg (fun x=>x.elim e1 e2)];exact h.oth i a b
  ·intro i hi;rw[hel,hen,if_neg ae];exact h.fut i ae
  ·intro t u htu a b c
   by_cases e:t=t0
   ·subst e;rw[hen t,if_pos (.inl rfl)]at c ⊢;have huk:u<k:=ae;have hut:u≠t:=ae
    have hn:u ∉ stk O k:=fun x=>by
     rw[hs]at x
     rcases List.mem_cons.1 x with x | x
     ·exact hut x
     exact absurd (jh O _ _ x).1 ae
    refine⟨ae,?_,?_⟩
    ·rw[hst]; exact fun x=>hn (hsub u x)
    rw[hOe u b hut]
    rcases h.opn u huk b with hx | ⟨_,j,a1,a2,a3,_⟩
    ·exact absurd hx.1 hn
    omega
   rw[hOe t a e]at c ⊢;obtain⟨x1,x2,x3⟩:=h.nest t u htu a b c;have hut:u≠t0:=fun e=>x2 (e ▸ hm0);refine⟨ae,?_,by rw[hOe u b hut]; exact x3⟩;rw[hst]; exact fun x=>x2 (hsub u x)
  intro j hj hj6
  by_cases e:j=k
  ·subst e
   exact⟨t0,ht0,hO0,by rw[hen,if_pos (.inl rfl)]⟩
  obtain⟨t,a,b,c⟩:=h.ended j ae hj6;refine⟨t,a,b,?_⟩
  have:t≠t0:=fun e=>by
   subst e
   rcases h.opn t ht0 hO0 with hx | hx
   ·omega
   exact hx.1 hm0
  rw[hOe t b this]; exact c
 have hen:∀i,enF O (k+1) i=enF O k i:=fun i=>gy h6;have hel:∀i,elF O (k+1) i=elF O k i:=fun i=>gQ h5;have hst:=eB h1' h6
 constructor
 ·intro t ht hO
  have:t≠k:=fun e=>xh;rw[hen,hel,hst];exact EZ
 ·exact NW
 ·exact EY
 ·intro i a b; rw[hen]; exact h.oth i a b
 ·intro i hi; rw[hen,hel]; exact h.fut i ae
 ·exact EH
 intro j hj hj6;have:j≠k:=fun e=>h6 (e ▸ hj6);obtain⟨t,a,b,c⟩:=h.ended j ae hj6;exact⟨t,a,b,by rw[hen]; exact c⟩
theorem N0{O:NIz}:∀{k:Nat},Okp O k->Iv O k
 | 0,_=>PH O
 | k+1,h=>OS (N0 (k:=k) fun i hi=>h i ae) (h k ae).1 (h k ae).2
open Go.RowKit
def aT(s:Cs):Opn:=s.op.getD (s.op.length-1) ⟨⟨#[]⟩,⟨#[]⟩,⟨#[]⟩,0,0⟩
structure Iv3(O:NIz)(n j:Nat)(s:Cs):Prop where
 len:s.op.length=(stk O j).length+1
 sz:∀p∈s.op,p.P.size<=8/\p.R.size<=8/\p.B.size+p.P.size<=256/\∃q:Nat,p.pc=q/\q<n
 ch:s.op.Pairwise (fun a b=>a.B.size<=b.B.size)
 last:(aT s).B.size<=s.st.size
 st:s.st.size<=256
 hi:s.hi<=256
 sh:s.sh.length=n
variable {s:Cs}
theorem lM(h:s.op.length=k+1):s.op[k]? =some (aT s):=by
 unfold aT;rw[h];simp only[Nat.add_sub_cancel];rw[jM (aY (by omega:k<s.op.length))];exact aY _
theorem Aq(h:s.op.length=k+1):aT s∈s.op:=List.mem_of_getElem? (lM h)
variable {s t:BAz}
theorem qQ(h:bW s t=0):iq s t=s++t/\s.size+t.size<=256:=by
 refine⟨by simp[iq,h],?_⟩;unfold bW at h
 split at h
 ·split at h
  ·cases h
  omega
 cases h
variable {s:Cs}{o:Opn}
theorem Np(h:bQ s o t=0):t.size<=s.st.size-o.B.size:=by
 have:=xt h;simp at this;omega
variable {a b:Int}
theorem aI(h:orE a b=0):a=0/\b=0:=by
 unfold orE at h
 split at h
 ·rename_i g; exact absurd h g
 rename_i g; exact⟨ae,h⟩
section
variable {v:Ev} {w1:World} {m:MM} {lo:LIz}
variable {j:Nat}{s':Cs}
theorem Iv3.keepOp(h:Iv3 O n j s)(hs:stk O (j+1)=stk O j)(h1:s'.op=s.op)(h2:(aT s).B.size<=s'.st.size)(h3:s'.st.size<=256)(h4:s'.hi<=256)(h5:s'.sh.length=n):Iv3 O n (j+1) s':=by
 refine⟨by rw[h1,hs]; exact h.len,by rw[h1]; exact h.sz,by rw[h1]; exact h.ch,?_,h3,h4,h5⟩
 have:aT s'=aT s:=by unfold aT; rw[h1]
 rw[this]; exact h2
theorem RL(h:Iv3 O n j s):Iv3 O n j (fI s):=by
 refine⟨h.len,h.sz,h.ch,h.last,h.st,?_,?_⟩
 ·show max s.hi s.st.size<=256
  have:=h.hi; have:=h.st; omega
 show(s.sh.set s.pc s.st).length=n;rw[List.length_set]; exact h.sh
variable {el:Int}{l:LIz}
theorem Tj(hM:EvM v w1 m lo)(h:Iv3 O n j s)(hc:O j=c)(h0:0<=c)(h1:c<=255)(hpc:s.pc=j)(hj:j<n)(hnb:¬(c=6/\stk O j=[]))
  (he:rwE m lo el s (aT s) c a l=0):Iv3 O n (j+1) (rwS m lo s (aT s) c a):=by
 have hmem:=Aq h.len;have hsz:=h.sz _ hmem;have hlast:=h.last;have hst:=h.st
 have hnew:∀tk:ByteArray,opE m s (aT s) a tk=0->isO (O j)=true->Iv3 O n (j+1) (iY s c tk (bS m a).1 (bS m a).2):=by
  intro tk he hO;obtain⟨_,he2⟩:=aI he;obtain⟨he3,_⟩:=aI he2;have hle:=Np he3;rw[ByteArray.size_append]at hle;have ht:=vJ hM a
  have hBs:(um s tk (bS m a).1).size=s.st.size-tk.size-(bS m a).1.size:=by
   unfold um;simp
  have hsts:(iY s c tk (bS m a).1 (bS m a).2).st.size=s.st.size-tk.size:=by
   show(s.st.extract 0 (s.st.size-tk.size)).size=_;simp
  have hop:(iY s c tk (bS m a).1 (bS m a).2).op=s.op++[⟨(bS m a).1,(bS m a).2,um s tk (bS m a).1,c,s.pc⟩]:=rfl
  have htop:aT (iY s c tk (bS m a).1 (bS m a).2)=⟨(bS m a).1,(bS m a).2,um s tk (bS m a).1,c,s.pc⟩:=by
   unfold aT;rw[hop];simp[List.getD_eq_getElem?_getD]
  refine⟨?_,?_,?_,?_,by rw[hsts]; omega,h.hi,h.sh⟩
  ·rw[hop,fU hO]
   simp[h.len]
  ·rw[hop];intro p hp
   rcases List.mem_append.1 hp with hp | hp
   ·exact h.sz p hp
   simp only[List.mem_singleton]at hp;subst hp;exact⟨ht.1,ht.2,sH,j,by dsimp only; rw[hpc],hj⟩
  ·rw[hop,List.pairwise_append];refine⟨h.ch,aw,?_⟩;intro p hp q hq
   simp only[List.mem_singleton]at hq;subst hq;dsimp only;rw[hBs]
   have hpl:p.B.size<=(aT s).B.size:=by
    obtain⟨i,hi,rfl⟩:=List.getElem_of_mem hp;have hget:=lM h.len;have hk:=h.len
    rcases Nat.lt_or_ge i (stk O j).length with hx | hx
    ·have:=List.pairwise_iff_getElem.1 h.ch i (stk O j).length hi ae hx
     rw[aY ae]at hget;simp at hget;rw[hget]at this;exact this
    have:i=(stk O j).length:=ae;subst this;rw[aY ae]at hget;simp at hget;rw[hget];exact Nat.le_refl _
   omega
  rw[htop,hsts];dsimp only;rw[hBs];omega
 by_cases c23:c=2\/c=3
 ·have eE:rwE m lo el s (aT s) c a l=opE m s (aT s) a nT:=by unfold rwE; rw[if_pos c23]
  have eS:rwS m lo s (aT s) c a=iY s c nT (bS m a).1 (bS m a).2:=by unfold rwS; rw[if_pos c23]
  rw[eS];exact hnew nT (by rw[<- eE]; exact he) (by rw[hc,dR]; omega)
 by_cases c4:c=4
 ·have eE:rwE m lo el s (aT s) c a l=opE m s (aT s) a wT:=by unfold rwE; rw[if_neg c23,if_pos c4]
  have eS:rwS m lo s (aT s) c a=iY s c wT (bS m a).1 (bS m a).2:=by unfold rwS; rw[if_neg c23,if_pos c4]
  rw[eS];exact hnew wT (by rw[<- eE]; exact he) (by rw[hc,dR]; omega)
 have hO:isO (O j)=false:=by
  cases hb:isO (O j)
  ·rfl
  rw[dR,hc]at hb; omega
 by_cases c6:c=6
 ·have eS:rwS m lo s (aT s) c a=ul s:=by
   unfold rwS; rw[if_neg c23,if_neg c4,if_neg ae,if_pos c6]
  rw[eS];have hst6:stk O (j+1)=(stk O j).tail:=jV (by rw[hc]; exact c6);have hne:stk O j≠[]:=fun e=>hnb ⟨c6,e⟩
  obtain⟨t,r,hr⟩:∃t r,stk O j=t::r:=by
   cases hx:stk O j with
   | nil=>exact absurd hx hne
   | cons t r=>exact⟨t,r,rfl⟩
  have hlen:=h.len;rw[hr]at hlen;simp only[List.length_cons]at hlen;have hop:(ul s).op=s.op.dropLast:=rfl
  have hdl:s.op.dropLast.length=r.length+1:=by rw[List.length_dropLast,hlen]; omega
  refine⟨?_,?_,?_,?_,h.st,h.hi,h.sh⟩
  ·rw[hop,hst6,hr,hdl]; rfl
  ·rw[hop]; exact fun p hp=>h.sz p ((List.dropLast_sublist _).subset hp)
  ·rw[hop]; exact h.ch.sublist (List.dropLast_sublist _)
  show(aT (ul s)).B.size<=s.st.size;have hg1:=lM (s:=ul s) (k:=r.length) hdl;have hg2:=lM (s:=s) (k:=r.length+1) hlen;rw[hop,List.getElem?_dropLast,if_pos ae,aY ae]at hg1;rw[aY ae]at hg2;simp only[Option.some.injEq]at hg1 hg2;have:=List.pairwise_iff_getElem.1 h.ch r.length (r.length+1) ae ae ae;rw[hg1,hg2]at this;omega
 have hsame:stk O (j+1)=stk O j:=eB hO (by rw[hc]; exact c6)
 by_cases c5:c=5
 ·have eS:rwS m lo s (aT s) c a=Jz s (aT s):=by unfold rwS; rw[if_neg c23,if_neg c4,if_pos c5]
  rw[eS];refine h.keepOp hsame rfl ?_ ?_ h.hi h.sh
  ·show _<=((aT s).B++(aT s).P).size
   rw[ByteArray.size_append]; omega
  show((aT s).B++(aT s).P).size<=256;rw[ByteArray.size_append]; omega
 have hleave:bW (aT s).B (aT s).R=0->Iv3 O n (j+1) (eX s (aT s)):=by
  intro hp;obtain⟨e1,e2⟩:=qQ hp;have hs':(eX s (aT s)).st=(aT s).B++(aT s).R:=e1;exact Gx
 have htake:∀t:ByteArray,bQ s (aT s) t=0->(aT s).B.size<=(cN s t).st.size/\(cN s t).st.size<=256:=by
  intro t ht;have:=Np ht
  have e:(cN s t).st.size=s.st.size-t.size:=by
   show(s.st.extract 0 (s.st.size-t.size)).size=_;simp
  omega
 by_cases c7:c=7
 ·have eS:rwS m lo s (aT s) c a=eX s (aT s):=by unfold rwS; rw[if_neg c23,if_neg c4,if_neg c5,if_neg c6,if_pos (.inl c7)]
  have eE:rwE m lo el s (aT s) c a l=orE (eQ s a) (orE (bQ s (aT s) (brg (dh s a))) (bW (aT s).B (aT s).R)):=by unfold rwE; rw[if_neg c23,if_neg c4,if_neg c5,if_neg c6,if_pos c7]
  rw[eS];rw[eE]at he;exact hleave (aI (aI he).2).2
 by_cases c8:c=8
 ·have eS:rwS m lo s (aT s) c a=cN s wT:=by unfold rwS; rw[if_neg c23,if_neg c4,if_neg c5,if_neg c6,if_neg ae,if_pos c8]
  have eE:rwE m lo el s (aT s) c a l=orE (eQ s a) (orE (bQ s (aT s) (brg (dh s a)++wT)) (bQ s (aT s) wT)):=by unfold rwE; rw[if_neg c23,if_neg c4,if_neg c5,if_neg c6,if_neg c7,if_pos c8]
  rw[eS];rw[eE]at he;have:=htake wT (aI (aI he).2).2;exact h.keepOp hsame rfl this.1 this.2 h.hi h.sh
 by_cases c9:c=9
 ·have eS:rwS m lo s (aT s) c a=eX s (aT s):=by unfold rwS; rw[if_neg c23,if_neg c4,if_neg c5,if_neg c6,if_pos (.inr (.inl c9))]
  have eE:rwE m lo el s (aT s) c a l=orE (kB s l) (orE (bQ s (aT s) (brg (dh s (l.getD 0 0))++wT)) (bW (aT s).B (aT s).R)):=by unfold rwE; rw[if_neg c23,if_neg c4,if_neg c5,if_neg c6,if_neg c7,if_neg c8,if_pos c9]
  rw[eS];rw[eE]at he;exact hleave (aI (aI he).2).2
 by_cases c10:c=10
 ·have eS:rwS m lo s (aT s) c a=eX s (aT s):=by unfold rwS; rw[if_neg c23,if_neg c4,if_neg c5,if_neg c6,if_pos (.inr (.inr (.inl c10)))]
  have eE:rwE m lo el s (aT s) c a l=orE (bQ s (aT s) (brg (qy s))) (bW (aT s).B (aT s).R):=by unfold rwE; rw[if_neg c23,if_neg c4,if_neg c5,if_neg c6,if_neg c7,if_neg c8,if_neg c9,if_pos c10]
  rw[eS];rw[eE]at he;exact hleave (aI he).2
 by_cases c0:c=0
 ·have eS:rwS m lo s (aT s) c a=eX s (aT s):=by unfold rwS; rw[if_neg c23,if_neg c4,if_neg c5,if_neg c6,if_pos (.inr (.inr (.inr c0)))]
  have eE:rwE m lo el s (aT s) c a l=bW (aT s).B (aT s).R:=by unfold rwE; rw[if_neg c23,if_neg c4,if_neg c5,if_neg c6,if_neg c7,if_neg c8,if_neg c9,if_neg c10,if_pos c0]
  rw[eS];rw[eE]at he;exact hleave he
 have eS:rwS m lo s (aT s) c a=qB (cN s (efV m lo s (aT s) c a).1) (efV m lo s (aT s) c a).2:=by
  unfold rwS; rw[if_neg c23,if_neg c4,if_neg c5,if_neg c6,if_neg ae,if_neg c8]
 have eE:rwE m lo el s (aT s) c a l=orE (efE m lo s (aT s) c a) (orE (bQ s (aT s) (efV m lo s (aT s) c a).1) (bW (cN s (efV m lo s (aT s) c a).1).st (efV m lo s (aT s) c a).2)):=by
  unfold rwE; rw[if_neg c23,if_neg c4,if_neg c5,if_neg c6,if_neg c7,if_neg c8,if_neg c9,if_neg c10,if_neg c0]
 rw[eS];rw[eE]at he;obtain⟨e1,e2⟩:=aI (aI he).2;have ht:=htake _ e1;obtain⟨p1,p2⟩:=qQ e2;have hs':(qB (cN s (efV m lo s (aT s) c a).1) (efV m lo s (aT s) c a).2).st=(cN s (efV m lo s (aT s) c a).1).st++(efV m lo s (aT s) c a).2:=p1;exact Gx
theorem Iv3.wk{v:Ev}(h:Iv3 O n j s)(hn:v.n=n)(hnn:n<=1000000)(hpc:s.pc=j)(hj:j<n)(hd:(stk O j).length<=32):Wk v s (stk O j).length (aT s):=by
 have hmem:=Aq h.len;have hsz:=h.sz _ hmem;have hst:=h.st;refine⟨⟨h.len,ae,lM h.len,h.last,ae⟩,ae,ae,ae,ae,fun p hp=>⟨(h.sz p hp).1,(h.sz p hp).2.1⟩,?_⟩;obtain⟨q,hq,hqn⟩:=hsz.2.2.2;exact⟨q,hq,ae⟩
end
variable {w wr:World}{B:Nat}
theorem CR(hlt:k<n)(h:RI wr B n (fun i=>if i<k then -1 else 0))(hb:Below w.heap.size w wr)(hB:w.heap.size<=B) :
  RI (wr.setCell ⟨B,k,none⟩ (.int .i64 (-1))) B n (fun i=>if i<k+1 then -1 else 0)/\Below w.heap.size w (wr.setCell ⟨B,k,none⟩ (.int .i64 (-1))):=by
 refine⟨(h.put k (-1) (fun i hi=>?_)).1,hb.setCell (by simpa using hB) _⟩
 split <;> split <;> (try split) <;> omega
theorem blank(n:Nat)(w:World)(hn:n<=1048576) :
  Calls prog 84 #[.int .i64 n] w fun e w'=>∃B,e=.returned (.slice (some ⟨B,0,none⟩) n n)/\w.heap.size<=B/\RI w' B n (fun _=>-1)/\Below w.heap.size w w':=by
 obtain⟨i0,hi,hz0,hz1,hz2⟩:=info_parts Tryz.infInts;have hb2:i0.bytes*n<=281474976710656:=pG;have hml:n<=maxLen:=dA;go_enter func84,ntmps84
 go_wp2_with (first | (at_make; refine wpList_make_full _ rfl _ _ 23 rfl w.heap.size 3 i0 (.int .i64 0) 1 underlying23 hi hz0 hz1 .i64 .i64 _ _ n rfl rfl ae ae hb2 hml lRn ?_; intro w1 hown hgrow))
 have hown0:RI w1 w.heap.size n (fun i=>if i<0 then -1 else 0):=by
  have e:(madeCells (Value.int .i64 0).cells (n*1)).toList=fl n (fun i=>if i<0 then -1 else 0):=by
   rw[Nat.mul_one]; refine(toList_madeCells_one _ _).trans ?_;exact Ku
  unfold RI;rw[<- e]; exact Row.of hown
 have hbel:Below w.heap.size w w1:=(Below.refl _ _).grown hgrow lRn aw;clear hown hgrow hi hz0 hz1 hz2 hb2 hml
 go_loopw [9] (fun i wr=>∃k:Nat,k<=n/\i=.int .i64 k/\RI wr w.heap.size n (fun i=>if i<k then -1 else 0)/\Below w.heap.size w wr) (fun i _=>n-(intOf i).toNat)
 case atStart=>exact⟨0,ae,rfl,hown0,hbel⟩
 case round =>
  obtain⟨k,hk,rfl,hown,hb⟩:=hrel;clear hown0 hbel
  by_cases hlt:k<n
  ·have hst:=CR hlt hown hb lRn;have hcl:=hown.cell k hlt;have hfz:=hown.free k;have HS:=hid hst;clear hst hb hown;go_wp2;have R:=HS.out;exact⟨⟨k+1,ae,bH,R.1,R.2⟩,bI⟩
  obtain rfl:k=n:=ae;have HB:=hid hb;have HO:=hid hown;clear hb hown;go_wp2;go_ret;exact⟨_,rfl,Nat.le_refl _,HO.out.congr (fun i hi=>by simp[hi]),HB.out⟩
def nJ(A B C n:Nat):Value:=.agg #[.slice (some ⟨A,0,none⟩) n n,.slice (some ⟨B,0,none⟩) n n,.slice (some ⟨C,0,none⟩) n n]
theorem VF(A B C n t pc:Nat)(en el:NIz)(w:World)(hn:n<=1048576)(ht:t<n)(hAB:A≠B)(hA:RI w A n en)(hB:RI w B n el)(hel:el t=-1\/∃j:Nat,el t=j/\j<n) :
  Calls prog 118 #[nJ A B C n,.int .i64 t,.int .i64 pc] w fun e w'=>e=.returned (.tuple #[])/\RI w' A n (fun i=>if i=t\/(i:Int)=el t then (pc:Int) else en i)/\Kept (fun k=>k=A) w w':=by
 unfold nJ;have hAl:=hA.lt;have hBl:=hB.lt;obtain⟨o,ho⟩:∃o,o=Obj.cells #[Value.slice (some ⟨A,0,none⟩) n n,.slice (some ⟨B,0,none⟩) n n,.slice (some ⟨C,0,none⟩) n n] 149:=⟨_,rfl⟩;have k0:=Kept.alloc (fun k=>k=A) w o;have hA1:=hA.kept (Kept.alloc (fun _=>False) w o) (fun x=>x);have hB1:=hB.kept (Kept.alloc (fun _=>False) w o) (fun x=>x);have hAn:¬A=w.heap.size:=ae;have hBn:¬B=w.heap.size:=ae;have g1:(w.alloc o).cell? ⟨A,t,none⟩=some (.int .i64 (en t)):=hA1.cell t ht;have g2:(w.alloc o).frozen? ⟨A,t,none⟩=false:=hA1.free t;have P1:=hA1.put (g:=fun i=>if i=t then (pc:Int) else en i) t pc (fun i hi=>rfl);have g3:((w.alloc o).setCell ⟨A,t,none⟩ (.int .i64 pc)).cell? ⟨B,t,none⟩=some (.int .i64 (el t)):=(hB1.kept P1.2 (fun x=>hAB x.symm)).cell t ht;have hp0:(w.alloc o).cell? ⟨w.heap.size,0,none⟩=some (.slice (some ⟨A,0,none⟩) n n):=sD;have hp1:(w.alloc o).cell? ⟨w.heap.size,1,none⟩=some (.slice (some ⟨B,0,none⟩) n n):=sD;have g4:((w.alloc o).setCell ⟨A,t,none⟩ (.int .i64 pc)).cell? ⟨w.heap.size,0,none⟩=some (.slice (some ⟨A,0,none⟩) n n):=P1.2.cell hp0 (fun x=>hAn x.symm);have g5:((w.alloc o).setCell ⟨A,t,none⟩ (.int .i64 pc)).cell? ⟨w.heap.size,1,none⟩=some (.slice (some ⟨B,0,none⟩) n n):=P1.2.cell hp1 (fun x=>hAn x.symm);have HP:=hid P1;have HK:=hid k0
 rcases hel with hel | ⟨j,hel,hj⟩
 ·rw[hel]at g3;have HE:=hid hel;subst ho;clear hA1 hB1 hp0 hp1 hA hB P1 k0 hel hAB hAl hBl hAn hBn
  go_enter func118,ntmps118
  go_wp2_with fail;go_end0
  refine⟨rfl,HP.out.1.congr (fun i hi=>?_),HK.out.trans HP.out.2⟩;rw[HE.out];have:¬(i:Int)=-1:=ae;simp[this]
 rw[hel]at g3;have HE:=hid hel
 have P2:=HP.out.1.put (g:=fun i=>if i=t\/(i:Int)=el t then (pc:Int) else en i) j pc (fun i hi=>by
  rw[hel]
  by_cases e:i=j
  ·subst e; simp
  have:¬(i:Int)=(j:Int):=ae
  simp[e,this])
 have g6:=HP.out.1.cell j hj;have g7:=HP.out.1.free j;have HP2:=hid P2;have hjb:((j:Int)==-1)=false:=aw;have hjn:((j:Int) != -1)=true:=aw;subst ho;clear hA1 hB1 hp0 hp1 hA hB P1 P2 k0 hel hAB hAl hBl hAn hBn;go_enter func118,ntmps118
 go_wp2_with fail;go_end0;exact⟨rfl,HP2.out.1,(HK.out.trans HP.out.2).trans HP2.out.2⟩
structure WSt(O:NIz)(A B C n:Nat)(w1:World)(k:Nat)(wr:World):Prop where
 ok:Okp O k
 rest:res O (n-k) k=res O n 0
 en:RI wr A n (enF O k)
 el:RI wr B n (elF O k)
 ow:RI wr C n (owF O k)
 kept:Kept (fun k=>k=A\/k=B\/k=C) w1 wr
theorem kK(h:Okp O k)(he:er O k=0)(hb:¬(O k=6/\stk O k=[])):Okp O (k+1):=fun i hi=>by
 by_cases e:i=k
 ·subst e; exact⟨he,hb⟩
 exact h i ae
variable {A C:Nat}{w1 wr':World}
theorem WSt.go(h:WSt O A B C n w1 k wr)(hlt:k<n)(he:er O k=0)(hb:¬(O k=6/\stk O k=[]))
  (en:RI wr' A n (enF O (k+1))) (el:RI wr' B n (elF O (k+1))) (ow:RI wr' C n (owF O (k+1))) (kp:Kept (fun k=>k=A\/k=B\/k=C) wr wr'):WSt O A B C n w1 (k+1) wr' :=
 ⟨kK h.ok he hb,(jA hlt he hb).symm.trans h.rest,en,el,ow,h.kept.trans kp⟩
structure Mid(O:NIz)(A B C n:Nat)(k:Nat)(wr wr3:World):Prop where
 en:RI wr3 A n (enF O k)
 el:RI wr3 B n (elF O k)
 ow:RI wr3 C n (owF O (k+1))
 kept:Kept (fun k=>k=A\/k=B\/k=C) wr wr3
theorem WSt.mid(h:WSt O A B C n w1 k wr)(hAC:A≠C)(hBC:B≠C)(ob:Obj):Mid O A B C n k wr ((wr.alloc ob).setCell ⟨C,k,none⟩ (.int .i64 (top (stk O k)))):=by
 have kf:=Kept.alloc (fun _=>False) wr ob;have p:=(h.ow.kept kf (fun x=>x)).put (g:=owF O (k+1)) k (top (stk O k)) (fun i hi=>Ak O k i);exact⟨(h.en.kept kf (fun x=>x)).kept p.2 hAC,(h.el.kept kf (fun x=>x)).kept p.2 hBC,p.1,(Kept.alloc _ wr ob).trans (p.2.mono (fun k hk=>.inr (.inr hk)))⟩
theorem walk_in(A B C b off n cap:Nat)(xs:List Inx)(w:World)(hn:n<=1048576)(hcap:n<=cap)(hn0:0<n)(hc:Cod w b off n xs)(hAB:A≠B)(hAC:A≠C)(hBC:B≠C)(hbA:b≠A)(hbB:b≠B)(hbC:b≠C)
  (hA:RI w A n (fun _=>-1)) (hB:RI w B n (fun _=>-1)) (hC:RI w C n (fun _=>-1)) :
  Calls prog 85 #[nJ A B C n,.slice (some ⟨b,off,none⟩) n cap] w fun e w'=>e=.returned (.tuple #[.int .i64 (res (opF xs) n 0).1,.int .i64 (res (opF xs) n 0).2]) /\
   ((res (opF xs) n 0).1=0->RI w' A n (enF (opF xs) n)/\RI w' B n (elF (opF xs) n)/\RI w' C n (owF (opF xs) n))/\Kept (fun k=>k=A\/k=B\/k=C) w w':=by
 unfold nJ;obtain⟨o,ho⟩:∃o,o=Obj.cells #[Value.slice (some ⟨A,0,none⟩) n n,.slice (some ⟨B,0,none⟩) n n,.slice (some ⟨C,0,none⟩) n n] 149:=⟨_,rfl⟩;have kw:=Kept.alloc (fun k=>k=A\/k=B\/k=C) w o;have kf:=Kept.alloc (fun _=>False) w o;have hst:WSt (opF xs) A B C n (w.alloc o) 0 (w.alloc o):=⟨fun i hi=>absurd hi ae,rfl,(hA.kept kf (fun x=>x)).congr (fun _ _=>rfl),(hB.kept kf (fun x=>x)).congr (fun _ _=>rfl),(hC.kept kf (fun x=>x)).congr (fun _ _=>rfl),Kept.refl _ _⟩;have hp0:(w.alloc o).cell? ⟨w.heap.size,0,none⟩=some (.slice (some ⟨A,0,none⟩) n n):=sD;have hp1:(w.alloc o).cell? ⟨w.heap.size,1,none⟩=some (.slice (some ⟨B,0,none⟩) n n):=sD;have hp2:(w.alloc o).cell? ⟨w.heap.size,2,none⟩=some (.slice (some ⟨C,0,none⟩) n n):=sD;have hAl:=hA.lt;have hBl:=hB.lt;have hCl:=hC.lt;have nP:¬(w.heap.size=A\/w.heap.size=B\/w.heap.size=C):=ae;have nb:¬(b=A\/b=B\/b=C):=ae;have HST:=hid hst;have HP0:=hid hp0;have HP1:=hid hp1;have HP2:=hid hp2;have HC:=hid hc;have HKW:=hid kw;have HKF:=hid kf;obtain⟨P,hP⟩:∃P,P=w.heap.size:=⟨_,rfl⟩;clear hA hB hC hst hp0 hp1 hp2 hc kw kf hAl hBl hCl;subst ho;go_enter func85,ntmps85;go_wp2_with fail
 go_step3
 go_wp2_with fail
 go_step3
 go_wp2_with fail;generalize hw1:w.alloc (Obj.cells #[Value.slice (some ⟨A,0,none⟩) n n,.slice (some ⟨B,0,none⟩) n n,.slice (some ⟨C,0,none⟩) n n] 149)=w1 at *
 go_loopw [6,7,8,13] (fun o d z i wr=>∃k:Nat,k<=n/\o=.int .i64 (top (stk (opF xs) k))/\d=.int .i64 (stk (opF xs) k).length/\z=.int .i64 0/\i=.int .i64 k/\WSt (opF xs) A B C n w1 k wr) (fun _ _ _ i _=>n-(intOf i).toNat)
 case atStart=>exact⟨0,ae,rfl,rfl,rfl,rfl,HST.out⟩
 case round =>
  obtain⟨k,hk,rfl,rfl,rfl,rfl,hst⟩:=hrel
  by_cases hlt:k<n
  ·have g0:wr.cell? ⟨b,off+k*3,none⟩=some (.int .u8 (opF xs k)):=hst.kept.cell (HKF.out.cell (HC.out.op hlt) (fun x=>x)) nb
   have hcr:=HC.out.range hlt;obtain⟨av,g1⟩:∃av,wr.cell? ⟨b,off+k*3+1,none⟩=some (.int .i64 av):=⟨_,hst.kept.cell (HKF.out.cell (HC.out.num hlt) (fun x=>x)) nb⟩;obtain⟨la,ln,lc,g2⟩:∃la ln lc,wr.cell? ⟨b,off+k*3+2,none⟩=some (.slice la ln lc):=⟨_,_,_,hst.kept.cell (HKF.out.cell (HC.out.lab hlt) (fun x=>x)) nb⟩;obtain⟨c,hcO⟩:∃c,opF xs k=c:=⟨_,rfl⟩;rw[hcO]at g0 hcr;obtain⟨ob,hob⟩:∃ob,ob=Obj.cells #[Value.int .u8 c,.int .i64 av,.slice la ln lc] 82:=⟨_,rfl⟩;have hmid:=hst.mid hAC hBC ob;have kf2:=Kept.alloc (fun _=>False) wr ob
   have hlw:w.heap.size<wr.heap.size:=by
    have h1:=hst.kept.size;have h2:=block_lt_of_cell HP0.out;simp only at h2;omega
   have q2:(wr.alloc ob).cell? ⟨w.heap.size,2,none⟩=some (.slice (some ⟨C,0,none⟩) n n):=kf2.cell (hst.kept.cell HP2.out nP) (fun x=>x);have c2:(wr.alloc ob).cell? ⟨C,k,none⟩=some (.int .i64 (owF (opF xs) k k)):=(hst.ow.kept kf2 (fun x=>x)).cell k hlt;have f2:(wr.alloc ob).frozen? ⟨C,k,none⟩=false:=(hst.ow.kept kf2 (fun x=>x)).free k;have nC:¬C=w.heap.size:=ae
   have nCw:¬C=wr.heap.size:=by have:=hst.ow.lt; omega
   have x0:((wr.alloc ob).setCell ⟨C,k,none⟩ (.int .i64 (top (stk (opF xs) k)))).cell? ⟨wr.heap.size,0,none⟩=some (.int .u8 c):=by
    rw[World.cell?_setCell_other _ _ _ _ (fun e=>nCw (by injection e)),hob,World.cell?_alloc_new]; rfl
   have r0:((wr.alloc ob).setCell ⟨C,k,none⟩ (.int .i64 (top (stk (opF xs) k)))).cell? ⟨w.heap.size,0,none⟩=some (.slice (some ⟨A,0,none⟩) n n):=hmid.kept.cell (hst.kept.cell HP0.out nP) nP;have r1:((wr.alloc ob).setCell ⟨C,k,none⟩ (.int .i64 (top (stk (opF xs) k)))).cell? ⟨w.heap.size,1,none⟩=some (.slice (some ⟨B,0,none⟩) n n):=hmid.kept.cell (hst.kept.cell HP1.out nP) nP;have r2:((wr.alloc ob).setCell ⟨C,k,none⟩ (.int .i64 (top (stk (opF xs) k)))).cell? ⟨w.heap.size,2,none⟩=some (.slice (some ⟨C,0,none⟩) n n):=hmid.kept.cell (hst.kept.cell HP2.out nP) nP;have HM:=hid hmid;have HT:=hid hst;clear hmid hst kf2
   by_cases hO:isO c=true
   ·have ho5:=je hO
    by_cases hd:(stk (opF xs) k).length=32
    ·have her:er (opF xs) k=35:=by unfold er; rw[hcO,if_pos hO,if_pos hd]
     have hres:res (opF xs) n 0=(35,(k:Int)):=qP;have HR:=hid hres
     have hdb:(((stk (opF xs) k).length:Int)==32)=true:=by rw[hd]; rfl
     rw[dR]at hO;subst hob;clear hres her hd;generalize (stk (opF xs) k).length=dl at *;generalize top (stk (opF xs) k)=tp at *
     rcases hO with rfl | rfl | rfl
     all_goals
      go_wp2_with fail
      try rw[Exit.noGoto_ret]
      go_ret2;rw[HR.out];exact DX
    have her:er (opF xs) k=0:=by unfold er; rw[hcO,if_pos hO,if_neg hd]
    have hO':isO (opF xs k)=true:=by rw[hcO]; exact hO
    have hNX:=HT.out.go hlt her (fun x=>ho5.2 (hcO.symm.trans x.1)) (HM.out.en.congr (fun i _=>gy (by rw[hcO]; exact ho5.2))) (HM.out.el.congr (fun i _=>gQ (by rw[hcO]; exact ho5.1))) HM.out.ow HM.out.kept;have HNX:=hid hNX;have hlen:=oN HT.out.ok;have HSK:=hid (fU hO');have hdb:(((stk (opF xs) k).length:Int)==32)=false:=aK;have HDL:=hid (show(stk (opF xs) k).length+1=(stk (opF xs) (k+1)).length by rw[fU hO']; rfl);rw[dR]at hO;subst hob;clear hNX her hd hO';generalize (stk (opF xs) k).length=dl at *;generalize top (stk (opF xs) k)=tp at *
    rcases hO with rfl | rfl | rfl
    all_goals
     go_wp2_with fail;refine⟨⟨k+1,ae,?_,?_,rfl,bH,HNX.out⟩,bI⟩
     ·rw[HSK.out]; rfl
     rw[<- HDL.out]; go_num
   have hO2:=ry uZ;have hOf:isO (opF xs k)=false:=yg;obtain⟨no2,no3,no4⟩:=hO2
   have b2:(c==2)=false:=by simpa using no2
   have b3:(c==3)=false:=by simpa using no3
   have b4:(c==4)=false:=by simpa using no4
   by_cases h5:c=5
   ·have hO5:opF xs k=5:=hcO.trans h5
    rcases fF (opF xs) k with hs | ⟨t,ht,hOt,hs⟩
    ·have her:er (opF xs) k=37:=Es;have hres:res (opF xs) n 0=(37,(k:Int)):=qP;have HR:=hid hres;have htp:top (stk (opF xs) k)=-1:=jk;subst hob;subst h5;clear hres her hs;generalize (stk (opF xs) k).length=dl at *;rw[htp]at x0 r0 r1 r2 HM ⊢;exact xH
    have htp:top (stk (opF xs) k)=(t:Int):=jk;have htn:t<n:=ae;have hct:((wr.alloc ob).setCell ⟨C,k,none⟩ (.int .i64 (top (stk (opF xs) k)))).cell? ⟨b,off+t*3,none⟩=some (.int .u8 (opF xs t)):=HM.out.kept.cell (HT.out.kept.cell (HKF.out.cell (HC.out.op htn) (fun x=>x)) nb) nb;have het:((wr.alloc ob).setCell ⟨C,k,none⟩ (.int .i64 (top (stk (opF xs) k)))).cell? ⟨B,t,none⟩=some (.int .i64 (elF (opF xs) k t)):=HM.out.el.cell t htn;have hft:((wr.alloc ob).setCell ⟨C,k,none⟩ (.int .i64 (top (stk (opF xs) k)))).frozen? ⟨B,t,none⟩=false:=HM.out.el.free t
    have hern:¬(opF xs t=4/\elF (opF xs) k t=-1)->res (opF xs) n 0=(37,(k:Int)):=fun hx=>by
     exact Mu
    have tb:((t:Int)==-1)=false:=aw;rw[htp]at x0 r0 r1 r2 HM hct het hft ⊢
    by_cases h4:opF xs t=4
    ·rw[h4]at hct
     by_cases hel:elF (opF xs) k t=-1
     ·rw[hel]at het
      have her:er (opF xs) k=0:=by unfold er; rw[if_neg rZ,if_pos hO5,hs]; simp only; rw[if_pos ⟨h4,hel⟩]
      have PB:=HM.out.el.put (g:=elF (opF xs) (k+1)) t k (fun i hi=>td hO5 hs i);have hNX:=HT.out.go hlt her (fun x=>by have:=x.1; omega) ((HM.out.en.congr (fun i _=>gy ae)).kept PB.2 hAB) PB.1 (HM.out.ow.kept PB.2 (fun x=>hBC x.symm)) (HM.out.kept.trans (PB.2.mono (fun k hk=>.inr (.inl hk))));have HNX:=hid hNX;have HSK:=hid (eB hOf ae);have HTP:=hid htp;subst hob;subst h5;clear hNX her PB hel h4 hern hs htp;generalize hdl:(stk (opF xs) k).length=dl at *;go_wp2_with fail;refine⟨⟨k+1,ae,?_,?_,rfl,bH,HNX.out⟩,bI⟩
      ·rw[HSK.out,HTP.out]
      rw[HSK.out,hdl]
     have HR:=hid (hern (fun x=>hel x.2))
     have eb:(elF (opF xs) k t==-1)=false:=by simpa using hel
     have ebn:(elF (opF xs) k t != -1)=true:=by simpa using hel
     subst hob;subst h5;clear hern hs htp h4 hel;generalize (stk (opF xs) k).length=dl at *;generalize elF (opF xs) k t=ev at *;exact xH
    have HR:=hid (hern (fun x=>h4 x.1));have eb:(opF xs t==4)=false:=mP;have ebn:(opF xs t != 4)=true:=mP;have hrt:=HC.out.range htn;subst hob;subst h5;clear hern hs htp h4;generalize (stk (opF xs) k).length=dl at *;generalize opF xs t=ct at *;exact xH
   have b5:(c==5)=false:=sy
   have her:er (opF xs) k=0:=by unfold er; rw[if_neg rZ,if_neg xo]
   by_cases h6:c=6
   ·have hO6:opF xs k=6:=hcO.trans h6
    rcases fF (opF xs) k with hs | ⟨t,ht,hOt,hs⟩
    ·have hres:=(HT.out.rest).symm.trans (tB hlt her ⟨hO6,hs⟩);have htp:top (stk (opF xs) k)=-1:=jk;have hfin:RI ((wr.alloc ob).setCell ⟨C,k,none⟩ (.int .i64 (top (stk (opF xs) k)))) A n (enF (opF xs) (k+1))/\RI ((wr.alloc ob).setCell ⟨C,k,none⟩ (.int .i64 (top (stk (opF xs) k)))) B n (elF (opF xs) (k+1))/\RI ((wr.alloc ob).setCell ⟨C,k,none⟩ (.int .i64 (top (stk (opF xs) k)))) C n (owF (opF xs) (k+1)) :=
      ⟨HM.out.en.congr (fun i _=>zo hs i),HM.out.el.congr (fun i _=>z8 hs i),HM.out.ow⟩
     have HF:=hid hfin;have HR:=hid hres;have kb:((k:Int)+1==0)=false:=aK;subst hob;subst h6;clear hres her hs hfin;generalize (stk (opF xs) k).length=dl at *;rw[htp]at x0 r0 r1 r2 HM HF ⊢
     by_cases hl:k+1=n
     ·have hl1:¬(k:Int)+1<(n:Int):=ae;go_wp2_with fail
      try rw[Exit.noGoto_ret]
      go_ret2;rw[HR.out,if_pos hl];subst hl
      exact⟨rfl,fun _=>HF.out,HKW.out.trans (HT.out.kept.trans HM.out.kept)⟩
     have hl1:(k:Int)+1<(n:Int):=ae;go_wp2_with fail
     try rw[Exit.noGoto_ret]
     go_ret2;rw[HR.out,if_neg hl];exact DX
    have htp:top (stk (opF xs) k)=(t:Int):=jk;have htn:t<n:=ae;have hiv:=N0 HT.out.ok
    have hel:elF (opF xs) k t=-1\/∃j:Nat,elF (opF xs) k t=j/\j<n:=by
     rcases hiv.els t with h | ⟨j,a1,a2,a3,_⟩
     ·exact .inl h
     exact .inr ⟨j,a1,ae⟩
    have HE:=hid (VF A B C n t k _ _ _ hn htn hAB HM.out.en HM.out.el hel)
    have hs1:stk (opF xs) (k+1)=stk (opF xs) t:=by rw[jV hO6,hs]; rfl
    have HS1:=hid hs1;have hdl:(stk (opF xs) k).length=(stk (opF xs) t).length+1:=jk
    have hen:∀i,enF (opF xs) (k+1) i=if i=t\/(i:Int)=elF (opF xs) k t then (k:Int) else enF (opF xs) k i:=fun i=>qV hO6 hs i
    have HEN:=hid hen;have hlen:=oN HT.out.ok;rw[hdl]at hlen
    have hb6:¬(opF xs k=6/\stk (opF xs) k=[]):=fun x=>by rw[hs]at x; cases x.2
    have HB6:=hid hb6;have tb:((t:Int)==-1)=false:=aw;subst hob;subst h6;rw[hdl];rw[htp]at x0 r0 r1 r2 HM HE ⊢;unfold nJ at HE;clear hs hs1 hdl hen hb6 hiv hel htp;go_wp2_with fail;refine HE.out.mono ?_;rintro e w4⟨rfl,en4,kp4⟩;have z2:w4.cell? ⟨w.heap.size,2,none⟩=some (.slice (some ⟨C,0,none⟩) n n):=kp4.cell r2 ae;have z3:w4.cell? ⟨C,t,none⟩=some (.int .i64 (owF (opF xs) (k+1) t)):=(HM.out.ow.kept kp4 (fun x=>hAC x.symm)).cell t htn
    have z4:owF (opF xs) (k+1) t=top (stk (opF xs) t):=by unfold owF; rw[if_pos ae]
    rw[z4]at z3;have hNX:=HT.out.go hlt her HB6.out (en4.congr (fun i _=>HEN.out i)) ((HM.out.el.congr (fun i _=>gQ ae)).kept kp4 (fun x=>hAB x.symm)) (HM.out.ow.kept kp4 (fun x=>hAC x.symm)) (HM.out.kept.trans (kp4.mono (fun k hk=>.inl hk)));have HNX:=hid hNX;have HZ:=hid z4;clear hNX en4 kp4 z4 her;generalize hdt:(stk (opF xs) t).length=dt at *;generalize htt:top (stk (opF xs) t)=tt at *;go_wp2_with fail;refine⟨⟨k+1,ae,?_,?_,rfl,bH,HNX.out⟩,bI⟩
    ·rw[HS1.out,htt]
    rw[HS1.out,hdt]
   have b6:(c==6)=false:=pz;have hNX:=HT.out.go hlt her (fun x=>h6 (hcO.symm.trans x.1)) (HM.out.en.congr (fun i _=>gy wN)) (HM.out.el.congr (fun i _=>gQ xo)) HM.out.ow HM.out.kept;have HNX:=hid hNX;have HSK:=hid (eB hOf wN);subst hob;clear hNX her hO hOf;generalize hdl:(stk (opF xs) k).length=dl at *;generalize htp:top (stk (opF xs) k)=tp at *;go_wp2_with fail;refine⟨⟨k+1,ae,?_,?_,rfl,bH,HNX.out⟩,bI⟩
   ·rw[HSK.out,htp]
   rw[HSK.out,hdl]
  obtain rfl:k=n:=ae
  have hres:res (opF xs) k 0=(38,(k:Int)):=by rw[<- hst.rest,Nat.sub_self]; rfl
  have HR:=hid hres;have HT:=hid hst;clear hres hst;generalize (stk (opF xs) k).length=dl at *;generalize top (stk (opF xs) k)=tp at *;go_wp2_with fail
  try rw[Exit.noGoto_ret]
  go_ret2;rw[HR.out]
  exact⟨rfl,(fun h=>cm),HKW.out.trans HT.out.kept⟩
theorem walk_nil(A B C cap:Nat)(a:OAz)(w:World) :
  Calls prog 85 #[nJ A B C 0,.slice a 0 cap] w fun e w'=>e=.returned (.tuple #[.int .i64 38,.int .i64 0])/\Kept (fun _=>False) w w':=by
 unfold nJ;have HK:=hid (Kept.alloc (fun _=>False) w (Obj.cells #[Value.slice (some ⟨A,0,none⟩) 0 0,.slice (some ⟨B,0,none⟩) 0 0,.slice (some ⟨C,0,none⟩) 0 0] 149));go_enter func85,ntmps85;go_wp2_with fail
 go_step3
 go_wp2_with fail
 go_step3
 go_wp2_with fail;refine wp_loop_rounds 1 ?_;rw[rounds_succ];go_wp2_with fail
 try rw[Exit.noGoto_ret]
 go_ret2;exact⟨rfl,HK.out⟩
abbrev bi:Value:=.slice none 0 0
def OU(O:NIz)(n base:Nat)(w:World)(a1 a2 a3:OAz)(m:Nat):Prop :=
 ((res O n 0).1≠0/\a1=none/\a2=none/\a3=none/\m=0) \/
 (res O n 0=(0,0)/\Good O n/\m=n/\∃A B C,base<=A/\base<=B/\base<=C/\A≠B/\A≠C/\B≠C/\a1=some ⟨A,0,none⟩/\a2=some ⟨B,0,none⟩/\a3=some ⟨C,0,none⟩ /\
  RI w A n (enF O n)/\RI w B n (elF O n)/\RI w C n (owF O n))
variable {w':World}
theorem OU.keep{n base base' m:Nat}{a1 a2 a3:OAz}{S:Nat->Prop}(h:OU O n base w a1 a2 a3 m)(hk:Kept S w w')(hs:∀k,base<=k->¬S k)(hb:base'<=base):OU O n base' w' a1 a2 a3 m:=by
 rcases h with h | ⟨g1,g2,g3,A,B,C,x1,x2,x3,x4,x5,x6,x7,x8,x9,y1,y2,y3⟩
 ·exact .inl h
 exact .inr ⟨g1,g2,g3,A,B,C,ae,ae,ae,x4,x5,x6,x7,x8,x9,y1.kept hk (hs A x1),y2.kept hk (hs B x2),y3.kept hk (hs C x3)⟩
variable {w2:World}
theorem bw{S:Nat->Prop}(h:Below B w w1)(hk:Kept S w1 w2)(hB:B<=w1.heap.size)(hs:∀k,S k->B<=k):Below B w w2 :=
 ⟨hk.os.trans h.os,hk.tape.trans h.tape,hk.output.trans h.output,Nat.le_trans h.size hk.size,fun k hx=>(hk.block k ae (fun x=>by have:=hs k x; omega)).trans (h.block k hx)⟩
variable {fn:Func}
theorem ey{t u v x y:Tmp}(h:fn.results=#[.tmp t,.tmp u,.tmp v,.tmp x,.tmp y])(tmps:AVz)(P:Program)(w:World) :
  (results fn tmps).run P w=.ok (.tuple #[tmps.getD t undef,tmps.getD u undef,tmps.getD v undef,tmps.getD x undef,tmps.getD y undef]) w:=by
 simp[results,h]
theorem LW(a:OAz)(n cap:Nat)(xs:List Inx)(w:World)(hn:n<=1048576)(hcap:n<=cap)(hc:ui w a n xs) :
  Calls prog 59 #[.slice a n cap] w fun e w'=>∃a1 a2 a3 m,e=.returned (.tuple #[.slice a1 m m,.slice a2 m m,.slice a3 m m,.int .i64 (res (opF xs) n 0).1,.int .i64 (res (opF xs) n 0).2])/\OU (opF xs) n w.heap.size w' a1 a2 a3 m/\Below w.heap.size w w':=by
 have H1:=hid (blank n w hn);have HC:=hid hc;clear hc;go_enter func59,ntmps59
 go_wp2_with fail;refine H1.out.mono ?_;rintro e w1⟨A,rfl,hA0,hA,hb1⟩;have H2:=hid (blank n w1 hn);go_wp2_with fail;refine H2.out.mono ?_;rintro e w2⟨B,rfl,hB0,hB,hb2⟩;have H3:=hid (blank n w2 hn);go_wp2_with fail;refine H3.out.mono ?_;rintro e w3⟨C,rfl,hC0,hC,hb3⟩;have hAl:=hA.lt;have hBl:=hB.lt;have hCl:=hC.lt;have hs1:=hb1.size;have hs2:=hb2.size;have hs3:=hb3.size;have hAB:A≠B:=ae;have hAC:A≠C:=ae;have hBC:B≠C:=ae;have k2:=Kept.of_below hb2;have k3:=Kept.of_below hb3;have hA3:=(hA.kept k2 ae).kept k3 ae;have hB3:=hB.kept k3 ae;have hbw:Below w.heap.size w w3:=(hb1.trans (hb2.mono hs1)).trans (hb3.mono ae);obtain⟨op,hop⟩:∃op,op=Obj.cells #[Value.slice (some ⟨A,0,none⟩) n n,.slice (some ⟨B,0,none⟩) n n,.slice (some ⟨C,0,none⟩) n n] 149:=⟨_,rfl⟩
 have kf:=Kept.alloc (fun _=>False) w3 op;have hbp:Below w.heap.size w (w3.alloc op):=hbw.alloc ae op;have hA4:=hA3.kept kf (fun x=>x);have hB4:=hB3.kept kf (fun x=>x);have hC4:=hC.kept kf (fun x=>x);have p0:(w3.alloc op).cell? ⟨w3.heap.size,0,none⟩=some (.slice (some ⟨A,0,none⟩) n n):=wZ;have p1:(w3.alloc op).cell? ⟨w3.heap.size,1,none⟩=some (.slice (some ⟨B,0,none⟩) n n):=wZ;have p2:(w3.alloc op).cell? ⟨w3.heap.size,2,none⟩=some (.slice (some ⟨C,0,none⟩) n n):=wZ;have nP:¬(w3.heap.size=A\/w3.heap.size=B\/w3.heap.size=C):=ae
 have hwalk:Calls prog 85 #[nJ A B C n,.slice a n cap] (w3.alloc op) fun e w'=>e=.returned (.tuple #[.int .i64 (res (opF xs) n 0).1,.int .i64 (res (opF xs) n 0).2]) /\
   ((res (opF xs) n 0).1=0->RI w' A n (enF (opF xs) n)/\RI w' B n (elF (opF xs) n)/\RI w' C n (owF (opF xs) n))/\Kept (fun k=>k=A\/k=B\/k=C) (w3.alloc op) w':=by
  have hcs:=HC.out.later hbp lRn
  by_cases h0:n=0
  ·subst h0
   refine(walk_nil A B C cap a _).mono fun e w' ⟨he,hk⟩=>⟨by rw[he]; rfl,(fun h=>cm),hk.mono (fun _ x=>x.elim)⟩
  rcases hcs.2 with hc | ⟨b,off,rfl,hc⟩
  ·exact absurd hc h0
  have hb:b<w.heap.size:=by
   rcases HC.out.2 with hx | ⟨b',off',e,hx⟩
   ·exact absurd hx h0
   injection e with e; injection e with e1; subst e1; exact hx.lt ae
  exact walk_in A B C b off n cap xs _ hn hcap ae hc hAB hAC hBC ae ae ae hA4 hB4 hC4
 have HW:=hid hwalk;have HB:=hid hbp;unfold nJ at HW;have hge:w.heap.size<=w3.heap.size:=ae;have hsz:(w3.alloc op).heap.size=w3.heap.size+1:=aw;subst hop;clear hwalk hA hB hC hA3 hB3 hA4 hB4 hC4 kf k2 k3 hbw hbp hb1 hb2 hb3 hs1 hs2 hs3;go_wp2_with fail;refine HW.out.mono ?_;rintro e w5⟨rfl,hR,hk⟩;have z0:=hk.cell p0 nP;have z1:=hk.cell p1 nP;have z2:=hk.cell p2 nP;have HB5:=hid (bw HB.out hk ae (fun k hx=>ae));have HR:=hid hR;clear hR hk
 by_cases h0:(res (opF xs) n 0).1=0
 ·have hg:=yO h0;have HRR:=hid (fN hg);have HG:=hid hg
  have hz:((res (opF xs) n 0).1==0)=true:=by rw[h0]; rfl
  have hz':((res (opF xs) n 0).1 != 0)=false:=by rw[h0]; rfl
  have H0:=hid h0;clear h0 hg;generalize hr1:(res (opF xs) n 0).1=r1 at *;generalize hr2:(res (opF xs) n 0).2=r2 at *;go_wp2_with fail
  go_quiet (fail)
  go_wp2_with fail
  (try simp only[Exit.inBlock,Exit.then])
  refine bodyPost_ret (ey rfl _ _ _) rfl ?_;have e1:r1=0:=H0.out
  have e2:r2=0:=by rw[<- hr2,HRR.out]
  have kd:=Kept.drewN (fun _=>False) w5 nq;obtain⟨R1,R2,R3⟩:=HR.out e1;refine⟨_,_,_,_,by rw[hr1,hr2,e1,e2]; rfl,?_,bw HB5.out kd HB5.out.size (fun _ x=>x.elim)⟩;exact .inr ⟨HRR.out,HG.out,rfl,A,B,C,ae,ae,ae,hAB,hAC,hBC,rfl,rfl,rfl,R1.kept kd (fun x=>x),R2.kept kd (fun x=>x),R3.kept kd (fun x=>x)⟩
 have hz:((res (opF xs) n 0).1==0)=false:=gX;have hz':((res (opF xs) n 0).1 != 0)=true:=gX;have H0:=hid h0;clear h0;generalize hr1:(res (opF xs) n 0).1=r1 at *;generalize hr2:(res (opF xs) n 0).2=r2 at *;go_wp2_with fail
 (try simp only[Exit.inBlock,Exit.then])
 refine bodyPost_ret (ey rfl _ _ _) rfl ?_;refine⟨_,_,_,_,by rw[hr1,hr2]; rfl,.inl ⟨?_,rfl,rfl,rfl,rfl⟩,HB5.out⟩;rw[hr1]; exact H0.out
def eA:List Int:=[70,76,71,78,1]
def bO(m:MM):Int:=orE (fw m) (if 65536<(eA++qG m).length then 13 else 0)
variable {W:World}{R g:Nat}{a:OAz}
theorem Far.later(h:Far w R g a)(hb:Below w.heap.size w W):Far W R g a:=fun b off c hh=>⟨(h b off c hh).1,(h b off c hh).2.1,Nat.lt_of_lt_of_le (h b off c hh).2.2 hb.size⟩
variable {m:MM}
theorem MOk.later(h:MOk w R g m)(hb:Below w.heap.size w W):MOk W R g m:=by
 have hk:Kept (fun _=>False) w W:=aP hb;refine⟨h.pt.kept hk (fun _ _ _ _=>id),h.tf.later hb,h.ph.kept hk (fun _ _ _ _=>id),h.hf.later hb,h.hr,h.pg.kept hk (fun _ _ _ _=>id),h.gf.later hb,h.gr,h.i0,h.i1,h.o0,h.o1,h.pf.kept hk (fun _ _ _ _=>id),h.ff.later hb,fun j x hj=>?_,h.pd.kept hk (fun _ _ _ _=>id),h.df.later hb,fun j x hj=>?_,h.pe.kept hk (fun _ _ _ _=>id),h.ef.later hb,h.er⟩
 ·obtain⟨a1,a2,a3,a4⟩:=h.fr j x hj
  refine⟨a1,a2.kept hk (fun _ _ _ _=>id),a3.later hb,fun i y hi=>?_⟩;obtain⟨b1,b2,b3,b4⟩:=a4 i y hi;exact⟨b1,b2,b3.kept' hk (fun _ _ _ _=>id),b4.later hb⟩
 obtain⟨a1,a2,a3⟩:=h.dr j x hj;exact⟨a1,a2.kept' hk (fun _ _ _ _=>id),a3.later hb⟩
def ig(w:World)(m:MM):World:=((w.alloc (.cells (mV m) 29)).alloc (i9 none 0 0)).alloc (kR 0)
def W22(w:World)(m:MM):World:=((ig w m).alloc (.cells #[.int .u8 70,.int .u8 76,.int .u8 71,.int .u8 78,.int .u8 1] 5 (5,6))).alloc (.cells #[.slice (some ⟨w.heap.size+1+1+1,0,none⟩) 5 5] 144)
theorem JF(w:World)(m:MM):Below w.heap.size w (W22 w m)/\(W22 w m).heap.size=w.heap.size+1+1+1+1+1/\Wr (W22 w m) (w.heap.size+1+1+1+1) (w.heap.size+1+1+1) 5 eA /\
  (W22 w m).heap[w.heap.size]? =some (.cells (mV m) 29)/\(W22 w m).cell? ⟨w.heap.size+1,0,none⟩=some (.slice none 0 0)/\(W22 w m).frozen? ⟨w.heap.size+1,0,none⟩=false/\(W22 w m).cell? ⟨w.heap.size+1+1,0,none⟩=some (.int .i64 0)/\(W22 w m).frozen? ⟨w.heap.size+1+1,0,none⟩=false:=by
 have za:(ig w m).heap.size=w.heap.size+1+1+1:=by simp[ig]
 have zb:((ig w m).alloc (.cells #[.int .u8 70,.int .u8 76,.int .u8 71,.int .u8 78,.int .u8 1] 5 (5,6))).heap.size=w.heap.size+1+1+1+1:=by simp[ig]
 have B1:Below w.heap.size w (ig w m):=(((Below.refl _ w).alloc lRn _).alloc aw _).alloc dC _;have B2:=aj (ig w m) (.cells #[.int .u8 70,.int .u8 76,.int .u8 71,.int .u8 78,.int .u8 1] 5 (5,6));have B3:=aj ((ig w m).alloc (.cells #[.int .u8 70,.int .u8 76,.int .u8 71,.int .u8 78,.int .u8 1] 5 (5,6))) (.cells #[.slice (some ⟨w.heap.size+1+1+1,0,none⟩) 5 5] 144);have hb:∀k,k<w.heap.size+1+1+1->(W22 w m).heap[k]? =(ig w m).heap[k]?:=fun k hk=>(B3.block k ae).trans (B2.block k ae);have hg:=(MapKept.heap_alloc (ig w m) (.cells #[.int .u8 70,.int .u8 76,.int .u8 71,.int .u8 78,.int .u8 1] 5 (5,6))).1;rw[za]at hg;have hg':(W22 w m).heap[w.heap.size+1+1+1]? =some (.cells #[.int .u8 70,.int .u8 76,.int .u8 71,.int .u8 78,.int .u8 1] 5 (5,6)):=(B3.block _ ae).trans hg;have hR:=(MapKept.heap_alloc ((ig w m).alloc (.cells #[.int .u8 70,.int .u8 76,.int .u8 71,.int .u8 78,.int .u8 1] 5 (5,6))) (.cells #[.slice (some ⟨w.heap.size+1+1+1,0,none⟩) 5 5] 144)).1;rw[zb]at hR;have hR':(W22 w m).heap[w.heap.size+1+1+1+1]? =some (.cells #[.slice (some ⟨w.heap.size+1+1+1,0,none⟩) 5 5] 144):=hR
 have c1:(ig w m).heap[w.heap.size+1]? =some (i9 none 0 0):=by
  unfold ig;rw[(aj ((w.alloc (.cells (mV m) 29)).alloc (i9 none 0 0)) _).block _ aw];have:=(MapKept.heap_alloc (w.alloc (.cells (mV m) 29)) (i9 none 0 0)).1;exact cF
 have c2:(ig w m).heap[w.heap.size+1+1]? =some (kR 0):=by
  have:=(MapKept.heap_alloc ((w.alloc (.cells (mV m) 29)).alloc (i9 none 0 0)) (kR 0)).1
  simpa[ig] using this
 have c0:(ig w m).heap[w.heap.size]? =some (.cells (mV m) 29):=by
  unfold ig;rw[(aj ((w.alloc (.cells (mV m) 29)).alloc (i9 none 0 0)) _).block _ dC,(aj (w.alloc (.cells (mV m) 29)) _).block _ aw];exact(MapKept.heap_alloc w _).1
 refine⟨(B1.trans (B2.mono B1.size)).trans (B3.mono ae),by simp[W22,ig],⟨?_,?_,.inr ⟨rfl,aA,?_,rfl,?_⟩,ae⟩,(hb _ ae).trans c0,?_,?_,?_,?_⟩
 ·simp[World.cell?,hR',eA]
 ·simp[World.frozen?,hR']
 ·simp[W22,ig]
 ·intro j u hj;have hl:=az hj
  simp[eA]at hl;simp only[World.cell?,hg'];have:j=0\/j=1\/j=2\/j=3\/j=4:=ae
  rcases this with rfl | rfl | rfl | rfl | rfl <;> simpa[eA] using hj
 ·have:=(hb (w.heap.size+1) ae).trans c1
  simp[World.cell?,this]
 ·have:=(hb (w.heap.size+1) ae).trans c1
  simp[World.frozen?,this]
 ·have:=(hb (w.heap.size+1+1) ae).trans c2
  simp[World.cell?,this]
 have:=(hb (w.heap.size+1+1) ae).trans c2;simp[World.frozen?,this]
theorem CF(w:World)(m:MM):(convert 49 49 (.slice (some ⟨w.heap.size+1+1+1,0,none⟩) 5 5)).run prog ((((w.alloc (.cells (mV m) 29)).alloc (i9 none 0 0)).alloc (kR 0)).alloc (.cells #[.int .u8 70,.int .u8 76,.int .u8 71,.int .u8 78,.int .u8 1] 5)) =
  .ok (.slice (some ⟨w.heap.size+1+1+1,0,none⟩) 5 5) ((ig w m).alloc (.cells #[.int .u8 70,.int .u8 76,.int .u8 71,.int .u8 78,.int .u8 1] 5 (5,6))):=by
 have za:(ig w m).heap.size=w.heap.size+1+1+1:=by simp[ig]
 have:=Go.Lib.run_convert_bytes_const (P:=prog) (ig w m) 49 5 #[.int .u8 70,.int .u8 76,.int .u8 71,.int .u8 78,.int .u8 1] 5 5 underlying49 underlying5;rw[za]at this;exact this
theorem Un(m:MM)(w:World)(hk:bg w)(hm:∀R g,w.heap.size<=R->w.heap.size<=g->MOk w R g m) :
  Calls prog 58 #[.agg (mV m)] w fun e w'=>Below w.heap.size w w'/\(bO m≠0->e=.returned (.tuple #[.slice none 0 0,.int .i64 (bO m)]))/\(bO m=0->∃a c,e=.returned (.tuple #[.slice a (eA++qG m).length c,.int .i64 0])):=by
 have hmf:∀(fn:Fn)(first cap:AVz)(w:World),(Instr.makeFunc fn first cap).run prog w=.ok (.func fn first cap) w:=fun _ _ _ _=>rfl
 obtain⟨B0,z0,hwr,x0,x1,f1,x2,f2⟩:=JF w m;have HWk:=hid (Tf (w.heap.size+1+1+1+1) (w.heap.size+1+1+1) 5 eA m (W22 w m) hwr aA ae ae (hk.later B0 hk.pos) ((hm _ _ ae ae).later B0));have hcv:=CF w m;have hW:((ig w m).alloc (.cells #[.int .u8 70,.int .u8 76,.int .u8 71,.int .u8 78,.int .u8 1] 5 (5,6))).alloc (.cells #[.slice (some ⟨w.heap.size+1+1+1,0,none⟩) 5 5] 144)=W22 w m:=rfl
 have za:((ig w m).alloc (.cells #[.int .u8 70,.int .u8 76,.int .u8 71,.int .u8 78,.int .u8 1] 5 (5,6))).heap.size=w.heap.size+1+1+1+1:=by simp[ig]
 obtain⟨⟨m0,m1,m2,m3,m4,m5,m6,m7⟩,_⟩:=aQ x0;have BW:=hid B0;generalize W22 w m=W1 at *;generalize (ig w m).alloc (.cells #[.int .u8 70,.int .u8 76,.int .u8 71,.int .u8 78,.int .u8 1] 5 (5,6))=W0 at *;unfold mV at hcv HWk;show Calls prog 58 #[.agg #[.slice m.ta m.tn m.tc,.slice m.ha m.hn m.hc,.slice m.ga m.gn m.gc,.int .i64 m.fi,.int .i64 m.mo,.slice m.fa m.fn m.fc,.slice m.da m.dn m.dc,.slice m.ea m.en m.ec]] w _;clear hm hk B0
 go_enter_defers func58,ntmps58
 go_wp2_with fail;refine HWk.out.mono ?_;rintro e w9⟨hyes,hno⟩
 by_cases hx:fw m=0
 rotate_left
 ·obtain⟨⟨p,rfl⟩,hkept⟩:=hno hx;have hcm:bO m=fw m:=dE hx;have y1:=hkept.cell x1 ae;have y2:=hkept.cell x2 ae;have g1:=(cA (hkept.block (w.heap.size+1) ae ae) 0).trans f1;have g2:=(cA (hkept.block (w.heap.size+1+1) ae ae) 0).trans f2;have HC:=hid (En (fw m) p (w.heap.size+1) (w.heap.size+1+1) _ _ w9 y1 g1 y2 g2 ae);clear hyes hno HWk;refine leaves_cons (f:=80) (args:=#[.pointer (some ⟨w.heap.size+1,0,none⟩),.pointer (some ⟨w.heap.size+1+1,0,none⟩)]) aw aG ?_;refine HC.out.mono ?_;rintro e u' w10 ⟨rfl,rfl,q1,q2,q3⟩
  have HB:Hid (Below w.heap.size w w10):=(BW.out.trans ((hkept.to_below (B:=w.heap.size) ae (fun k hk=>ae)).mono lRn)).trans (q3.to_below (by have:=hkept.size; omega) (fun k hk=>ae));refine(show Go.Leaves prog Tryz.f58 _ _ [] FrameMode.returning w10 from⟨.tuple #[.slice none 0 0,.int .i64 (fw m)],?_,HB.out,fun _=>?_,fun h0=>absurd (hcm.symm.trans h0) hx⟩)
  ·simp[results,results58,go_sem,q1,q2]
  rw[hcm]
 obtain⟨v,rfl,g',cap',hw9,hkept⟩:=hyes hx;have y1:=hkept.cell x1 ae;have y2:=hkept.cell x2 ae;have g1:=(cA (hkept.block (w.heap.size+1) ae ae) 0).trans f1;have g2:=(cA (hkept.block (w.heap.size+1+1) ae ae) 0).trans f2;have c9:=hw9.c0;have hK9:=hid hkept;have hz9:=hkept.size;have hcm:bO m=if 65536<(eA++qG m).length then 13 else 0:=aX hx
 have HB9:Hid (Below w.heap.size w w9):=BW.out.trans ((hkept.to_below (B:=w.heap.size) ae (fun k hk=>ae)).mono lRn);clear hyes hno HWk m0 m1 m2 m3 m4 m5 m6 m7 hwr x0 x1 x2 f1 f2 hkept;obtain⟨E,hE⟩:∃E,eA++qG m=E:=⟨_,rfl⟩;rw[hE]at c9 hcm hw9;have HE:=hid hE;clear hE
 by_cases hlong:65536<E.length
 ·have hd:decide ((E.length:Int)<=65536)=false:=aK;rw[if_pos hlong]at hcm;go_wp2_with fail
  refine(fx (by first | rfl | exact hd)).mono ?_
  rintro e w9' ⟨rfl,rfl⟩;have HC:=hid (En 13 0 (w.heap.size+1) (w.heap.size+1+1) _ _ w9' y1 g1 y2 g2 ae);refine leaves_cons (f:=80) (args:=#[.pointer (some ⟨w.heap.size+1,0,none⟩),.pointer (some ⟨w.heap.size+1+1,0,none⟩)]) aw aG ?_;refine HC.out.mono ?_;rintro e u' w10 ⟨rfl,rfl,q1,q2,q3⟩;have HB:Hid (Below w.heap.size w w10):=HB9.out.trans (q3.to_below ae (fun k hk=>ae));refine(show Go.Leaves prog Tryz.f58 _ _ [] FrameMode.returning w10 from⟨.tuple #[.slice none 0 0,.int .i64 13],?_,HB.out,fun _=>?_,fun h0=>by rw[hcm]at h0; cases h0⟩)
  ·simp[results,results58,go_sem,q1,q2]
  rw[hcm]
 have hd:decide ((E.length:Int)<=65536)=true:=aK;rw[if_neg hlong]at hcm;go_wp2_with fail
 refine(cS (by first | rfl | exact hd)).mono ?_
 rintro e w9' ⟨rfl,rfl⟩;go_wp2_with fail;generalize hW9:w9'.setCell ⟨w.heap.size+1,0,none⟩ (.slice (some ⟨g',0,none⟩) E.length cap')=Wa at *
 have k1:Wa.cell? ⟨w.heap.size+1,0,none⟩=some (.slice (some ⟨g',0,none⟩) E.length cap'):=by rw[<- hW9]; exact World.cell?_setCell_same _ _ _ y1
 have k2:Wa.cell? ⟨w.heap.size+1+1,0,none⟩=some (.int .i64 0):=by rw[<- hW9,World.cell?_setCell_other _ _ _ _ aw]; exact y2
 have K1:Below w.heap.size w9' Wa:=by rw[<- hW9]; exact(ax w9' (w.heap.size+1) 0 _).to_below ae (fun k hk=>ae)
 have zz:Wa.heap.size=w9'.heap.size:=by rw[<- hW9]; simp[World.setCell]
 generalize hWb:Wa.setCell ⟨w.heap.size+1+1,0,none⟩ (.int .i64 0)=Wb at *
 have n1:Wb.cell? ⟨w.heap.size+1,0,none⟩=some (.slice (some ⟨g',0,none⟩) E.length cap'):=by rw[<- hWb,World.cell?_setCell_other _ _ _ _ aw]; exact k1
 have n2:Wb.cell? ⟨w.heap.size+1+1,0,none⟩=some (.int .i64 0):=by rw[<- hWb]; exact World.cell?_setCell_same _ _ _ k2
 have K2:Below w.heap.size Wa Wb:=by rw[<- hWb]; exact(ax Wa (w.heap.size+1+1) 0 _).to_below ae (fun k hk=>ae)
 refine leaves_cons (f:=80) (args:=#[.pointer (some ⟨w.heap.size+1,0,none⟩),.pointer (some ⟨w.heap.size+1+1,0,none⟩)]) aw aG ?_;refine(Sj _ _ _).mono ?_;rintro e u' w10 ⟨rfl,rfl,hb10⟩;have q1:=(hb10.cell (by exact block_lt_of_cell n1)).trans n1;have q2:=(hb10.cell (by exact block_lt_of_cell n2)).trans n2;have HB:Hid (Below w.heap.size w w10):=((HB9.out.trans K1).trans K2).trans (hb10.mono (by have:=K2.size; omega));refine(show Go.Leaves prog Tryz.f58 _ _ [] FrameMode.returning w10 from⟨.tuple #[.slice (some ⟨g',0,none⟩) E.length cap',.int .i64 0],?_,HB.out,fun h0=>absurd hcm h0,fun _=>⟨some ⟨g',0,none⟩,cap',?_⟩⟩)
 ·simp[results,results58,go_sem,q1,q2]
 rw[HE.out]
theorem Qt(m:MM)(w:World)(hk:bg w)(hm:∀R g,w.heap.size<=R->w.heap.size<=g->MOk w R g m) :
  Calls prog 34 #[.agg (mV m)] w fun e w'=>e=.returned (.int .i64 (bO m))/\Below w.heap.size w w':=by
 have B1:=aj w (.cells (mV m) 29);have HE:=hid (Un m (w.alloc (.cells (mV m) 29)) (hk.later B1 hk.pos) (fun R g h1 h2=>(hm R g (by simp at h1; omega) (by simp at h2; omega)).later B1));have hb:=(MapKept.heap_alloc w (.cells (mV m) 29)).1;have BW:=hid B1;obtain⟨⟨m0,m1,m2,m3,m4,m5,m6,m7⟩,_⟩:=aQ hb;have HW:w.alloc (bF m.ta m.tn m.tc m.ha m.hn m.hc m.ga m.gn m.gc m.fi m.mo m.fa m.fn m.fc m.da m.dn m.dc m.ea m.en m.ec)=w.alloc (.cells (mV m) 29):=rfl;generalize w.alloc (.cells (mV m) 29)=W1 at *;unfold mV at HE;show Calls prog 34 #[.agg #[.slice m.ta m.tn m.tc,.slice m.ha m.hn m.hc,.slice m.ga m.gn m.gc,.int .i64 m.fi,.int .i64 m.mo,.slice m.fa m.fn m.fc,.slice m.da m.dn m.dc,.slice m.ea m.en m.ec]] w _;clear hm hk B1;go_enter func34,ntmps34
 go_wp2_with fail;refine HE.out.mono ?_;rintro e w2⟨hb2,hno,hyes⟩;have HB:=hid (jF BW.out hb2)
 by_cases hx:bO m=0
 ·obtain⟨a,c,rfl⟩:=hyes hx;go_wp2_with fail;go_ret
  exact⟨by rw[hx]; rfl,HB.out⟩
 obtain rfl:=hno hx;go_wp2_with fail;go_ret;exact⟨rfl,HB.out⟩
section
variable {v:Ev} {w1 w:World} {s:Cs}
theorem se(P R:BAz):Calls prog 60 #[.agg #[.string P,.string R]] w fun e w'=>e=.returned (.agg #[.string ⟨#[]⟩,.string R,.string ⟨#[]⟩,.int .u8 0,.int .i64 0])/\Below w.heap.size w w':=by
 go_enter func60,ntmps60
 go_wp2_with fail;refine bodyPost_ret (v:=.agg #[.string ⟨#[]⟩,.string R,.string ⟨#[]⟩,.int .u8 0,.int .i64 0]) ?_ rfl ⟨rfl,?_⟩
 ·exact dF
 exact((Below.refl _ w).alloc lRn _).alloc aw _
variable {P:Program}{a:Act}
theorem AU{R:Ending->World->Prop}{w:World}{v:Value}(hd:a.defers=[])(h:(results fn a.tmps).run P w=.ok v w)(hR:R (.returned v) w):bodyPostD P fn R .ret a w:=by
 show Go.Leaves P fn a.tmps R a.defers .returning w;rw[hd]; exact⟨v,h,hR⟩
variable {u:Value}
theorem jQ{w W:World}(h:Below w.heap.size w W)(hB:w.heap.size<=g):Below w.heap.size w (W.setCell ⟨g,i,none⟩ u):=bA h hB h.size
variable {TB EB PB:Nat}
theorem QA{w1:World}{a0 a1 a2 a3 a4 e0 p0:Value}(t0 t1 t2 t3 t4 ev pv:Value)(bT:w1.heap[TB]? =some (.cells #[a0,a1,a2,a3,a4] 74))(bE:w1.heap[EB]? =some (.cells #[e0] 38))(bP:w1.heap[PB]? =some (.cells #[p0] 3))(n1:TB≠EB)(n2:TB≠PB)(n3:EB≠PB) :
  let W:=((((((w1.setCell ⟨TB,0,none⟩ t0).setCell ⟨TB,1,none⟩ t1).setCell ⟨TB,2,none⟩ t2).setCell ⟨TB,3,none⟩ t3).setCell ⟨TB,4,none⟩ t4).setCell ⟨EB,0,none⟩ ev).setCell ⟨PB,0,none⟩ pv
  W.heap[TB]? =some (.cells #[t0,t1,t2,t3,t4] 74)/\W.heap[EB]? =some (.cells #[ev] 38)/\W.heap[PB]? =some (.cells #[pv] 3)/\Kept (fun k=>k=TB\/k=EB\/k=PB) w1 W:=by
 have s4:=aM (i:=4) (u:=t4) (aM (i:=3) (u:=t3) (aM (i:=2) (u:=t2) (aM (i:=1) (u:=t1) (aM (i:=0) (u:=t0) bT))));have K1:=(((((ax w1 TB 0 t0).trans (ax _ TB 1 t1)).trans (ax _ TB 2 t2)).trans (ax _ TB 3 t3)).trans (ax _ TB 4 t4));have e4:=(K1.block EB (aN bE) (fun e=>n1 e.symm)).trans bE;have p4:=(K1.block PB (aN bP) (fun e=>n2 e.symm)).trans bP;generalize ((((w1.setCell ⟨TB,0,none⟩ t0).setCell ⟨TB,1,none⟩ t1).setCell ⟨TB,2,none⟩ t2).setCell ⟨TB,3,none⟩ t3).setCell ⟨TB,4,none⟩ t4=W5 at *;have KE:=ax W5 EB 0 ev;have KP:=ax (W5.setCell ⟨EB,0,none⟩ ev) PB 0 pv;have e5:=aM (i:=0) (u:=ev) e4;have p5:=(KE.block PB (aN p4) (fun e=>n3 e.symm)).trans p4;have t5:=(KE.block TB (aN s4) (fun e=>n1 e)).trans s4;have p6:=aM (i:=0) (u:=pv) p5;have e6:=(KP.block EB (aN e5) (fun e=>n3 e)).trans e5;have t6:=(KP.block TB (aN t5) (fun e=>n2 e)).trans t5;exact⟨t6,e6,p6,(((Kept.refl (fun k=>k=TB\/k=EB\/k=PB) w1).then K1 (fun k _ h=>.inl h)).then KE (fun k _ h=>.inr (.inl h))).then KP (fun k _ h=>.inr (.inr h))⟩
variable {t0 t1 t2 t3 t4 ev pv:Value}{tmps:AVz}
theorem QW(bT:W.heap[TB]? =some (.cells #[t0,t1,t2,t3,t4] 74))(bE:W.heap[EB]? =some (.cells #[ev] 38))(bP:W.heap[PB]? =some (.cells #[pv] 3))
  (h4:tmps[4]? =some (.pointer (some ⟨TB,0,none⟩))) (h5:tmps[5]? =some (.pointer (some ⟨EB,0,none⟩))) (h6:tmps[6]? =some (.pointer (some ⟨PB,0,none⟩))) :
  (results Tryz.f35 tmps).run prog W=.ok (.tuple #[.agg #[t0,t1,t2,t3,t4],ev,pv]) W:=by
 have c0:=iz0 bT;have c1:=iz1 bT;have c2:=iz2 bT;have c3:=iz3 bT;have c4:=iz4 bT;have ce:=iz0 bE;have cp:=iz0 bP;simp[results,results35,go_sem,h4,h5,h6,c0,c1,c2,c3,c4,ce,cp]
def W30(w:World)(m:MM)(ty:Int)(lo:BAz)(cv:Value):World :=
 ((((w.alloc (bF m.ta m.tn m.tc m.ha m.hn m.hc m.ga m.gn m.gc m.fi m.mo m.fa m.fn m.fc m.da m.dn m.dc m.ea m.en m.ec)).alloc (.cells #[.int .i64 ty,.string lo,cv] 61)).alloc (.cells zT 74)).alloc (kR 0)).alloc (bM 0)
variable {o:Obj}{b:Nat}
theorem alloc_at{w:World}(h:w.heap.size=b):(w.alloc o).heap[b]? =some o:=by subst h; exact hZn w o
theorem uy(w:World)(m:MM)(ty:Int)(lo:BAz)(cv:Value) :
  Below w.heap.size w (W30 w m ty lo cv)/\(W30 w m ty lo cv).heap.size=w.heap.size+5 /\
  (W30 w m ty lo cv).heap[w.heap.size]? =some (.cells (mV m) 29)/\(W30 w m ty lo cv).heap[w.heap.size+1]? =some (.cells #[.int .i64 ty,.string lo,cv] 61) /\
  (W30 w m ty lo cv).heap[w.heap.size+1+1]? =some (.cells zT 74)/\(W30 w m ty lo cv).heap[w.heap.size+1+1+1]? =some (kR 0)/\(W30 w m ty lo cv).heap[w.heap.size+1+1+1+1]? =some (bM 0):=by
 refine⟨?_,by simp[W30],?_,?_,?_,?_,?_⟩
 ·exact(((((Below.refl _ w).alloc lRn _).alloc aw _).alloc aK _).alloc aK _).alloc aK _
 ·exact ak (aj _ _) (ak (aj _ _) (ak (aj _ _) (ak (aj _ _) (hZn w _))))
 ·exact ak (aj _ _) (ak (aj _ _) (ak (aj _ _) (alloc_at aw)))
 ·exact ak (aj _ _) (ak (aj _ _) (alloc_at aw))
 ·exact ak (aj _ _) (alloc_at aw)
 exact alloc_at aw
end
section
variable {v:Ev} {w1 w:World} {s:Cs}
theorem zl(m:MM)(ty:Int)(lo:BAz)(ca:OAz)(cn cc:Nat)(xs:List Inx)(hn:cn<=2048)(hcap:cn<=cc)(hc:ui w ca cn xs)(hE:(res (opF xs) cn 0).1≠0) :
  Calls prog 35 #[.agg (mV m),.agg #[.int .i64 ty,.string lo,.slice ca cn cc]] w fun e w'=>e=.returned (.tuple #[.agg zT,.int .i64 (res (opF xs) cn 0).1,.int .i64 (res (opF xs) cn 0).2])/\Below w.heap.size w w':=by
 obtain⟨B0,hz,b0,b1,b2,b3,b4⟩:=uy w m ty lo (.slice ca cn cc);have HM:=hid (LW ca cn cc xs _ ae hcap (hc.later B0 lRn));generalize (res (opF xs) cn 0).1=E at *;generalize (res (opF xs) cn 0).2=PC at *;have HW:((((w.alloc (bF m.ta m.tn m.tc m.ha m.hn m.hc m.ga m.gn m.gc m.fi m.mo m.fa m.fn m.fc m.da m.dn m.dc m.ea m.en m.ec)).alloc (bk ty lo ca cn cc)).alloc (fk none 0 0 none 0 0 none 0 0 none 0 0 0)).alloc (kR 0)).alloc (bM 0)=W30 w m ty lo (.slice ca cn cc):=rfl;have f2:=iz2 b1;clear hc;unfold mV
 go_enter_defers func35,ntmps35
 go_wp2_with fail;generalize W30 w m ty lo (.slice ca cn cc)=W0 at *;refine HM.out.mono ?_;rintro e w2⟨a1,a2,a3,n2,rfl,hmo,hb⟩;have d2:=ak hb b2;have d3:=ak hb b3;have d4:=ak hb b4;have e3:=iz0 d3;have g3:=free_at (i:=0) d3;have e4:=iz0 d4;have g4:=free_at (i:=0) d4;have HB:=hid (B0.trans (hb.mono B0.size));have t0:=iz0 d2;have t1:=iz1 d2;have t2:=iz2 d2;have t3:=iz3 d2;have t4:=iz4 d2
 have ft:∀i,w2.frozen? ⟨w.heap.size+1+1,i,none⟩=false:=fun i=>free_at d2;have ft0:=ft 0;have ft1:=ft 1;have ft2:=ft 2;have ft3:=ft 3;have ft4:=ft 4;have HD2:=hid d2;have HD3:=hid d3;have HD4:=hid d4;clear hb hmo b0 b1 b2 b3 b4 B0 HM HW f2 ft d2 d3 d4;go_wp2_with fail
 go_region
 go_wp2_with fail;generalize hWA:(w2.setCell ⟨w.heap.size+1+1+1,0,none⟩ (.int .i64 E)).setCell ⟨w.heap.size+1+1+1+1,0,none⟩ (.int .i64 PC)=WA
 have KA:Below w.heap.size w WA:=by rw[<- hWA]; exact jQ (jQ HB.out ae) ae
 have k3:=aM (i:=0) (u:=.int .i64 E) HD3.out;have kk1:=ax w2 (w.heap.size+1+1+1) 0 (.int .i64 E);have k4:=(kk1.block _ (aN HD4.out) ae).trans HD4.out;have k2:=(kk1.block _ (aN HD2.out) ae).trans HD2.out;have kk2:=ax (w2.setCell ⟨w.heap.size+1+1+1,0,none⟩ (.int .i64 E)) (w.heap.size+1+1+1+1) 0 (.int .i64 PC);have j4:=aM (i:=0) (u:=.int .i64 PC) k4;have j3:=(kk2.block _ (aN k3) ae).trans k3;have j2:=(kk2.block _ (aN k2) ae).trans k2;rw[hWA]at j2 j3 j4;obtain⟨z2,z3,z4,zk⟩:=QA (.slice none 0 0) (.slice none 0 0) (.slice none 0 0) (.slice none 0 0) (.int .i64 0) (.int .i64 E) (.int .i64 PC) j2 j3 j4 ae ae ae;refine AU (v:=.tuple #[.agg zT,.int .i64 E,.int .i64 PC]) rfl (QW (ak (below_drewN _ 1) z2) (ak (below_drewN _ 1) z3) (ak (below_drewN _ 1) z4) rfl rfl rfl) ⟨rfl,?_⟩;exact(KA.trans ((zk.to_below KA.size (fun k hk h=>ae)))).drew
end
def cs0(R:BAz)(n:Nat):Cs:=⟨[⟨⟨#[]⟩,R,⟨#[]⟩,0,0⟩],⟨#[]⟩,0,false,List.replicate n ⟨#[]⟩,fun _=>0,0⟩
def fP(s:Cs)(j:Nat):Cs:={ s with pc:=j }
def stA(m:MM)(lo:LIz)(xs:List Inx)(R:BAz)(n:Nat):Nat->Cs
 | 0=>cs0 R n
 | j+1=>rwS m lo (fI (fP (stA m lo xs R n j) j)) (aT (stA m lo xs R n j)) (xs.getD j dx).c (xs.getD j dx).a
def erA(m:MM)(lo:LIz)(xs:List Inx)(R:BAz)(n j:Nat):Int :=
 Ti m lo (elF (opF xs) n (aT (stA m lo xs R n j)).pc.toNat) (fP (stA m lo xs R n j) j) (aT (stA m lo xs R n j)) (xs.getD j dx).c (xs.getD j dx).a (xs.getD j dx).l
variable {j:Nat}
theorem QX(h:Iv3 O n j s)(p:Nat):Iv3 O n j (fP s p):=⟨h.len,h.sz,h.ch,h.last,h.st,h.hi,h.sh⟩
variable {R:BAz}
theorem Ug(hR:R.size<=8)(hn:0<n):Iv3 O n 0 (cs0 R n):=by
 refine⟨rfl,?_,?_,?_,?_,?_,?_⟩
 ·intro p hp
  simp[cs0]at hp;subst hp;exact⟨(by decide:(ByteArray.mk #[]).size<=8),hR,(by decide:(ByteArray.mk #[]).size+(ByteArray.mk #[]).size<=256),0,rfl,hn⟩
 ·simp[cs0]
 ·show(ByteArray.mk #[]).size<=(ByteArray.mk #[]).size
  exact Nat.le_refl _
 ·show(ByteArray.mk #[]).size<=256
  decide
 ·show 0<=256
  omega
 simp[cs0]
section
variable {v:Ev} {w1 w:World} {m:MM} {lo:LIz} {xs:List Inx} {R:BAz} {n j:Nat}
theorem s8(h:erA m lo xs R n j=0):rwE m lo (elF (opF xs) n (aT (stA m lo xs R n j)).pc.toNat) (fI (fP (stA m lo xs R n j) j)) (aT (stA m lo xs R n j)) (xs.getD j dx).c (xs.getD j dx).a (xs.getD j dx).l=0:=by
 unfold erA Ti at h
 split at h
 ·cases h
 exact h
theorem Fz(hM:EvM v w1 m lo)(hG:Good (opF xs) n)(h0:0<=(xs.getD j dx).c)(h1:(xs.getD j dx).c<=255)(hj:j+1<n)(h:Iv3 (opF xs) n j (stA m lo xs R n j))(he:erA m lo xs R n j=0):Iv3 (opF xs) n (j+1) (stA m lo xs R n (j+1)) :=
 Tj (el:=elF (opF xs) n (aT (stA m lo xs R n j)).pc.toNat) (l:=(xs.getD j dx).l) hM (RL (QX h j)) rfl h0 h1 rfl ae ((hG.2.1 j ae).2) (s8 he)
theorem VA(hA:EvA v w1)(hM:EvM v w1 m lo)(hn:v.n=n)(hnn:n<=1000000)(hG:Good (opF xs) n)(hj:j<n)(hI:Iv3 (opF xs) n j (stA m lo xs R n j))(h:CI v w1 w (fP (stA m lo xs R n j) j))
  (h0:0<=(xs.getD j dx).c) (h1:(xs.getD j dx).c<=255) (hl:(xs.getD j dx).c=9->pN w1 (xs.getD j dx).la (xs.getD j dx).ln (xs.getD j dx).lc (xs.getD j dx).l/\0<(xs.getD j dx).ln)
  (hS:∀b off,(xs.getD j dx).la=some ⟨b,off,none⟩->(xs.getD j dx).ln≠0->¬v.S b) (hE:RI w1 v.EL n (elF (opF xs) n)) (hES:¬v.S v.EL) :
  Calls prog 63 #[.pointer (some ⟨v.C,0,none⟩),.agg #[.int .u8 (xs.getD j dx).c,.int .i64 (xs.getD j dx).a,.slice (xs.getD j dx).la (xs.getD j dx).ln (xs.getD j dx).lc]] w (jr v w1 j (erA m lo xs R n j) (stA m lo xs R n (j+1))):=by
 by_cases hd:(fP (stA m lo xs R n j) j).dead=true/\(xs.getD j dx).c≠5/\(xs.getD j dx).c≠6
 ·have e:erA m lo xs R n j=36:=if_pos hd;rw[e];exact uP hA h _ hd.1 hd.2.1 hd.2.2 _
 have e:erA m lo xs R n j=rwE m lo (elF (opF xs) n (aT (stA m lo xs R n j)).pc.toNat) (fI (fP (stA m lo xs R n j) j)) (aT (stA m lo xs R n j)) (xs.getD j dx).c (xs.getD j dx).a (xs.getD j dx).l:=if_neg hd;rw[e];have hok:Okp (opF xs) j:=fun i hi=>hG.2.1 i ae;have hk:Wk v (fP (stA m lo xs R n j) j) (stk (opF xs) j).length (aT (stA m lo xs R n j)):=(QX hI j).wk hn hnn rfl hj (oN hok)
 have hq:(aT (stA m lo xs R n j)).pc.toNat<n:=by
  obtain⟨q,hq,hqn⟩:=hk.op;rw[hq]; simp; omega
 refine Pn hA hM h hk h0 h1 ?_ ?_ hl hS (hE.cell _ hq) hES ?_
 ·have:=hI.hi; exact Nat.le_trans this ae
 ·rw[hn]; exact hI.sh
 by_cases h2:(fP (stA m lo xs R n j) j).dead=true
 ·by_cases h5:(xs.getD j dx).c=5
  ·exact .inr (.inl h5)
  by_cases h6:(xs.getD j dx).c=6
  ·exact .inr (.inr h6)
  exact absurd ⟨h2,h5,h6⟩ hd
 exact .inl (by simpa using h2)
end
structure EvW(w:World)(m:MM):Prop where
 pt:iX w m.ta m.tn m.types
 tf:∀b off c,m.ta=some ⟨b,off,c⟩->b<w.heap.size
 t64:m.tn<=64
 ph:m9 w m.ha m.hn m.hosts
 hf:∀b off c,m.ha=some ⟨b,off,c⟩->b<w.heap.size
 h32:m.hn<=32
 pg:kq w m.ga m.gn m.globals
 gf:∀b off c,m.ga=some ⟨b,off,c⟩->b<w.heap.size
 g64:m.gn<=64
 pf:od w m.fa m.fn m.fns
 ff:∀b off c,m.fa=some ⟨b,off,c⟩->b<w.heap.size
 f128:m.fn<=128
 gL:∀x∈m.globals,x.1=119\/x.1=108
 tL:∀x∈m.types,x.1.size<=8/\x.2.size<=8
 hT:∀x∈m.hosts,0<=x/\x<m.tn
 fT:∀x∈m.fns,0<=x.1/\x.1<m.tn
 kinds:bg w
 pos:0<w.heap.size
variable {v:Ev}
theorem EvW.evm{lo:LIz}(h:EvW w m)(hb:Below w.heap.size w w1)(hS:∀k,v.S k->w.heap.size<=k)(hmv:v.mv=mV m){L lc:Nat}(hlv:v.lv=.slice (some ⟨L,0,none⟩) lo.length lc)(hL:w.heap.size<=L)(hLS:lo.length=0\/¬v.S L)(h64:lo.length<=64)
  (hsl:∀(j:Nat)x,lo[j]? =some x->w1.cell? ⟨L,j,none⟩=some (.int .u8 x)) (hlL:∀x∈lo,x=119\/x=108):EvM v w1 m lo:=by
 have hk:Kept (fun _=>False) w w1:=aP hb
 exact⟨hmv,h.pt.kept hk (fun _ _ _ _=>id),fun b off c e hs=>by have:=h.tf b off c e; have:=hS b hs; omega,h.t64,
  h.ph.kept hk (fun _ _ _ _=>id),fun b off c e hs=>by have:=h.hf b off c e; have:=hS b hs; omega,h.h32,
  h.pg.kept hk (fun _ _ _ _=>id),fun b off c e hs=>by have:=h.gf b off c e; have:=hS b hs; omega,h.g64,
  h.pf.kept hk (fun _ _ _ _=>id),fun b off c e hs=>by have:=h.ff b off c e; have:=hS b hs; omega,h.f128,
  ⟨_,_,_,hlv,rfl,h64,hLS.imp id fun hLS=>⟨L,0,rfl,hLS,fun j x hj=>by rw[Nat.zero_add]; exact hsl j x hj⟩⟩,hlL,h.gL,h.tL,h.hT,h.fT,h.kinds.later hb h.pos,fun k hk'=>by have:=hS k hk'; have:=h.pos; omega⟩
theorem Ll(h:w.heap[B]? =some (.cells (madeCells #[Value.int .i64 0] n) 3))(hn:n<=1048576):RI w B n (fun _=>0):=by
 have e:(madeCells #[Value.int .i64 0] n).toList=fl n (fun _=>0):=by
  refine(toList_madeCells_one _ _).trans ?_;exact Ku
 refine⟨(pU _ _).trans ae,.inr ⟨B,n,madeCells #[Value.int .i64 0] n,rfl,Nat.zero_le _,h,Nat.le_refl _,dA,(size_madeCells _ _).trans ae,?_⟩⟩;rw[Nat.mul_one,e,List.take_of_length_le (by rw[pU]; exact Nat.le_refl _)]
theorem NQ(h:w.heap[B]? =some (.cells (madeCells #[Value.string ⟨#[]⟩] n) 9))(hn:n<=1048576):Row w 9 B n n ((List.replicate n (⟨#[]⟩:BAz)).map Value.string):=by
 have e:(madeCells #[Value.string ⟨#[]⟩] n).toList=(List.replicate n (⟨#[]⟩:BAz)).map Value.string:=by
  refine(toList_madeCells_one _ _).trans ?_;simp
 refine⟨aw,.inr ⟨B,n,madeCells #[Value.string ⟨#[]⟩] n,rfl,Nat.zero_le _,h,Nat.le_refl _,dA,(size_madeCells _ _).trans ae,?_⟩⟩;rw[Nat.mul_one,e,List.take_of_length_le aw]
theorem U6{C SH FL O0 EN EL L lc n ln:Nat}  
  (hC:w.heap[C]? =some (.cells #[.slice m.ta m.tn m.tc,.slice m.ha m.hn m.hc,.slice m.ga m.gn m.gc,.int .i64 m.fi,.int .i64 m.mo,.slice m.fa m.fn m.fc,.slice m.da m.dn m.dc,.slice m.ea m.en m.ec,.slice (some ⟨L,0,none⟩) ln lc,.slice (some ⟨SH,0,none⟩) n n,.slice (some ⟨EN,0,none⟩) n n,.slice (some ⟨EL,0,none⟩) n n,.slice (some ⟨FL,0,none⟩) n n,.int .i64 0,.slice (some ⟨O0,0,none⟩) 1 1,.string ⟨#[]⟩,.int .i64 0,.bool false] 120))
  (hO:w.heap[O0]? =some (pq ⟨#[]⟩ R ⟨#[]⟩ 0 0)) (hSH:w.heap[SH]? =some (.cells (madeCells #[Value.string ⟨#[]⟩] n) 9)) (hFL:w.heap[FL]? =some (.cells (madeCells #[Value.int .i64 0] n) 3)) (hn:n<=1048576) :
  CI ⟨C,SH,FL,O0,EN,EL,n,mV m,.slice (some ⟨L,0,none⟩) ln lc⟩ w w (cs0 R n):=by
 refine⟨Kept.refl _ _,⟨O0,1,hC,⟨rfl,.inr ⟨O0,1,_,rfl,Nat.zero_le _,hO,Nat.le_refl _,dA,rfl,rfl⟩⟩,.inl rfl⟩,NQ hSH hn,Ll hFL hn⟩
variable {b c:Nat}{l:LIz}{x:Value}
theorem KC(h:Seg W (some ⟨b,0,none⟩) n c l)(h2:W.cell? ⟨g,0,none⟩=some x)(hx:∀z,x≠.int .u8 z):n=0\/b≠g:=by
 obtain⟨h1,h2',h3,h4,h5⟩:=h
 rcases h5 with h5 | ⟨b',off,e,hc⟩
 ·exact .inl h5
 cases e
 by_cases h0:n=0
 ·exact .inl h0
 right;rintro rfl
 have:=hc 0 ae;rw[Nat.add_zero,h2]at this;exact hx _ (Option.some.inj this)
theorem Qm(h:Seg W (some ⟨b,0,none⟩) n c l)(j:Nat)(x:Int)(hj:l[j]? =some x):W.cell? ⟨b,j,none⟩=some (.int .u8 x):=by
 obtain⟨h1,h2',h3,h4,h5⟩:=h;have hl:=az hj
 rcases h5 with h5 | ⟨b',off,e,hc⟩
 ·omega
 cases e
 have:=hc j ae;rw[Nat.zero_add,jM hj]at this;exact this
theorem seg_lt(h:Seg W (some ⟨b,0,none⟩) n c l):n=0\/b<W.heap.size:=by
 obtain⟨h1,h2',h3,h4,h5⟩:=h
 rcases h5 with h5 | ⟨b',off,e,hc⟩
 ·exact .inl h5
 cases e
 by_cases h0:n=0
 ·exact .inl h0
 exact .inr (block_lt_of_cell (hc 0 ae))
def QV(m:MM)(lo:LIz)(xs:List Inx)(R:BAz)(n:Nat)(w:World)(e:Ending)(w':World):Prop :=
 Below w.heap.size w w' /\
 ((∃j,j<n/\(∀i,i<j->erA m lo xs R n i=0)/\erA m lo xs R n j≠0/\e=.returned (.tuple #[.agg zT,.int .i64 (erA m lo xs R n j),.int .i64 j])) \/
  ((∀i,i<n->erA m lo xs R n i=0)/\∃SH EN EL FL,w.heap.size<=SH/\w.heap.size<=EN/\w.heap.size<=EL/\w.heap.size<=FL/\SH≠FL/\EN≠EL/\EN≠FL/\EL≠FL /\
  e=.returned (.tuple #[.agg #[.slice (some ⟨SH,0,none⟩) n n,.slice (some ⟨EN,0,none⟩) n n,.slice (some ⟨EL,0,none⟩) n n,.slice (some ⟨FL,0,none⟩) n n,.int .i64 (stA m lo xs R n n).hi],.int .i64 0,.int .i64 0]) /\
  Row w' 9 SH n n ((stA m lo xs R n n).sh.map Value.string)/\RI w' EN n (enF (opF xs) n)/\RI w' EL n (elF (opF xs) n)/\RI w' FL n (stA m lo xs R n n).fl))
end Go.Proofs.YtepcmfegggdjfaaGreatDoor
