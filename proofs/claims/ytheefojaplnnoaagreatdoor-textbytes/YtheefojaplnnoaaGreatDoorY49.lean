/-
  Texts Gb Gc Gd.
-/
import Derived.Test.YtheefojaplnnoaaGreatDoorY00
import Derived.Test.YtheefojaplnnoaaGreatDoorY48
set_option linter.unusedVariables false
set_option maxRecDepth 100000
set_option maxHeartbeats 16000000
namespace Go.Proofs.YtheefojaplnnoaaGreatDoor
open Go.RowKit
def Sgn(w:List UInt8):Prop:=w≠[]∧∀c∈w,33≤c.toNat∧c.toNat≤126
theorem RG{c:UInt8}(h:33≤c.toNat∧c.toNat≤126):jZ c.toNat=false:=by
 unfold jZ
 simp
 omega
theorem Sgn.wrd{w:List UInt8}(h:Sgn w):Wrd w:=⟨h.1,fun c hc=>RG (h.2 c hc)⟩
structure LW(l:List UInt8)(ws:List (List UInt8)):Prop where
 f:i6 l none=ws
 a:∀c∈l,c.toNat<128∧c≠10
theorem GM:∀(ws:List (List UInt8)),(∀x∈ws,Sgn x)→∀c∈Lib.joinTail [32] ws,c.toNat<128∧c≠10
 | [],_,c,hc=>by simp[Lib.joinTail]at hc
 | x::ws,h,c,hc=>by
  have e:Lib.joinTail [32] (x::ws)=32::(x++Lib.joinTail [32] ws):=by simp[Lib.joinTail]
  rw[e]at hc
  rcases List.mem_cons.1 hc with rfl | hc
  ·decide
  ·rcases List.mem_append.1 hc with hc | hc
   ·have:=(h x ar).2 c hc
    refine⟨ae,fun e=>?_⟩
    subst e;exact absurd this aj
   ·exact GM ws (fun y hy=>h y lO) c hc
theorem Ny{w:List UInt8}{ws:List (List UInt8)}(h:Sgn w)(hw:∀x∈ws,Sgn x):LW (w++Lib.joinTail [32] ws) (w::ws):=by
 refine⟨tR ws w h.wrd (fun x hx=>(hw x hx).wrd),fun c hc=>?_⟩
 rcases List.mem_append.1 hc with hc | hc
 ·have:=h.2 c hc
  refine⟨ae,fun e=>?_⟩
  subst e;exact absurd this aj
 ·exact GM ws hw c hc
theorem LW.lead{l:List UInt8}{ws:List (List UInt8)}(h:LW l ws):LW (32::l) ws:=by
 refine⟨?_,fun c hc=>?_⟩
 ·rw[i6,if_pos aj];exact h.f
 ·rcases List.mem_cons.1 hc with rfl | hc
  ·decide
  ·exact h.a c hc
abbrev ba(l:List UInt8):ByteArray:=⟨l.toArray⟩
theorem Dj{l:List UInt8}{w:List UInt8}{ws:List (List UInt8)}(h:LW l (w::ws))(hw:Sgn w)(h59:w.head? ≠ some 59)(p:Int)(M:PM):dB p M (ba l)=bX p M ((w::ws).map ba):=by
 have e:aS (ba l)=(w::ws).map ba:=by
  rw[Az _ (fun c hc=>(h.a c hc).1)]
  show(i6 l none).map _=_
  rw[h.f]
 unfold dB;rw[e,if_neg]
 rintro(h1 | h1)
 ·cases h1
 ·cases w with
  | nil=>exact hw.1 rfl
  | cons c w =>
   have h2:((c.toNat:Nat):Int)=59:=h1
   exact h59 (by
    simp only[List.head?_cons,Option.some.injEq]
    apply UInt8.toNat.inj
    show c.toNat=59
    omega)
theorem eG:∀(a b:List ByteArray)(ln p:Int)(M:PM)(l' p':Int)(M':PM),bT ln p M a=(l',some (p',M'))→bT ln p M (a++b)=bT l' p' M' b
 | [],b,ln,p,M,l',p',M',h=>by
  simp only[bT]at h
  obtain⟨h1,h2⟩:=Prod.mk.inj h;obtain⟨h3,h4⟩:=Prod.mk.inj (Option.some.inj h2);subst h1 h3 h4;rfl
 | x::a,b,ln,p,M,l',p',M',h=>by
  simp only[List.cons_append,bT]at h ⊢
  cases ht:dB p M x with
  | none=>rw[ht]at h; cases h
  | some y =>
   rw[ht]at h;exact eG a b _ _ _ _ _ _ h
theorem sec{α:Type}(g:α→ByteArray)(f:PM→α→PM)(lo q:Int)(hq:lo≤q):∀(xs:List α),(∀x∈xs,∀p M,lo≤p→p≤q→dB p M (g x)=some (q,f M x))→∀ln p M,lo≤p→p≤q→∃ln' p',bT ln p M (xs.map g)=(ln',some (p',xs.foldl f M))∧lo≤p'∧p'≤q
 | [],_,ln,p,M,h1,h2=>⟨ln,p,rfl,h1,h2⟩
 | x::xs,h,ln,p,M,h1,h2=>by
  obtain⟨l',p',e,k1,k2⟩:=sec g f lo q hq xs (fun y hy=>h y lO) (ln+1) q (f M x) hq (Int.le_refl _)
  refine⟨l',p',?_,k1,k2⟩
  simp only[List.map_cons,bT,h x ar p M h1 h2,List.foldl_cons]
  exact e
theorem fS(n:Int):Sgn (aW n).data.toList:=⟨MX n,fun c hc=>by have:=JJ n c hc; omega⟩
theorem rA{s:ByteArray}{k:Nat}(h:bO s k=true):∀c∈s.data.toList,33≤c.toNat∧c.toNat≤126:=fun c hc=>by
 rcases ((ig s k).1 h).1 c hc with rfl | rfl <;> decide
theorem yi{p:ByteArray}(h:bO p 8=true):Sgn (cZ p).data.toList:=by
 rw[kg]
 split
 ·exact⟨ar,fun c hc=>by obtain rfl:=List.mem_singleton.1 hc; decide⟩
 ·rename_i hn
  exact⟨hn,rA h⟩
theorem ND{l:List Int}(h0:l≠[])(h:∀b∈l,0≤b∧b≤255):Sgn (gq l):=by
 refine⟨?_,fun c hc=>by have:=MF l h c hc; omega⟩
 cases l with
 | nil=>exact absurd rfl h0
 | cons b l=>simp[gq]
theorem ct{l:List UInt8}(h:(!l.isEmpty&&l.all fun c=>decide (33≤c.toNat)&&decide (c.toNat≤126))=true):Sgn l:=by
 simp only[Bool.and_eq_true,List.all_eq_true,decide_eq_true_eq]at h
 exact⟨fun e=>by rw[e]at h; simp at h,h.2⟩
def lnS(xs:List ByteArray):List UInt8:=Lib.join (xs.map (·.data.toList)) [32]
theorem lf(x:ByteArray)(xs:List ByteArray):lnS (x::xs)=x.data.toList++Lib.joinTail [32] (xs.map (·.data.toList)):=by
 unfold lnS;rw[List.map_cons,Lib.join_cons]
theorem Ki(xs:List ByteArray):(xs.map (·.data.toList)).map ba=xs:=by
 rw[List.map_map];exact List.map_id xs
theorem ju{x:ByteArray}{xs:List ByteArray}(h:Sgn x.data.toList)(hx:∀y∈xs,Sgn y.data.toList):LW (lnS (x::xs)) (x.data.toList::xs.map (·.data.toList)):=by
 rw[lf]
 refine Ny h (fun w hw=>?_)
 obtain⟨y,hy,rfl⟩:=List.mem_map.1 hw;exact hx y hy
theorem ie{x:ByteArray}{xs:List ByteArray}(h:Sgn x.data.toList)(hx:∀y∈xs,Sgn y.data.toList)(h59:x.data.toList.head? ≠ some 59)(p:Int)(M:PM):dB p M (ba (lnS (x::xs)))=bX p M (x::xs):=by
 rw[Dj (ju h hx) h h59]
 congr 1
 rw[List.map_cons,Ki]
section
variable (p:Int) (M:PM) (xs:List ByteArray)
theorem ED:bX p M (eO::xs)=jB p M (eO::xs):=by
 have e:wdx (eO::xs) 0=eO:=rfl;unfold bX;rw[e,if_pos aj]
theorem NU:bX p M (gK::xs)=gN p M (gK::xs):=by
 have e:wdx (gK::xs) 0=gK:=rfl;unfold bX;rw[e,if_neg aj,if_pos aj]
theorem Fp:bX p M (eJ::xs)=gL p M (eJ::xs):=by
 have e:wdx (eJ::xs) 0=eJ:=rfl;unfold bX;rw[e,if_neg aj,if_neg aj,if_pos aj]
theorem ER:bX p M (dJ::xs)=bR p M (dJ::xs):=by
 have e:wdx (dJ::xs) 0=dJ:=rfl;unfold bX;rw[e,if_neg aj,if_neg aj,if_neg aj,if_pos aj]
theorem FB:bX p M (eo::xs)=js p M (eo::xs):=by
 have e:wdx (eo::xs) 0=eo:=rfl;unfold bX;rw[e,if_neg aj,if_neg aj,if_neg aj,if_neg aj,if_pos aj]
theorem Nr:bX p M (eK::xs)=iZ p M (eK::xs):=by
 have e:wdx (eK::xs) 0=eK:=rfl;unfold bX;rw[e,if_neg aj,if_neg aj,if_neg aj,if_neg aj,if_neg aj,if_pos aj]
theorem MA:bX p M (iT::xs)=jt p M (iT::xs):=by
 have e:wdx (iT::xs) 0=iT:=rfl;unfold bX;rw[e,if_neg aj,if_neg aj,if_neg aj,if_neg aj,if_neg aj,if_neg aj,if_pos aj]
theorem Fa:bX p M (d9::xs)=kN p M (d9::xs):=by
 have e:wdx (d9::xs) 0=d9:=rfl;unfold bX;rw[e,if_neg aj,if_neg aj,if_neg aj,if_neg aj,if_neg aj,if_neg aj,if_neg aj,if_pos aj]
end
def eight:List ByteArray:=[eO,gK,eJ,dJ,eo,eK,iT,d9]
def RJ(c:Nat):Bool:=decide (tkV (c:Int)=-1) || ((!((ofV (c:Int)).1.2.1.data.toList).isEmpty&&((ofV (c:Int)).1.2.1.data.toList).all fun b=>decide (33≤b.toNat)&&decide (b.toNat≤126))&&decide (bC (ofV (c:Int)).1.2.1=((c:Int),true))&&(eight.all fun w=>!decide ((ofV (c:Int)).1.2.1=w))&&!decide (((ofV (c:Int)).1.2.1.data.toList).head? =some 59))
theorem O2:((List.range 256).all RJ)=true:=ai
theorem M2{w:ByteArray}(h:(eight.all fun x=>!decide (w=x))=true)(p:Int)(M:PM)(xs:List ByteArray):bX p M (w::xs)=cO p M (w::xs):=by
 have e:wdx (w::xs) 0=w:=rfl
 have h':∀x∈eight,w≠x:=fun x hx=>by
  have:=List.all_eq_true.1 h x hx
  exact bJ
 have k0:w≠⟨#[102,108,97,103,111,110]⟩:=h' eO lD;have k1:w≠⟨#[116,121,112,101]⟩:=h' gK lD;have k2:w≠⟨#[101,120,116,101,114,110]⟩:=h' eJ lD;have k3:w≠⟨#[103,108,111,98,97,108]⟩:=h' dJ lD;have k4:w≠⟨#[109,101,109,111,114,121]⟩:=h' eo lD;have k5:w≠⟨#[102,117,110,99]⟩:=h' eK lD;have k6:w≠⟨#[100,97,116,97]⟩:=h' iT lD;have k7:w≠⟨#[101,120,112,111,114,116]⟩:=h' d9 lD;unfold bX;rw[e,if_neg k0,if_neg k1,if_neg k2,if_neg k3,if_neg k4,if_neg k5,if_neg k6,if_neg k7]
theorem xZ{α:Type}{P:α→Prop}{a:α}(h:P a):∀x∈[a],P x:=fun x hx=>by obtain rfl:=List.mem_singleton.1 hx; exact h
def lu:ByteArray:=⟨#[45,62]⟩
theorem Hj(x:Sg)(hp:bO x.1 8=true)(hr:bO x.2 8=true)(p:Int)(M:PM)(h1:1≤p)(h2:p≤2):dB p M (ba (lnS [gK,mr x.1 x.2]))=some (2,{ M with types:=M.types++[x] }):=by
 obtain⟨a,b⟩:=x;dsimp only at *
 have hs:xf a b=true:=by unfold xf; simp[hp,hr]
 have hv:mr a b=ir a b:=by unfold mr; rw[if_pos hs]
 have e:lnS [gK,mr a b]=lnS [gK,cZ a,lu,cZ b]:=by
  rw[hv]
  simp[lf,Lib.joinTail,j4,lu,fV]
 have ej:dC [cZ a,lu,cZ b]=ir a b:=by
  apply ko
  rw[j4]
  simp[dC,Lib.join_cons,Lib.joinTail,lu,fV]
 obtain⟨q1,q2,q3,q4⟩:=LO hs
 rw[e,ie (ct aj) (fun y hy=>?_) aj,NU]
 ·unfold gN;have et:(gK::[cZ a,lu,cZ b]).tail=[cZ a,lu,cZ b]:=rfl;rw[et,ej,if_pos ⟨⟨h1,h2⟩,q4⟩,q2,q3]
 ·exact Kq
theorem EN(v:Int)(hv:I64 v)(p:Int)(M:PM)(h1:1≤p)(h2:p≤3):dB p M (ba (lnS [eJ,aW v]))=some (3,{ M with hosts:=M.hosts++[v] }):=by
 rw[ie (ct aj) (xZ (fS v)) aj,Fp];unfold gL;have e1:wdx [eJ,aW v] 1=aW v:=rfl;rw[if_pos ⟨⟨h1,h2⟩,rfl⟩,e1,kG v hv];rfl
theorem NI(x:Gl)(hc:x.1=119∨x.1=108)(hf:gy x.2.2 x.1=true)(h0:0≤x.2.2)(h3:x.2.2<18446744073709551616)(p:Int)(M:PM)(h1:1≤p)(h2:p≤4) :
  dB p M (ba (lnS [dJ,⟨#[UInt8.ofNat x.1.toNat]⟩,jg x.2.1,aW (told x.1 x.2.2)]))=some (4,{ M with globals:=M.globals++[x] }):=by
 obtain⟨c,mu,v⟩:=x;dsimp only at *
 have hi:I64 (told c v):=by
  unfold I64 told
  split
  ·unfold wrap32; omega
  ·unfold wrap64; omega
 have hl:Sgn (⟨#[UInt8.ofNat c.toNat]⟩:ByteArray).data.toList:=by
  rcases hc with rfl | rfl <;> exact ct aj
 have hk:Sgn (jg mu).data.toList:=by cases mu <;> exact ct aj
 rw[ie (ct aj) (fun y hy=>?_) aj,ER]
 ·unfold bR;have e1:wdx [dJ,⟨#[UInt8.ofNat c.toNat]⟩,jg mu,aW (told c v)] 1=⟨#[UInt8.ofNat c.toNat]⟩:=rfl;have e2:wdx [dJ,⟨#[UInt8.ofNat c.toNat]⟩,jg mu,aW (told c v)] 2=jg mu:=rfl;have e3:wdx [dJ,⟨#[UInt8.ofNat c.toNat]⟩,jg mu,aW (told c v)] 3=aW (told c v):=rfl
  rw[e1,e2,e3,if_pos ⟨⟨h1,h2⟩,rfl,by cases mu; exact .inr rfl; exact .inl rfl⟩,kG _ hi]
  simp only[Option.bind_some]
  have eg:gvV ⟨#[UInt8.ofNat c.toNat]⟩ (told c v)=some (c,v):=by
   rcases hc with rfl | rfl
   ·have hv:v<4294967296:=by simpa[gy] using hf
    have et:told 119 v=wrap32 v:=rfl;unfold gvV
    rw[et,if_pos wW,if_pos (by unfold wrap32; omega)]
    congr 2
    unfold wrap32;omega
   ·have et:told 108 v=wrap64 v:=rfl;unfold gvV;rw[et,if_neg wW,if_pos wW]
    congr 2
    unfold wrap64;omega
  have ek:((jg mu).toList==x7.toList)=mu:=by rw[cm,cm]; cases mu <;> rfl
  rw[eg]
  simp only[Option.map_some,ek]
 ·simp only[List.mem_cons,List.not_mem_nil,or_false]at hy
  rcases hy with rfl | rfl | rfl
  ·exact hl
  ·exact hk
  ·exact fS _
theorem IA(a b:Int)(ha:I64 a)(hb:I64 b)(p:Int)(M:PM)(h1:1≤p)(h2:p<5):dB p M (ba (lnS [eo,aW a,aW b]))=some (5,{ M with fi:=a,mo:=b }):=by
 rw[ie (ct aj) (fun y hy=>?_) aj,FB]
 ·unfold js;have e1:wdx [eo,aW a,aW b] 1=aW a:=rfl;have e2:wdx [eo,aW a,aW b] 2=aW b:=rfl;rw[if_pos ⟨⟨h1,h2⟩,rfl⟩,e1,e2,kG a ha,kG b hb];rfl
 ·exact DZ
theorem J4(t:Int)(lo:ByteArray)(ht:I64 t)(hlo:bO lo 64=true)(p:Int)(M:PM)(h1:5≤p)(h2:p≤6):dB p M (ba (lnS [eK,aW t,ja lo]))=some (6,{ M with fns:=M.fns++[(t,lo,[])] }):=by
 have hl:lo.toList.isEmpty=true∨lo.data.toList≠[]:=by
  rw[cm]
  cases lo.data.toList <;> simp
 have hw:Sgn (ja lo).data.toList∧tJ (ja lo)=lo:=by
  unfold ja
  by_cases he:lo.toList.isEmpty=true
  ·rw[if_pos he];refine⟨ct aj,?_⟩;unfold tJ;rw[if_pos (cm _)]
   apply ko
   rw[cm]at he;rw[List.isEmpty_iff.1 he]
  ·rw[if_neg he];have hne:=hl.resolve_left he;refine⟨⟨hne,rA hlo⟩,?_⟩;unfold tJ;rw[if_neg];intro h45;rw[cm]at h45
   have:=((ig lo 64).1 hlo).1 45 (by rw[h45]; simp)
   rcases this with h | h <;> cases h
 rw[ie (ct aj) (fun y hy=>?_) aj,Nr]
 ·unfold iZ;have e1:wdx [eK,aW t,ja lo] 1=aW t:=rfl;have e2:wdx [eK,aW t,ja lo] 2=ja lo:=rfl;rw[if_pos ⟨⟨h1,h2⟩,rfl⟩,e1,e2,kG t ht,hw.2];rfl
 ·simp only[List.mem_cons,List.not_mem_nil,or_false]at hy
  rcases hy with rfl | rfl
  ·exact fS _
  ·exact hw.1
theorem Lu(a:Int)(l:List Int)(ha:I64 a)(hl:l≠[])(hr:∀b∈l,0≤b∧b≤255)(p:Int)(M:PM)(h1:5≤p)(h2:p≤7):dB p M (ba (lnS [iT,aW a,⟨(gq l).toArray⟩]))=some (7,{ M with data:=M.data++[(a,l)] }):=by
 rw[ie (ct aj) (fun y hy=>?_) aj,MA]
 ·unfold jt;have e1:wdx [iT,aW a,⟨(gq l).toArray⟩] 1=aW a:=rfl;have e2:wdx [iT,aW a,⟨(gq l).toArray⟩] 2=⟨(gq l).toArray⟩:=rfl;have e3:nQ ⟨(gq l).toArray⟩=some l:=Cb l hr;rw[if_pos ⟨⟨h1,h2⟩,rfl⟩,e1,e2,kG a ha,e3];rfl
 ·exact BH
theorem MK(n:ByteArray)(f:Int)(hf:I64 f)(hn:jb n=true)(p:Int)(M:PM)(h1:5≤p)(h2:p≤8):dB p M (ba (lnS [d9,n,aW f]))=some (8,{ M with exps:=M.exps++[(n,f)] }):=by
 have hs:Sgn n.data.toList:=by
  exact Iu
 rw[ie (ct aj) (fun y hy=>?_) aj,Fa]
 ·unfold kN;have e1:wdx [d9,n,aW f] 1=n:=rfl;have e2:wdx [d9,n,aW f] 2=aW f:=rfl;rw[if_pos ⟨⟨h1,h2⟩,rfl⟩,e1,e2,kG f hf];rfl
 ·simp only[List.mem_cons,List.not_mem_nil,or_false]at hy
  rcases hy with rfl | rfl
  ·exact hs
  ·exact fS _
theorem EL(M:PM):dB 0 M (ba (lnS [eO]))=some (1,M):=by
 rw[ie (ct aj) (fun y hy=>jy) aj,ED]
 unfold jB;rw[if_pos ⟨ae,rfl⟩]
abbrev wI(l:List UInt8):Prop:=∀c∈l,c≠10
theorem LW.no{l:List UInt8}{ws:List (List UInt8)}(h:LW l ws):wI l:=fun c hc=>(h.a c hc).2
theorem Rz(x:Sg)(hp:bO x.1 8=true)(hr:bO x.2 8=true):wI (lnS [gK,mr x.1 x.2]):=by
 obtain⟨a,b⟩:=x;dsimp only at *
 have hs:xf a b=true:=by unfold xf; simp[hp,hr]
 have hv:mr a b=ir a b:=by unfold mr; rw[if_pos hs]
 have e:lnS [gK,mr a b]=lnS [gK,cZ a,lu,cZ b]:=by
  rw[hv]
  simp[lf,Lib.joinTail,j4,lu,fV]
 rw[e]
 refine(ju (ct aj) (fun y hy=>?_)).no
 exact Kq
theorem QT(v:Int):wI (lnS [eJ,aW v]):=(ju (ct aj) (xZ (fS v))).no
theorem SB(x:Gl)(hc:x.1=119∨x.1=108):wI (lnS [dJ,⟨#[UInt8.ofNat x.1.toNat]⟩,jg x.2.1,aW (told x.1 x.2.2)]):=by
 refine(ju (ct aj) (fun y hy=>?_)).no
 simp only[List.mem_cons,List.not_mem_nil,or_false]at hy
 rcases hy with rfl | rfl | rfl
 ·rcases hc with h | h <;> (rw[h]; exact ct aj)
 ·cases x.2.1 <;> exact ct aj
 ·exact fS _
theorem Rq(a b:Int):wI (lnS [eo,aW a,aW b]):=by
 refine(ju (ct aj) (fun y hy=>?_)).no
 exact DZ
theorem NL{lo:ByteArray}(hlo:bO lo 64=true):Sgn (ja lo).data.toList:=by
 unfold ja
 by_cases he:lo.toList.isEmpty=true
 ·rw[if_pos he];exact ct aj
 ·rw[if_neg he];rw[cm]at he
  exact⟨fun e=>he (by rw[e]; rfl),rA hlo⟩
theorem Rc(t:Int)(lo:ByteArray)(hlo:bO lo 64=true):wI (lnS [eK,aW t,ja lo]):=by
 refine(ju (ct aj) (fun y hy=>?_)).no
 simp only[List.mem_cons,List.not_mem_nil,or_false]at hy
 rcases hy with rfl | rfl
 ·exact fS _
 ·exact NL hlo
theorem SX(a:Int)(l:List Int)(hl:l≠[])(hr:∀b∈l,0≤b∧b≤255):wI (lnS [iT,aW a,⟨(gq l).toArray⟩]):=by
 refine(ju (ct aj) (fun y hy=>?_)).no
 exact BH
theorem PE{n:ByteArray}(hn:jb n=true):Sgn n.data.toList:=by
 exact Iu
theorem SH(n:ByteArray)(f:Int)(hn:jb n=true):wI (lnS [d9,n,aW f]):=by
 refine(ju (ct aj) (fun y hy=>?_)).no
 simp only[List.mem_cons,List.not_mem_nil,or_false]at hy
 rcases hy with rfl | rfl
 ·exact PE hn
 ·exact fS _
abbrev Mu(y:InM):ByteArray:=ba (lnS (fq (ofV y.1).1.2.2.1 (ofV y.1).1.2.1 y.2.1 y.2.2.2))
theorem N8{c:Int}(h0:0≤c)(h1:c≤255)(hk:tkV c≠-1):Sgn (ofV c).1.2.1.data.toList∧bC (ofV c).1.2.1=(c,true)∧(eight.all fun w=>!decide ((ofV c).1.2.1=w))=true∧(ofV c).1.2.1.data.toList.head? ≠ some 59:=by
 obtain⟨n,rfl⟩:∃n:Nat,c=n:=⟨c.toNat,ae⟩;have h:=List.all_eq_true.1 O2 n (List.mem_range.2 ae);unfold RJ at h;rw[Bool.or_eq_true]at h
 rcases h with h | h
 ·exact absurd (of_decide_eq_true h) hk
 ·rw[Bool.and_eq_true,Bool.and_eq_true,Bool.and_eq_true]at h;obtain⟨⟨⟨g1,g2⟩,g3⟩,g4⟩:=h
  exact⟨ct g1,of_decide_eq_true g2,g3,by simpa using g4⟩
theorem Kb{c:Int}(hk:tkV c≠-1):(ofV c).1.2.2.1=tkV c:=by
 unfold tkV at hk ⊢
 split at hk
 ·rename_i h1; rw[if_pos h1]
 ·exact absurd rfl hk
def inW(y:InM):List ByteArray:=if tkV y.1=0 then [] else if tkV y.1=3 then y.2.2.2.map aW else [aW y.2.1]
theorem Ox(y:InM)(h0:0≤y.1)(h1:y.1≤255)(hk:tkV y.1≠-1):LW (lnS (fq (ofV y.1).1.2.2.1 (ofV y.1).1.2.1 y.2.1 y.2.2.2)) ((ofV y.1).1.2.1.data.toList::(inW y).map (·.data.toList)):=by
 have e:lnS (fq (ofV y.1).1.2.2.1 (ofV y.1).1.2.1 y.2.1 y.2.2.2)=32::32::lnS ((ofV y.1).1.2.1::inW y):=by
  unfold fq;rw[Kb hk,lf,lf]
  simp[inW]
 rw[e]
 refine((ju (N8 h0 h1 hk).1 (fun w hw=>?_)).lead).lead
 unfold inW at hw
 split at hw
 ·cases hw
 ·split at hw
  ·obtain⟨z,-,rfl⟩:=List.mem_map.1 hw;exact fS z
  ·obtain rfl:=List.mem_singleton.1 hw;exact fS _
theorem FN(fs:List PFn)(t:Int)(lo:ByteArray)(c:List PIn)(y:PIn):su (fs++[(t,lo,c)]) y=fs++[(t,lo,c++[y])]:=by
 unfold su
 simp
theorem Hp(y:InM)(h0:0≤y.1)(h1:y.1≤255)(hx:dV y=0)(hl:∀z∈y.2.2.2,I64 z)(ha:I64 y.2.1)(M:PM)(fs:List PFn)(t:Int)(lo:ByteArray)(c:List PIn)(hM:M.fns=fs++[(t,lo,c)]) :
  dB 6 M (Mu y)=some (6,{ M with fns:=fs++[(t,lo,c++[plI y])] }):=by
 obtain⟨k1,k2,k3,k4,k5⟩:=mM hx;obtain⟨g1,g2,g3,g4⟩:=N8 h0 h1 k1;rw[Dj (Ox y h0 h1 k1) g1 g4,List.map_cons,Ki,M2 g3];have e0:wdx (ba (ofV y.1).1.2.1.data.toList::inW y) 0=(ofV y.1).1.2.1:=rfl
 have ep:jP y.1 (ba (ofV y.1).1.2.1.data.toList::inW y)=some (plI y):=by
  unfold jP;rw[Kb k1];unfold inW plI
  by_cases t0:tkV y.1=0
  ·rw[if_pos t0,if_pos t0,if_pos (List.length_singleton)]
   have hi':hi (tkV y.1) (lgV y.1)=0:=by unfold hi; rw[if_pos (Or.inl t0)]
   have lw:Go.Proofs.YtheefojaplnnoaaGreatDoor.lo (tkV y.1) (lgV y.1)=0:=by unfold Go.Proofs.YtheefojaplnnoaaGreatDoor.lo; rw[t0]; rfl
   have ea:y.2.1=0:=ae;rw[ea,k5 ae]
  ·rw[if_neg t0,if_neg t0]
   by_cases t3:tkV y.1=3
   ·rw[if_pos t3,if_pos t3]
    have hi':hi (tkV y.1) (lgV y.1)=0:=by unfold hi; rw[if_pos (Or.inr t3)]
    have lw:Go.Proofs.YtheefojaplnnoaaGreatDoor.lo (tkV y.1) (lgV y.1)=0:=by unfold Go.Proofs.YtheefojaplnnoaaGreatDoor.lo; rw[t3]; rfl
    have ea:y.2.1=0:=ae;rw[List.tail_cons,zg _ hl,ea];rfl
   ·rw[if_neg t3,if_neg t3,if_pos (show [ba (ofV y.1).1.2.1.data.toList,aW y.2.1].length=2 from rfl),k5 t3];have e1:wdx (ba (ofV y.1).1.2.1.data.toList::[aW y.2.1]) 1=aW y.2.1:=rfl;rw[e1,kG _ ha];rfl
 unfold cO;rw[e0,g2,if_pos ⟨ae,rfl⟩,ep,hM]
 simp only[Option.map_some,FN]
def InC(y:InM):Prop:=0≤y.1∧y.1≤255∧dV y=0∧(∀z∈y.2.2.2,I64 z)∧I64 y.2.1
theorem sU(fs:List PFn)(t:Int)(lo:ByteArray):∀(ys:List InM),(∀y∈ys,InC y)→∀(c:List PIn)(ln:Int)(M:PM),M.fns=fs++[(t,lo,c)]→∃ln',bT ln 6 M (ys.map Mu)=(ln',some (6,{ M with fns:=fs++[(t,lo,c++ys.map plI)] }))
 | [],_,c,ln,M,hM=>⟨ln,by
  have e:({ M with fns:=fs++[(t,lo,c++[])] }:PM)=M:=by rw[List.append_nil,← hM]
  simp only[List.map_nil,bT,e]⟩
 | y::ys,h,c,ln,M,hM=>by
  obtain⟨q1,q2,q3,q4,q5⟩:=h y ar;have ht:=Hp y q1 q2 q3 q4 q5 M fs t lo c hM
  obtain⟨l',e⟩:=sU fs t lo ys (fun z hz=>h z pJ) (c++[plI y]) (ln+1) { M with fns:=fs++[(t,lo,c++[plI y])] } rfl
  refine⟨l',?_⟩
  simp only[List.map_cons,bT,ht]
  rw[e]
  simp
abbrev yR(x:FuM):List ByteArray:=ba (lnS [eK,aW x.1,ja x.2.1])::x.2.2.2.map Mu
def NN(x:FuM):Prop:=I64 x.1∧bO x.2.1 64=true∧∀y∈x.2.2.2,InC y
theorem tT:∀(xs:List FuM),(∀x∈xs,NN x)→∀(ln p:Int)(M:PM),5≤p→p≤6→∃ln' p',bT ln p M (xs.flatMap yR)=(ln',some (p',{ M with fns:=M.fns++xs.map plF }))∧5≤p'∧p'≤6
 | [],_,ln,p,M,h1,h2=>⟨ln,p,by simp[bT],h1,h2⟩
 | x::xs,h,ln,p,M,h1,h2=>by
  obtain⟨q1,q2,q3⟩:=h x ar;have ht:=J4 x.1 x.2.1 q1 q2 p M h1 h2
  obtain⟨l1,e1⟩:=sU M.fns x.1 x.2.1 x.2.2.2 q3 [] (ln+1) { M with fns:=M.fns++[(x.1,x.2.1,[])] } rfl
  obtain⟨l2,p2,e2,k1,k2⟩:=tT xs (fun z hz=>h z pJ) l1 6 { M with fns:=M.fns++[plF x] } aj aj
  refine⟨l2,p2,?_,k1,k2⟩
  have e0:bT ln p M (yR x)=(l1,some (6,{ M with fns:=M.fns++[plF x] })):=by
   unfold yR
   simp only[bT,ht]
   rw[e1]
   simp[plF]
  rw[List.flatMap_cons,eG _ _ _ _ _ _ _ _ e0,e2]
  simp
structure MC8(m:MM):Prop where
 ty:∀x∈m.types,bO x.1 8=true∧bO x.2 8=true
 ho:∀x∈m.hosts,I64 x
 gl:∀x∈m.globals,(x.1=119∨x.1=108)∧gy x.2.2 x.1=true∧0≤x.2.2∧x.2.2<18446744073709551616
 fi:I64 m.fi
 mo:I64 m.mo
 fn:∀x∈m.fns,NN x
 da:∀x∈m.data,I64 x.1∧x.2.2≠[]∧∀b∈x.2.2,0≤b∧b≤255
 ex:∀x∈m.exps,I64 x.2∧jb x.1=true
def NH(x:Sg):ByteArray:=ba (lnS [gK,mr x.1 x.2])
def Ms(x:Int):ByteArray:=ba (lnS [eJ,aW x])
def NM(x:Gl):ByteArray:=ba (lnS [dJ,⟨#[UInt8.ofNat x.1.toNat]⟩,jg x.2.1,aW (told x.1 x.2.2)])
def Ml(x:DaM):ByteArray:=ba (lnS [iT,aW x.1,⟨(gq x.2.2).toArray⟩])
def Mf(x:Ex):ByteArray:=ba (lnS [d9,x.1,aW x.2])
def oM(m:MM):List ByteArray:=[ba (lnS [eO])]++(m.types.map NH++(m.hosts.map Ms++(m.globals.map NM++([ba (lnS [eo,aW m.fi,aW m.mo])]++(m.fns.flatMap yR++(m.data.map Ml++m.exps.map Mf))))))
theorem Bt:∀(xs:List Sg)(M:PM),xs.foldl (fun M x=>{ M with types:=M.types++[x] }) M={ M with types:=M.types++xs }
 | [],M=>by simp
 | x::xs,M=>by rw[List.foldl_cons,Bt]; simp
theorem Bo:∀(xs:List Int)(M:PM),xs.foldl (fun M x=>{ M with hosts:=M.hosts++[x] }) M={ M with hosts:=M.hosts++xs }
 | [],M=>by simp
 | x::xs,M=>by rw[List.foldl_cons,Bo]; simp
theorem Bc:∀(xs:List Gl)(M:PM),xs.foldl (fun M x=>{ M with globals:=M.globals++[x] }) M={ M with globals:=M.globals++xs }
 | [],M=>by simp
 | x::xs,M=>by rw[List.foldl_cons,Bc]; simp
theorem Ce:∀(xs:List DaM)(M:PM),xs.foldl (fun M x=>{ M with data:=M.data++[plD x] }) M={ M with data:=M.data++xs.map plD }
 | [],M=>by simp
 | x::xs,M=>by rw[List.foldl_cons,Ce]; simp
theorem CU:∀(xs:List Ex)(M:PM),xs.foldl (fun M x=>{ M with exps:=M.exps++[x] }) M={ M with exps:=M.exps++xs }
 | [],M=>by simp
 | x::xs,M=>by rw[List.foldl_cons,CU]; simp
theorem Ij(m:MM)(h:MC8 m):∃ln p,bT 0 0 pm0 (oM m)=(ln,some (p,pl m))∧5≤p∧p≤8:=by
 have e0:bT 0 0 pm0 [ba (lnS [eO])]=(1,some (1,pm0)):=by
  simp only[bT,EL]
  rfl
 obtain⟨l1,p1,e1,a1,b1⟩:=sec NH (fun M x=>{ M with types:=M.types++[x] }) 1 2 aj m.types (fun x hx p M h1 h2=>Hj x (h.ty x hx).1 (h.ty x hx).2 p M h1 h2) 1 1 pm0 aj aj
 rw[Bt]at e1
 replace e1:bT 1 1 pm0 (m.types.map NH)=(l1,some (p1,(⟨m.types,[],[],0,0,[],[],[]⟩:PM))):=e1
 obtain⟨l2,p2,e2,a2,b2⟩:=sec Ms (fun M x=>{ M with hosts:=M.hosts++[x] }) 1 3 aj m.hosts (fun x hx p M h1 h2=>EN x (h.ho x hx) p M h1 h2) l1 p1 ⟨m.types,[],[],0,0,[],[],[]⟩ a1 ae
 rw[Bo]at e2
 replace e2:bT l1 p1 ⟨m.types,[],[],0,0,[],[],[]⟩ (m.hosts.map Ms)=(l2,some (p2,(⟨m.types,m.hosts,[],0,0,[],[],[]⟩:PM))):=e2
 obtain⟨l3,p3,e3,a3,b3⟩:=sec NM (fun M x=>{ M with globals:=M.globals++[x] }) 1 4 aj m.globals (fun x hx p M h1 h2=>NI x (h.gl x hx).1 (h.gl x hx).2.1 (h.gl x hx).2.2.1 (h.gl x hx).2.2.2 p M h1 h2) l2 p2 ⟨m.types,m.hosts,[],0,0,[],[],[]⟩ a2 ae
 rw[Bc]at e3
 replace e3:bT l2 p2 ⟨m.types,m.hosts,[],0,0,[],[],[]⟩ (m.globals.map NM)=(l3,some (p3,(⟨m.types,m.hosts,m.globals,0,0,[],[],[]⟩:PM))):=e3
 have e4:bT l3 p3 ⟨m.types,m.hosts,m.globals,0,0,[],[],[]⟩ [ba (lnS [eo,aW m.fi,aW m.mo])]=(l3+1,some (5,(⟨m.types,m.hosts,m.globals,m.fi,m.mo,[],[],[]⟩:PM))):=by
  simp only[bT,IA m.fi m.mo h.fi h.mo p3 _ a3 ae]
 obtain⟨l5,p5,e5,a5,b5⟩:=tT m.fns h.fn (l3+1) 5 ⟨m.types,m.hosts,m.globals,m.fi,m.mo,[],[],[]⟩ aj aj
 replace e5:bT (l3+1) 5 ⟨m.types,m.hosts,m.globals,m.fi,m.mo,[],[],[]⟩ (m.fns.flatMap yR)=(l5,some (p5,(⟨m.types,m.hosts,m.globals,m.fi,m.mo,m.fns.map plF,[],[]⟩:PM))):=e5
 obtain⟨l6,p6,e6,a6,b6⟩:=sec Ml (fun M x=>{ M with data:=M.data++[plD x] }) 5 7 aj m.data (fun x hx p M h1 h2=>Lu x.1 x.2.2 (h.da x hx).1 (h.da x hx).2.1 (h.da x hx).2.2 p M h1 h2) l5 p5 ⟨m.types,m.hosts,m.globals,m.fi,m.mo,m.fns.map plF,[],[]⟩ a5 ae
 rw[Ce]at e6
 replace e6:bT l5 p5 ⟨m.types,m.hosts,m.globals,m.fi,m.mo,m.fns.map plF,[],[]⟩ (m.data.map Ml)=(l6,some (p6,(⟨m.types,m.hosts,m.globals,m.fi,m.mo,m.fns.map plF,m.data.map plD,[]⟩:PM))):=e6
 obtain⟨l7,p7,e7,a7,b7⟩:=sec Mf (fun M x=>{ M with exps:=M.exps++[x] }) 5 8 aj m.exps (fun x hx p M h1 h2=>MK x.1 x.2 (h.ex x hx).1 (h.ex x hx).2 p M h1 h2) l6 p6 ⟨m.types,m.hosts,m.globals,m.fi,m.mo,m.fns.map plF,m.data.map plD,[]⟩ a6 ae
 rw[CU]at e7
 replace e7:bT l6 p6 ⟨m.types,m.hosts,m.globals,m.fi,m.mo,m.fns.map plF,m.data.map plD,[]⟩ (m.exps.map Mf)=(l7,some (p7,pl m)):=e7
 refine⟨l7,p7,?_,a7,b7⟩;unfold oM;rw[eG _ _ _ _ _ _ _ _ e0,eG _ _ _ _ _ _ _ _ e1,eG _ _ _ _ _ _ _ _ e2,eG _ _ _ _ _ _ _ _ e3,eG _ _ _ _ _ _ _ _ e4,eG _ _ _ _ _ _ _ _ e5,eG _ _ _ _ _ _ _ _ e6,e7]
theorem mg{α:Type}(g:α→ByteArray)(f:α→List UInt8)(h:∀x,f x=(g x).data.toList++[10])(xs:List α):xs.flatMap f=(xs.map g).flatMap (fun b=>b.data.toList++[10]):=by
 rw[List.flatMap_map]
 congr 1
 exact funext h
theorem EE(m:MM):iq m=(oM m).flatMap (fun b=>b.data.toList++[10]):=by
 unfold iq oM
 simp only[List.flatMap_append]
 rw[← mg NH kO (fun x=>rfl),← mg Ms gJ (fun x=>rfl),← mg NM glL (fun x=>rfl),← mg Ml daL (fun x=>rfl),← mg Mf exL (fun x=>rfl)]
 have ef:(m.fns.flatMap yR).flatMap (fun b=>b.data.toList++[10])=m.fns.flatMap fuL:=by
  rw[List.flatMap_assoc]
  congr 1
  funext x
  unfold yR fuL fnL
  rw[List.flatMap_cons,← mg Mu oK (fun y=>rfl)]
  rfl
 rw[ef,List.flatMap_singleton,List.flatMap_singleton];rfl
theorem PL(m:MM)(h:MC8 m):∀b∈oM m,wI b.data.toList:=by
 intro b hb;unfold oM at hb
 simp only[List.mem_append,List.mem_singleton,List.mem_map,List.mem_flatMap]at hb
 rcases hb with rfl | ⟨x,hx,rfl⟩ | ⟨x,hx,rfl⟩ | ⟨x,hx,rfl⟩ | rfl | ⟨x,hx,hb⟩ | ⟨x,hx,rfl⟩ | ⟨x,hx,rfl⟩
 ·exact(ju (ct aj) (fun y hy=>jy)).no
 ·exact Rz x (h.ty x hx).1 (h.ty x hx).2
 ·exact QT x
 ·exact SB x (h.gl x hx).1
 ·exact Rq _ _
 ·obtain⟨q1,q2,q3⟩:=h.fn x hx;unfold yR at hb
  rcases List.mem_cons.1 hb with rfl | hb
  ·exact Rc _ _ q2
  ·obtain⟨y,hy,rfl⟩:=List.mem_map.1 hb;obtain⟨r1,r2,r3,-,-⟩:=q3 y hy;exact(Ox y r1 r2 (mM r3).1).no
 ·exact SX _ _ (h.da x hx).2.1 (h.da x hx).2.2
 ·exact SH _ _ (h.ex x hx).2
theorem IP(m:MM)(h:MC8 m):∃ln p,bT 0 0 pm0 (bo ⟨(iq m).toArray⟩)=(ln,some (p,pl m))∧5≤p:=by
 obtain⟨ln,p,e,hp,-⟩:=Ij m h
 have ep:bo ⟨(iq m).toArray⟩=oM m++[⟨#[]⟩]:=by
  unfold bo
  show(bA (iq m)).map _=_
  rw[EE]
  have e1:(oM m).flatMap (fun b=>b.data.toList++[10])=((oM m).map (·.data.toList)).flatMap (fun a=>a++[10]):=by rw[List.flatMap_map]
  rw[e1,ui _ (fun a ha=>by obtain⟨b,hb,rfl⟩:=List.mem_map.1 ha; exact PL m h b hb),List.map_append,List.map_map]
  congr 1
  exact List.map_id _
 have et:dB p (pl m) ⟨#[]⟩=some (p,pl m):=by
  unfold dB;rw[if_pos (Or.inl (show aS ⟨#[]⟩=[] from rfl))]
 refine⟨ln+1,p,?_,hp⟩;rw[ep,eG _ _ _ _ _ _ _ _ e]
 simp only[bT,et]
theorem J5{w:World}{R g:Nat}{m:MM}(hM:MOk w R g m)(hp:Pas m)(hi:EG m):MC8 m:=by
 refine⟨fun x hx=>?_,fun x hx=>?_,fun x hx=>?_,⟨hM.i0,by have:=hM.i1; omega⟩,⟨hM.o0,by have:=hM.o1; omega⟩,fun x hx=>?_,fun x hx=>?_,fun x hx=>?_⟩
 ·obtain⟨j,hj⟩:=cU hx
  have:=hp.ty j x hj
  exact⟨this.2.1,this.2.2.2⟩
 ·obtain⟨j,hj⟩:=cU hx
  have:=hM.hr j x hj
  exact⟨this.1,ae⟩
 ·obtain⟨j,hj⟩:=cU hx;have h1:=hp.gl j x hj;have h2:=hM.gr j x hj;exact⟨h1.1,h1.2,h2.2.2.1,h2.2.2.2⟩
 ·obtain⟨j,hj⟩:=cU hx;have h1:=hp.fn j x hj;have h2:=hM.fr j x hj
  refine⟨⟨h2.1.1,by have:=h2.1.2; omega⟩,h1.2.2.2.1,fun y hy=>?_⟩
  obtain⟨i,hy⟩:=cU hy;have h3:=h2.2.2.2 i y hy
  exact⟨h3.1,h3.2.1,h1.2.2.2.2.2 i y hy,fun z hz=>h3.2.2.1.2.2.2.1 z hz,hi j x hj i y hy⟩
 ·obtain⟨j,hj⟩:=cU hx;have h1:=hp.da j x hj;have h2:=hM.dr j x hj
  refine⟨⟨h2.1.1,by have:=h2.1.2; omega⟩,fun e=>h1.2.2.2 (by rw[e]; rfl),fun b hb=>h2.2.1.2.2.2.1 b hb⟩
 ·obtain⟨j,hj⟩:=cU hx;have h1:=hp.ex j x hj;have h2:=hM.er j x hj;exact⟨⟨h2.1,ae⟩,h1.2.1⟩
end Go.Proofs.YtheefojaplnnoaaGreatDoor
