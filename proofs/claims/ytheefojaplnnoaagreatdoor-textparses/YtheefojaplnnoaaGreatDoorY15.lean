/-
  Texts Jc Jd Je Jf Jg Jh Db Ji Jj.
-/
import Derived.Test.YtheefojaplnnoaaGreatDoorY14
set_option linter.unusedVariables false
set_option maxRecDepth 100000
set_option maxHeartbeats 16000000
namespace Go.Proofs.YtheefojaplnnoaaGreatDoor
open Go.Proofs.Tryz
open Go.RowKit
set_option maxHeartbeats 4000000
def AtS(w:World)(a:OAz)(n:Nat)(xs:Zai):Prop :=
 xs.length=n/\n<=1000000000/\(n=0\/∃b off,a=some (ZA b off)/\∀(j:Nat)x,xs[j]? =some x->w.cell? (ZA b (off+j))=some (.string x))
variable {w w':World}{B n:Nat}{a:OAz}{xs:Zai}
theorem AtS.later(h:AtS w a n xs)(hb:Below B w w')(hB:w.heap.size<=B):AtS w' a n xs :=
 ⟨h.1,h.2.1,h.2.2.imp id fun⟨b,off,e,hc⟩=>⟨b,off,e,fun j x hj=>(hb.cell (by have:=ZQ (hc j x hj); simp at this ⊢; omega)).trans (hc j x hj)⟩⟩
theorem YG:(prog.info? 2).map (fun i=>(i.zero,i.size,i.bytes))=some (some (ZI 0),1,8):=ak
abbrev A7(w:World)(base:Nat)(v:Value)(xs:LIz):Prop:=w.ownsRow base 2 1 v xs.length (xs.map (ZI))
variable {ops:Array Oper}{o:Oper}{a:Act}{Q:Zan}
theorem Yi(w:World){rest:List Oper}(hgd:o.guard=none)(sl x:Operand)(ho:o.op=Op.call { callee:=Callee.builtin Builtin.append,args:=#[sl,x],argTypes:=#[184,184] })(base:Nat)(v:Value)(xs:LIz)(s:Int)(b:Nat)
  (hs:a.eval sl=v) (hown:A7 w base v xs) (hx:a.eval x=ZL b 1 1) (hc:w.cell? (ZA b 0)=some (ZI s)) (hb:xs.length<=1099511627776) (hbase:base<=w.heap.size)
  (h:∀(v':Value)(w':World),A7 w' base v' (xs++[s])->Below base w w'->wpList prog ops Q rest (a.put o.dst v') w'):wpList prog ops Q (o::rest) a w:=by
 obtain⟨i0,hi,hz0,hz1,hz2⟩:=Z0 YG;refine wpList_append_own w hgd sl x 184 ho base 2 i0 (ZI 0) 1 8 underlying184 hi hz0 hz1 hz2 rfl au v xs.length _ hs hown (ZA b 0) 1 1 [ZI s] hx rfl ?_ ?_ aP ae hbase ?_
 ·exact zE
 ·exact zY
 intro v' w' ho' hg _;refine h v' w' ?_ (jN hown hg hbase);unfold A7;rw[ZV,List.map_append];exact ho'
theorem Ct:∀(xs:Zai)(k:Nat)(ns:LIz),bz (xs.take k)=some ns->∀x,xs[k]? =some x->bz (xs.take (k+1))=(nmV x).map (fun v=>ns++[v])
 | [],k,ns,h,x,hx=>by simp at hx
 | y::r,0,ns,h,x,hx=>by
  simp at hx;subst hx;simp only[List.take_zero,bz]at h
  cases h
  simp only[List.take_succ_cons,List.take_zero,bz]
  cases nmV y <;> rfl
 | y::r,k+1,ns,h,x,hx=>by
  simp only[List.take_succ_cons,bz]at h ⊢
  cases hy:nmV y with
  | none=>rw[hy]at h; cases h
  | some v =>
   rw[hy]at h;simp only[Zac]at h ⊢
   cases hr:bz (r.take k) with
   | none=>rw[hr]at h; cases h
   | some t =>
    rw[hr]at h;simp at h;subst h;rw[Ct r k t hr x oK]
    cases nmV x <;> rfl
theorem vL:∀(xs:Zai)(k:Nat) x,xs[k]? =some x->nmV x=none->bz xs=none
 | [],k,x,hx,h=>by simp at hx
 | y::r,0,x,hx,h=>by simp at hx; subst hx; simp[bz,h]
 | y::r,k+1,x,hx,h=>by
  simp only[bz,vL r k x oK h]
  cases nmV y <;> rfl
def Yw(xs:Zai)(w:World)(e:Ending)(w':World):Prop :=
 Zx w w'/\((bz xs=none/\e=.returned (.tuple #[ZN,.bool false]))\/∃ns v,bz xs=some ns/\e=.returned (.tuple #[v,.bool true])/\A7 w' w.heap.size v ns)
theorem nR(a:OAz)(n c:Nat)(xs:Zai)(w:World)(h:AtS w a n xs):Zw 127 #[.slice a n c] w (Yw xs w):=by
 have HA:=hid h;have HN:=hid (fun(s:BAz) (W:World)=>tF s W);have hn9:=h.2.1;clear h;go_enter func127,ntmps127;go_wp2_with fail
 go_loopw [4,5] (fun o i wr=>∃(ns:LIz)(k:Nat),i=ZI k/\k<=n/\Hid (A7 wr w.heap.size o ns)/\Hid (Zx w wr)/\Hid (bz (xs.take k)=some ns)/\Hid (ns.length=k)) (fun o i wr=>n+1-(intOf i).toNat)
 case atStart=>exact⟨[],0,rfl,Z5 _,hid (Z7 w w.heap.size 2 1),hid (ZT _ _),hid rfl,hid rfl⟩
 case round =>
  obtain⟨ns,k,rfl,hk,HS,HB,HV,HL⟩:=hrel
  by_cases hlt:k<n
  ·have hlt':(k:Int)<(n:Int):=ae;have It:(0:Int)<=(k:Int):=ae;have hwi:IntKind.i64.wrap ((k:Int)+1)=k+1:=IntWalk.i64_in _ ae;have hxl:=HA.out.1;have hxk:xs[k]? =some xs[k]:=aD ae;have hX:∃x,xs[k]=x:=⟨_,rfl⟩;obtain⟨x,hx⟩:=hX;rw[hx]at hxk;have HX:=hid hxk;clear hx hxk
   rcases HA.out.2.2 with h0 | ⟨b,off,rfl,hc⟩
   ·omega
   have jj:=(HB.out.cell (ZQ (hc k x HX.out))).trans (hc k x HX.out);clear hc;go_wp2_with fail;refine(HN.out x wr).mono ?_;rintro e w1⟨hb,v,bb,rfl,hy,hn⟩;have SO:=Zy HB hb;have iS:=hid (bE HS.out hb);clear hb
   cases bb
   ·have hno:bz xs=none:=vL xs k x HX.out (by
     cases h2:nmV x with
     | none=>rfl
     | some y=>have:=(hn y h2).2; cases this)
    have HNO:=hid hno;clear hy hn hno;go_wp2_with fail;go_ret2;exact⟨SO.out,.inl ⟨HNO.out,rfl⟩⟩
   have HY:=hid (hy rfl);clear hy hn;have HXL:=hid (show ns.length<=1000000000 by have:=HL.out; omega)
   go_wp2_with (at_builtin; (refine Yi _ rfl (.tmp 24) (.tmp 26) rfl w.heap.size _ ns v w1.heap.size rfl (iS.out.alloc _) rfl av (by have:=HXL.out; omega) (by have:=SO.out.size; simp; omega) ?_; intro v5 w5 As AI; have HS5:=hid As; have de:=hid ((SO.out.alloc SO.out.size _).trans AI); clear As AI))
   refine⟨⟨ns++[v],k+1,bu,hlt,HS5,de,hid ?_,hid (by have:=HL.out; simp; omega)⟩,sX⟩;rw[Ct xs k ns HV.out x HX.out,HY.out];rfl
  obtain rfl:k=n:=ae;go_wp2_with fail;go_ret2;refine⟨HB.out,.inr ⟨ns,_,?_,rfl,HS.out⟩⟩;have:=HV.out;rw[ZY (by rw[HA.out.1]; exact Nat.le_refl _)]at this;exact this
variable {s:BAz}
theorem km{l:Zaj}(h:¬s=⟨l.toArray⟩):(s.toList==l)=false:=by
 simp only[beq_eq_false_iff_ne,ne_eq];intro h2;rw[bq]at h2;exact h (eu (by rw[h2]))
def oZ(s:BAz):Int :=
 if s=⟨#[102,108,97,103,111,110]⟩ then 1 else
 if s=⟨#[116,121,112,101]⟩ then 2 else
 if s=⟨#[101,120,116,101,114,110]⟩ then 3 else
 if s=⟨#[103,108,111,98,97,108]⟩ then 4 else
 if s=⟨#[109,101,109,111,114,121]⟩ then 5 else
 if s=⟨#[102,117,110,99]⟩ then 6 else
 if s=⟨#[100,97,116,97]⟩ then 7 else
 if s=⟨#[101,120,112,111,114,116]⟩ then 8 else
 0
theorem gB(s:BAz)(w:World):Zw 121 #[.string s] w (ZG (ZI (oZ s)) w):=by
 by_cases h0:s=⟨#[102,108,97,103,111,110]⟩
 ·subst h0;exact j5
 have b0:(s.toList==[102,108,97,103,111,110])=false:=km h0
 by_cases h1:s=⟨#[116,121,112,101]⟩
 ·subst h1;exact j5
 have b1:(s.toList==[116,121,112,101])=false:=km h1
 by_cases h2:s=⟨#[101,120,116,101,114,110]⟩
 ·subst h2;exact j5
 have b2:(s.toList==[101,120,116,101,114,110])=false:=km h2
 by_cases h3:s=⟨#[103,108,111,98,97,108]⟩
 ·subst h3;exact j5
 have b3:(s.toList==[103,108,111,98,97,108])=false:=km h3
 by_cases h4:s=⟨#[109,101,109,111,114,121]⟩
 ·subst h4;exact j5
 have b4:(s.toList==[109,101,109,111,114,121])=false:=km h4
 by_cases h5:s=⟨#[102,117,110,99]⟩
 ·subst h5;exact j5
 have b5:(s.toList==[102,117,110,99])=false:=km h5
 by_cases h6:s=⟨#[100,97,116,97]⟩
 ·subst h6;exact j5
 have b6:(s.toList==[100,97,116,97])=false:=km h6
 by_cases h7:s=⟨#[101,120,112,111,114,116]⟩
 ·subst h7;exact j5
 have b7:(s.toList==[101,120,112,111,114,116])=false:=km h7;have e:oZ s=0:=F7;rw[e];clear e h0 h1 h2 h3 h4 h5 h6 h7;go_enter func121,ntmps121;exact lW
def look(s:BAz):List (ByteArray×Int)->Int×Bool
 | []=>(0,false)
 | x::r=>if x.1=s then (x.2,true) else look s r
theorem Ba(s:BAz)(m:List (ByteArray×Int)):∀l,look s (l++m)=if (look s l).2=true then ((look s l).1,true) else look s m
 | []=>by simp[look]
 | x::r=>by
  simp only[List.cons_append,look]
  split
  ·simp
  exact Ba s m r
def CV(a:BAz):Int->List ByteArray->List (ByteArray×Int)
 | _,[]=>[]
 | f,p::r=>(a++p,f)::CV a (f+1) r
theorem vJ(s a p:BAz)(h:Lib.hasPrefix s.data.toList a.data.toList=true):a++p=s↔p=⟨(Lib.trimPrefix s.data.toList a.data.toList).toArray⟩:=by
 have hp:a.data.toList <+: s.data.toList:=List.isPrefixOf_iff_prefix.1 h;obtain⟨t,ht⟩:=hp
 have htr:Lib.trimPrefix s.data.toList a.data.toList=t:=by
  unfold Lib.trimPrefix;rw[if_pos h,<- ht];simp
 rw[htr]
 constructor
 ·intro e
  apply eu;have:=congrArg (fun x:ByteArray=>x.data.toList) e;simp only[uX]at this;rw[<- ht]at this
  simpa using List.append_cancel_left this
 intro e;subst e;apply eu;rw[uX,<- ht]
theorem Nk(s a p:BAz)(h:Lib.hasPrefix s.data.toList a.data.toList=false):a++p≠s:=by
 intro e;subst e;rw[uX]at h;have:a.data.toList.isPrefixOf (a.data.toList++p.data.toList)=true:=List.isPrefixOf_iff_prefix.2 ⟨_,rfl⟩;unfold Lib.hasPrefix at h;rw[h]at this
 cases this
theorem BZ(s a:BAz)(h:Lib.hasPrefix s.data.toList a.data.toList=true):∀(ps:Zai)(f:Int),lG f ⟨(Lib.trimPrefix s.data.toList a.data.toList).toArray⟩ ps=look s (CV a f ps)
 | [],_=>rfl
 | p::r,f=>by
  simp only[lG,CV,look]
  by_cases e:p=⟨(Lib.trimPrefix s.data.toList a.data.toList).toArray⟩
  ·rw[if_pos e,if_pos ((vJ s a p h).2 e)]
  rw[if_neg e,if_neg (fun e'=>e ((vJ s a p h).1 e'))];exact BZ s a h r (f+1)
theorem Ht(s a:BAz)(h:Lib.hasPrefix s.data.toList a.data.toList=false):∀(ps:Zai)(f:Int),look s (CV a f ps)=(0,false)
 | [],_=>rfl
 | p::r,f=>by
  simp only[CV,look];rw[if_neg (Nk s a p h)];exact Ht s a h r (f+1)
theorem KJ(f:Int)(a ws s:BAz):fX f a ws s=look s (CV a f (dm ws)):=by
 unfold fX
 cases h:Lib.hasPrefix s.data.toList a.data.toList with
 | true=>rw[if_pos rfl]; exact BZ s a h _ f
 | false=>rw[if_neg av]; exact(Ht s a h _ f).symm
def nB:Nat->Nat->List (ByteArray×Int)
 | 0,_=>[]
 | n+1,i=>CV (kA i) (kF i) (dm (kW i))++nB n (i+1)
theorem nY(s:BAz):∀n i,fU n i s=look s (nB n i)
 | 0,_=>rfl
 | n+1,i=>by
  simp only[fU,nB];rw[Ba,KJ,nY s n (i+1)]
def mD:Nat->Int->List (ByteArray×Int)
 | 0,_=>[]
 | n+1,c=>if (pZ iE c).2=true then ((pZ iE c).1.2.1,c)::mD n (c+1) else mD n (c+1)
def gJ:Nat->Int->ByteArray->Int×Bool
 | 0,_,_=>(0,false)
 | n+1,c,s=>if (pZ iE c).2=true/\(pZ iE c).1.2.1=s then (c,true) else gJ n (c+1) s
theorem lN(s:BAz):∀n c,gJ n c s=look s (mD n c)
 | 0,_=>rfl
 | n+1,c=>by
  simp only[gJ,mD]
  by_cases h:(pZ iE c).2=true
  ·rw[if_pos h]
   simp only[look,h,true_and]
   split
   ·rfl
   exact lN s n (c+1)
  rw[if_neg h,if_neg (fun e=>h e.1)];exact lN s n (c+1)
theorem DX:nB 7 0=mD 256 0:=kO
theorem vM(s:BAz):bi s=gJ 256 0 s:=by
 unfold bi;rw[nY,DX,<- lN]
theorem VP(c:Int)(w:World)(k tk:Int)(wd pp ps:BAz)(pl ok:Bool)(h:pZ iE c=((k,wd,tk,pp,ps,pl),ok)):Zw 163 #[ZU c] w fun e w' =>
  e=.returned (.tuple #[.agg #[ZU k,.string wd,.int .i8 tk,.string pp,.string ps,.bool pl],.bool ok])/\w'=w.alloc (gH k wd tk pp ps pl):=by
 have:=Xz c w;rw[np,h]at this;exact this
theorem DJ(s:BAz)(w:World):Zw 180 #[.string s] w (ZC (.tuple #[ZU (gJ 256 0 s).1,.bool (gJ 256 0 s).2]) w):=by
 obtain⟨V,hV⟩:∃V,gJ 256 0 s=V:=⟨_,rfl⟩;rw[hV];go_enter func180,ntmps180;go_wp2_with fail
 go_loopw [4] (fun p wr=>∃i:Nat,p=ZI i/\i<=256/\Zx w wr/\gJ (256-i) i s=V) (fun p wr=>256-(intOf p).toNat)
 case atStart=>exact⟨0,rfl,au,ZT _ _,hV⟩
 case round =>
  clear hV;obtain⟨i,rfl,hi,hB,hV⟩:=hrel
  by_cases h7:i=256
  ·exact Gg
  have hlt:(i:Int)<256:=ae;have hw:wrap64 ((i:Int)+1)=i+1:=dV
  have hw8:IntKind.u8.wrap (i:Int)=i:=by rw[IntKind.wrap_u8]; omega
  obtain⟨n,hn⟩:∃n,256-i=n+1:=⟨255-i,ae⟩;have nF:256-(i+1)=n:=ae;rw[hn,gJ]at hV;obtain⟨R,hR⟩:∃R,pZ iE (i:Int)=R:=⟨_,rfl⟩;rw[hR]at hV;obtain⟨⟨k,wd,tk,pp,ps,pl⟩,ok⟩:=R;have HR:=hid (VP i wr k tk wd pp ps pl ok hR);clear hR;have sq:=hid ((hB.alloc hB.size (gH k wd tk pp ps pl)).alloc (by have:=hB.size; simp; omega) (gH k wd tk pp ps pl));have HV:=hid hV;clear hV hB
  cases ok
  ·go_wp2_with fail;refine HR.out.mono ?_;rintro e w2⟨rfl,rfl⟩;go_wp2_with fail
   exact⟨⟨i+1,av,ae,sq.out,by have:=HV.out; rw[nF]; simpa using this⟩,bD⟩
  by_cases he:wd=s
  ·have hx:V=((i:Int),true):=by have:=HV.out; rw[if_pos ⟨rfl,he⟩]at this; exact this.symm
   subst hx;subst he;go_wp2_with fail;refine HR.out.mono ?_;rintro e w2⟨rfl,rfl⟩;go_wp2_with fail;go_ret2;exact⟨rfl,sq.out⟩
  have he2:(wd.toList==s.toList)=false:=by rw[Fx]; simp[he]
  have hx:=HV.out;rw[if_neg (fun e=>he e.2)]at hx;have HX:=hid hx;clear hx HV;go_wp2_with fail;refine HR.out.mono ?_;rintro e w2⟨rfl,rfl⟩;go_wp2_with fail;exact⟨⟨i+1,av,ae,sq.out,by rw[nF]; simpa using HX.out⟩,bD⟩
theorem Rx(s:BAz)(w:World):Zw 180 #[.string s] w (ZC (.tuple #[ZU (bi s).1,.bool (bi s).2]) w):=by
 rw[vM];exact DJ s w
variable {wr w1:World}
theorem x9(p r:BAz)(hk:wr.heap[w.heap.size]? =some (aW ⟨#[]⟩ ⟨#[]⟩))(hb:Zx w wr)
  (h1:Below (wr.alloc (aW p r)).heap.size (wr.alloc (aW p r)) w1) :
  w1.heap[w.heap.size]? =some (aW ⟨#[]⟩ ⟨#[]⟩)/\Zx w w1 /\
  w1.cell? (ZA wr.heap.size 0)=some (.string p)/\w1.cell? (ZA wr.heap.size 1)=some (.string r) /\
  w1.cell? (ZA w.heap.size 0)=some (.string ⟨#[]⟩)/\w1.cell? (ZA w.heap.size 1)=some (.string ⟨#[]⟩)/\w1.frozen? (ZA w.heap.size 0)=false/\w1.frozen? (ZA w.heap.size 1)=false:=by
 have hlt:w.heap.size<wr.heap.size:=by
  rcases Zae w.heap.size wr.heap.size with h | h
  ·exact h
  rw[Zaf h]at hk; cases hk
 have hx:w1.heap[w.heap.size]? =some (aW ⟨#[]⟩ ⟨#[]⟩):=by
  rw[h1.block _ aA,Below.heap_alloc _ _ _ hlt]; exact hk
 have hy:w1.heap[wr.heap.size]? =some (aW p r):=by
  rw[h1.block _ av]; exact hZn _ _
 refine⟨hx,(hb.alloc hb.size _).trans (h1.mono (by have:=hb.size; simp; omega)),?_,?_,?_,?_,free_at hx,free_at hx⟩
 ·rw[ag hy]; rfl
 ·rw[ag hy]; rfl
 ·rw[ag hx]; rfl
 rw[ag hx]; rfl
variable {m:Nat}
theorem IE(h:∀k,k<m->hit s n k=false)(hm:hit s n m=false):∀k,k<m+1->hit s n k=false:=by
 intro k hk
 rcases Zae k m with h' | h'
 ·exact h k h'
 obtain rfl:k=m:=ae;exact hm
theorem VS(h:∀i k,i<n->k<=8->hit s i k=false)(hn:∀k,k<=8->hit s n k=false):∀i k,i<n+1->k<=8->hit s i k=false:=by
 intro i k hi hk
 rcases Zae i n with h' | h'
 ·exact h i k h' hk
 obtain rfl:i=n:=ae;exact hn k hk
theorem CE(s:BAz)(w:World)(hs:s.size<=1073741824) :
  Zw 123 #[.string s] w (ZC (.tuple #[.agg #[.string (rdP s),.string (rdR s)],ZI (rdE s)]) w):=by
 go_enter func123,ntmps123
 go_wp2
 go_loopw [4] (fun i wr=>∃n:Nat,n<=9/\n<=s.size/\i=ZI n/\(∀i k,i<n->k<=8->hit s i k=false)/\wr.heap[w.heap.size]? =some (aW ⟨#[]⟩ ⟨#[]⟩)/\Zx w wr) (fun i _=>9-(intOf i).toNat)
 case atStart=>exact⟨0,ae,ae,rfl,fun i k h _=>ae,hZn _ _,(ZT _ _).alloc lRn _⟩
 case round =>
  obtain⟨n,hn9,hns,rfl,hno,hblk,hb⟩:=hrel;obtain⟨HN,HK,HB⟩:=ZH hno hblk hb;clear hno hblk hb
  by_cases hc:n<s.size/\n<=8
  ·obtain⟨hc1,hc2⟩:=hc;have hc1':(n:Int)<s.size:=ae;have hc2':(n:Int)<=8:=ae;go_wp2
   go_loopw [5] (fun k wr=>∃m:Nat,m<=9/\k=ZI m/\(∀k,k<m->hit s n k=false)/\wr.heap[w.heap.size]? =some (aW ⟨#[]⟩ ⟨#[]⟩)/\Zx w wr) (fun k _=>9-(intOf k).toNat)
   case atStart=>exact⟨0,ae,rfl,fun k h=>ae,HK.out,HB.out⟩
   case round =>
    obtain⟨m,hm9,rfl,hno,hblk,hb⟩:=hrel;obtain⟨HM,HK2,P2⟩:=ZH hno hblk hb;clear hno hblk hb HK HB
    by_cases hm:m<=8
    ·have hm':(m:Int)<=8:=ae
     cases h45:((s.extract 0 n).toList==[45])
     ·by_cases hk:m<=s.size
      ·have hk':(m:Int)<=s.size:=ae
       cases h46:((s.extract (s.size-m) s.size).toList==[45])
       ·have e1:lH s n=(s.extract 0 n):=qx;have e2:jU s m=(s.extract (s.size-m) s.size):=sU;have hh:hit s n m=(l9 (s.extract 0 n) (s.extract (s.size-m) s.size)&&((eB (s.extract 0 n) (s.extract (s.size-m) s.size)).toList==s.toList)):=yD;have z1:((s.extract 0 n):BAz).size<=1073741824:=wy;have z2:((s.extract (s.size-m) s.size):BAz).size<=1073741824:=wy;go_wp2_with fail;refine(Il (s.extract 0 n) (s.extract (s.size-m) s.size) _ z1 z2).mono ?_;rintro e w1⟨rfl,hb1⟩;have F:=hid (x9 (s.extract 0 n) (s.extract (s.size-m) s.size) HK2.out P2.out hb1);clear hb1
        cases hg:l9 (s.extract 0 n) (s.extract (s.size-m) s.size)
        ·rw[show gF (s.extract 0 n) (s.extract (s.size-m) s.size)=15 by rw[gF,hg]; rfl]
         generalize kN (s.extract 0 n) (s.extract (s.size-m) s.size)=wv;exact Fv
        rw[show gF (s.extract 0 n) (s.extract (s.size-m) s.size)=0 by rw[gF,hg]; rfl,show kN (s.extract 0 n) (s.extract (s.size-m) s.size)=eB (s.extract 0 n) (s.extract (s.size-m) s.size) by rw[kN,hg]; rfl]
        cases hw:((eB (s.extract 0 n) (s.extract (s.size-m) s.size)).toList==s.toList)
        ·exact IM
        obtain⟨_,_,x0,x1,y0,y1,f0,f1⟩:=F.out;have HH:=hid (wU (s:=s) (i:=n) (k:=m) ql);have cq:=hid F.out.2.1;go_wp2
        (try simp only[Exit.inBlock,Exit.then])
        refine i4 (v:=.tuple #[.agg #[.string (s.extract 0 n),.string (s.extract (s.size-m) s.size)],ZI 0]) ?_ rfl ⟨zC,?_⟩
        ·exact kG
        exact(cq.out.setCell av _).setCell av _
       have e1:lH s n=(s.extract 0 n):=qx;have e2:jU s m=⟨#[]⟩:=sU;exact NL
      have hk':¬(m:Int)<=s.size:=ae;have e1:lH s n=(s.extract 0 n):=qx
      have e2:jU s m=⟨#[]⟩:=by rw[jU,if_neg hk]
      exact NL
     by_cases hk:m<=s.size
     ·have hk':(m:Int)<=s.size:=ae
      cases h46:((s.extract (s.size-m) s.size).toList==[45])
      ·have e1:lH s n=⟨#[]⟩:=qx;have e2:jU s m=(s.extract (s.size-m) s.size):=sU;have hh:hit s n m=(l9 ⟨#[]⟩ (s.extract (s.size-m) s.size)&&((eB ⟨#[]⟩ (s.extract (s.size-m) s.size)).toList==s.toList)):=yD;have z1:(⟨#[]⟩:BAz).size<=1073741824:=wZ;have z2:((s.extract (s.size-m) s.size):BAz).size<=1073741824:=wy;go_wp2_with fail;refine(Il ⟨#[]⟩ (s.extract (s.size-m) s.size) _ z1 z2).mono ?_;rintro e w1⟨rfl,hb1⟩;have F:=hid (x9 ⟨#[]⟩ (s.extract (s.size-m) s.size) HK2.out P2.out hb1);clear hb1
       cases hg:l9 ⟨#[]⟩ (s.extract (s.size-m) s.size)
       ·rw[show gF ⟨#[]⟩ (s.extract (s.size-m) s.size)=15 by rw[gF,hg]; rfl]
        generalize kN ⟨#[]⟩ (s.extract (s.size-m) s.size)=wv;exact Fv
       rw[show gF ⟨#[]⟩ (s.extract (s.size-m) s.size)=0 by rw[gF,hg]; rfl,show kN ⟨#[]⟩ (s.extract (s.size-m) s.size)=eB ⟨#[]⟩ (s.extract (s.size-m) s.size) by rw[kN,hg]; rfl]
       cases hw:((eB ⟨#[]⟩ (s.extract (s.size-m) s.size)).toList==s.toList)
       ·exact IM
       obtain⟨_,_,x0,x1,y0,y1,f0,f1⟩:=F.out;have HH:=hid (wU (s:=s) (i:=n) (k:=m) ql);have cq:=hid F.out.2.1;go_wp2
       (try simp only[Exit.inBlock,Exit.then])
       refine i4 (v:=.tuple #[.agg #[.string ⟨#[]⟩,.string (s.extract (s.size-m) s.size)],ZI 0]) ?_ rfl ⟨zC,?_⟩
       ·exact kG
       exact(cq.out.setCell av _).setCell av _
      have e1:lH s n=⟨#[]⟩:=qx;have e2:jU s m=⟨#[]⟩:=sU;exact PY
     have hk':¬(m:Int)<=s.size:=ae;have e1:lH s n=⟨#[]⟩:=qx
     have e2:jU s m=⟨#[]⟩:=by rw[jU,if_neg hk]
     exact PY
    have hm':¬(m:Int)<=8:=ae;go_wp2
    go_roundw
    case rel=>exact⟨n+1,ae,ae,av,VS HN.out (fun k hk=>HM.out k ae),HK2.out,P2.out⟩
    case measure=>simp[intOf]; omega
  have hex:∀i k,i<s.size->i<=8->k<=8->hit s i k=false:=fun i k h1 h2 h3=>HN.out i k ae h3;have HR:=hid (QG hex);have c0:=ag (i:=0) HK.out;have c1:=ag (i:=1) HK.out;have f0:=free_at (i:=0) HK.out;have f1:=free_at (i:=1) HK.out;simp at c0 c1
  by_cases hc1:n<s.size
  ·have hc1':(n:Int)<s.size:=ae;have hc2':¬(n:Int)<=8:=ae;exact PQ
  have hc1':¬(n:Int)<s.size:=ae;exact PQ
def rfA(m:MM)(pt:Int):Array Value:=#[.slice m.ta m.tn m.tc,.slice m.ha m.hn m.hc,.slice m.ga m.gn m.gc,ZI m.fi,ZI m.mo,.slice m.fa m.fn m.fc,.slice m.da m.dn m.dc,.slice m.ea m.en m.ec,ZI pt]
structure RF(base R:Nat)(m:MM)(pt:Int)(w:World):Prop where
 blk:w.heap[R]? =some (.cells (rfA m pt) 133)
 low:R<base
 bw:base<=w.heap.size
 rt:w.ownsRow base 73 2 (.slice m.ta m.tn m.tc) m.tn (m.types.flatMap iy)
 rh:w.ownsRow base 3 1 (.slice m.ha m.hn m.hc) m.hn (m.hosts.flatMap fJ)
 rg:w.ownsRow base 102 3 (.slice m.ga m.gn m.gc) m.gn (m.globals.flatMap fQ)
 rf:w.ownsRow base 78 3 (.slice m.fa m.fn m.fc) m.fn (m.fns.flatMap dA)
 rd:w.ownsRow base 81 2 (.slice m.da m.dn m.dc) m.dn (m.data.flatMap iD)
 re:w.ownsRow base 83 2 (.slice m.ea m.en m.ec) m.en (m.exps.flatMap jV)
 fo:∀x∈m.fns,FnO w base x
 fd:∀(i j:Nat)x y k,m.fns[i]? =some x->m.fns[j]? =some y->i≠j->fcb x=some k->fcb y≠some k
 dd:∀x∈m.data,w.ownsRow base 5 1 (.slice x.2.1.1 x.2.1.2.1 x.2.1.2.2) x.2.1.2.1 (x.2.2.flatMap oV)
 nf:pt<6->m.fns=[]
variable {base R:Nat}{m:MM}{pt:Int}
theorem RF.later(h:RF base R m pt w)(hb:Zx w w'):RF base R m pt w' :=
 ⟨ar hb h.blk,h.low,ZW h.bw hb.size,bJ h.rt hb,bJ h.rh hb,bJ h.rg hb,bJ h.rf hb,bJ h.rd hb,bJ h.re hb,fun x hx=>(h.fo x hx).later hb,h.fd,fun x hx=>bJ (h.dd x hx) hb,h.nf⟩
variable {m':MM}{pt':Int}
theorem RF.set(h:RF base R m pt w)(o:Nat)(u:Value)(hA:(rfA m pt).setIfInBounds o u=rfA m' pt')
  (e1:m'.ta=m.ta/\m'.tn=m.tn/\m'.tc=m.tc/\m'.types=m.types) (e2:m'.ha=m.ha/\m'.hn=m.hn/\m'.hc=m.hc/\m'.hosts=m.hosts) (e3:m'.ga=m.ga/\m'.gn=m.gn/\m'.gc=m.gc/\m'.globals=m.globals) (e4:m'.fa=m.fa/\m'.fn=m.fn/\m'.fc=m.fc/\m'.fns=m.fns) (e5:m'.da=m.da/\m'.dn=m.dn/\m'.dc=m.dc/\m'.data=m.data) (e6:m'.ea=m.ea/\m'.en=m.en/\m'.ec=m.ec/\m'.exps=m.exps)
  (hp:pt'<6->pt<6):RF base R m' pt' (w.setCell (ZA R o) u):=by
 obtain⟨a1,a2,a3,a4⟩:=e1;obtain⟨b1,b2,b3,b4⟩:=e2;obtain⟨c1,c2,c3,c4⟩:=e3;obtain⟨d1,d2,d3,d4⟩:=e4;obtain⟨f1,f2,f3,f4⟩:=e5;obtain⟨g1,g2,g3,g4⟩:=e6;refine⟨?_,h.low,by simpa[World.setCell] using h.bw,?_,?_,?_,?_,?_,?_,?_,?_,?_,?_⟩
 ·rw[aT h.blk,hA]
 ·rw[a1,a2,a3,a4]; exact bA h.rt h.low
 ·rw[b1,b2,b3,b4]; exact bA h.rh h.low
 ·rw[c1,c2,c3,c4]; exact bA h.rg h.low
 ·rw[d1,d2,d3,d4]; exact bA h.rf h.low
 ·rw[f1,f2,f3,f4]; exact bA h.rd h.low
 ·rw[g1,g2,g3,g4]; exact bA h.re h.low
 ·exact Iy
 ·rw[d4]; exact h.fd
 ·rw[f4]; exact fun x hx=>bA (h.dd x hx) h.low
 rw[d4]; exact fun hx=>h.nf (hp hx)
theorem RF.part(h:RF base R m pt w)(q:Int)(hq:pt<=q):RF base R m q (w.setCell (ZA R 8) (ZI q)) :=
 h.set 8 _ rfl ⟨rfl,rfl,rfl,rfl⟩ ⟨rfl,rfl,rfl,rfl⟩ ⟨rfl,rfl,rfl,rfl⟩ ⟨rfl,rfl,rfl,rfl⟩ ⟨rfl,rfl,rfl,rfl⟩ ⟨rfl,rfl,rfl,rfl⟩ (fun x=>ae)
theorem RF.cells(h:RF base R m pt w)(i:Nat):w.cell? (ZA R i)=(rfA m pt)[i]?:=ag h.blk
theorem RF.free(h:RF base R m pt w)(i:Nat):w.frozen? (ZA R i)=false:=free_at h.blk
section
variable {base R:Nat} {m:MM} {pt:Int} {w W w':World} {g cap:Nat}
theorem RF.pushT(h:RF base R m pt w)(hW:Zx w W)(x:Sg)(ho:w'.ownsRow base 73 2 (ZL g (m.tn+1) cap) (m.tn+1) (m.types.flatMap iy++iy x))(hg:W.grownBy w' (Value.slice m.ta m.tn m.tc).ownBlock) :
  RF base R { m with ta:=some (ZA g 0),tn:=m.tn+1,tc:=cap,types:=m.types++[x] } pt (w'.setCell (ZA R 0) (ZL g (m.tn+1) cap))/\KR base R w (w'.setCell (ZA R 0) (ZL g (m.tn+1) cap)):=by
 have hq:=h.later hW;have hu:=hq.rt;have hR:=h.low;refine⟨⟨?_,hR,?_,?_,?_,?_,?_,?_,?_,?_,?_,?_,?_⟩,((KR.later hW).trans (KR.grow hu hg)).trans (KR.set base R _ w' _)⟩
 ·exact gI
 ·exact fI
 ·exact gK
 ·exact iZ
 ·exact iW
 ·exact iT
 ·exact iR
 ·exact iY
 ·exact j4
 ·exact h.fd
 ·exact iX
 exact h.nf
theorem RF.pushH(h:RF base R m pt w)(hW:Zx w W)(x:Int)(hpt:pt<6)(ho:w'.ownsRow base 3 1 (ZL g (m.hn+1) cap) (m.hn+1) (m.hosts.flatMap fJ++fJ x))(hg:W.grownBy w' (Value.slice m.ha m.hn m.hc).ownBlock) :
  RF base R { m with ha:=some (ZA g 0),hn:=m.hn+1,hc:=cap,hosts:=m.hosts++[x] } pt (w'.setCell (ZA R 1) (ZL g (m.hn+1) cap))/\KR base R w (w'.setCell (ZA R 1) (ZL g (m.hn+1) cap)):=by
 have hq:=h.later hW;have hu:=hq.rh;have hR:=h.low;refine⟨⟨?_,hR,?_,?_,?_,?_,?_,?_,?_,?_,?_,?_,?_⟩,((KR.later hW).trans (KR.grow hu hg)).trans (KR.set base R _ w' _)⟩
 ·exact gI
 ·exact fI
 ·exact i6
 ·exact gK
 ·exact iW
 ·exact iT
 ·exact iR
 ·exact iY
 ·intro y hy; rw[show m.fns=[] from h.nf hpt]at hy; cases hy
 ·intro i j x y k hi; rw[show m.fns=[] from h.nf hpt]at hi; cases hi
 ·exact iX
 exact h.nf
theorem RF.pushG(h:RF base R m pt w)(hW:Zx w W)(x:Gl)(ho:w'.ownsRow base 102 3 (ZL g (m.gn+1) cap) (m.gn+1) (m.globals.flatMap fQ++fQ x))(hg:W.grownBy w' (Value.slice m.ga m.gn m.gc).ownBlock) :
  RF base R { m with ga:=some (ZA g 0),gn:=m.gn+1,gc:=cap,globals:=m.globals++[x] } pt (w'.setCell (ZA R 2) (ZL g (m.gn+1) cap))/\KR base R w (w'.setCell (ZA R 2) (ZL g (m.gn+1) cap)):=by
 have hq:=h.later hW;have hu:=hq.rg;have hR:=h.low;refine⟨⟨?_,hR,?_,?_,?_,?_,?_,?_,?_,?_,?_,?_,?_⟩,((KR.later hW).trans (KR.grow hu hg)).trans (KR.set base R _ w' _)⟩
 ·exact gI
 ·exact fI
 ·exact i6
 ·exact iZ
 ·exact gK
 ·exact iT
 ·exact iR
 ·exact iY
 ·exact j4
 ·exact h.fd
 ·exact iX
 exact h.nf
theorem RF.pushF(h:RF base R m pt w)(hW:Zx w W)(x:FuM)(hpt:6<=pt)(hx:x.2.2.1=(none,0,0)/\x.2.2.2=[])(ho:w'.ownsRow base 78 3 (ZL g (m.fn+1) cap) (m.fn+1) (m.fns.flatMap dA++dA x))(hg:W.grownBy w' (Value.slice m.fa m.fn m.fc).ownBlock) :
  RF base R { m with fa:=some (ZA g 0),fn:=m.fn+1,fc:=cap,fns:=m.fns++[x] } pt (w'.setCell (ZA R 5) (ZL g (m.fn+1) cap))/\KR base R w (w'.setCell (ZA R 5) (ZL g (m.fn+1) cap)):=by
 have hq:=h.later hW;have hu:=hq.rf;have hR:=h.low;refine⟨⟨?_,hR,?_,?_,?_,?_,?_,?_,?_,?_,?_,?_,?_⟩,((KR.later hW).trans (KR.grow hu hg)).trans (KR.set base R _ w' _)⟩
 ·exact gI
 ·exact fI
 ·exact i6
 ·exact iZ
 ·exact iW
 ·exact gK
 ·exact iR
 ·exact iY
 ·exact Qg
 ·exact OY
 ·exact iX
 intro hc; omega
theorem RF.pushD(h:RF base R m pt w)(hW:Zx w W)(x:DaM)(hx:w.ownsRow base 5 1 (.slice x.2.1.1 x.2.1.2.1 x.2.1.2.2) x.2.1.2.1 (x.2.2.flatMap oV))(ho:w'.ownsRow base 81 2 (ZL g (m.dn+1) cap) (m.dn+1) (m.data.flatMap iD++iD x))(hg:W.grownBy w' (Value.slice m.da m.dn m.dc).ownBlock) :
  RF base R { m with da:=some (ZA g 0),dn:=m.dn+1,dc:=cap,data:=m.data++[x] } pt (w'.setCell (ZA R 6) (ZL g (m.dn+1) cap))/\KR base R w (w'.setCell (ZA R 6) (ZL g (m.dn+1) cap)):=by
 have hq:=h.later hW;have hu:=hq.rd;have hR:=h.low;refine⟨⟨?_,hR,?_,?_,?_,?_,?_,?_,?_,?_,?_,?_,?_⟩,((KR.later hW).trans (KR.grow hu hg)).trans (KR.set base R _ w' _)⟩
 ·exact gI
 ·exact fI
 ·exact i6
 ·exact iZ
 ·exact iW
 ·exact iT
 ·exact gK
 ·exact iY
 ·exact j4
 ·exact h.fd
 ·exact Ot
 exact h.nf
theorem RF.pushE(h:RF base R m pt w)(hW:Zx w W)(x:Ex)(ho:w'.ownsRow base 83 2 (ZL g (m.en+1) cap) (m.en+1) (m.exps.flatMap jV++jV x))(hg:W.grownBy w' (Value.slice m.ea m.en m.ec).ownBlock) :
  RF base R { m with ea:=some (ZA g 0),en:=m.en+1,ec:=cap,exps:=m.exps++[x] } pt (w'.setCell (ZA R 7) (ZL g (m.en+1) cap))/\KR base R w (w'.setCell (ZA R 7) (ZL g (m.en+1) cap)):=by
 have hq:=h.later hW;have hu:=hq.re;have hR:=h.low;refine⟨⟨?_,hR,?_,?_,?_,?_,?_,?_,?_,?_,?_,?_,?_⟩,((KR.later hW).trans (KR.grow hu hg)).trans (KR.set base R _ w' _)⟩
 ·exact gI
 ·exact fI
 ·exact i6
 ·exact iZ
 ·exact iW
 ·exact iT
 ·exact iR
 ·exact gK
 ·exact j4
 ·exact h.fd
 ·exact iX
 exact h.nf
end
variable {W:World}{g cap cn cc:Nat}{t:Int}{ca:OAz}
theorem RF.pushI(h:RF base R m pt w)(hW:Zx w W){init:List FuM}{lo:BAz}{code:List InM}(hf:m.fns=init++[((t,lo,(ca,cn,cc),code):FuM)]){fb:Nat}(vb:m.fa=some (ZA fb 0))(y:InM)
  (hy:w.ownsRow base 3 1 (.slice y.2.2.1.1 y.2.2.1.2.1 y.2.2.1.2.2) y.2.2.1.2.1 (y.2.2.2.flatMap fJ)) (ho:w'.ownsRow base 75 3 (ZL g (cn+1) cap) (cn+1) (code.flatMap eD++eD y)) (hg:W.grownBy w' (Value.slice ca cn cc).ownBlock) (hgb:(Value.slice ca cn cc).ownBlock=some g\/g=W.heap.size) :
  RF base R { m with fns:=init++[((t,lo,(some (ZA g 0),cn+1,cap),code++[y]):FuM)] } pt (w'.setCell (ZA fb (init.length*3+2)) (ZL g (cn+1) cap))/\KR base R w (w'.setCell (ZA fb (init.length*3+2)) (ZL g (cn+1) cap)):=by
 have hq:=h.later hW;have hR:=h.low;have hlm:((t,lo,(ca,cn,cc),code):FuM)∈m.fns:=uE;have hu:=(hq.fo _ hlm).code;have qad:=aU hq.rf hu hg au;rw[vb]at qad;obtain⟨ee,cur,hcur⟩:=dN qad (b:=fb) rfl;have kS:=aB w' fb (init.length*3+2) (ZL g (cn+1) cap);have far:∀{e k n:Nat} {v:Value} {xs:Zah},w'.ownsRow base e k v n xs->e≠78->(w'.setCell (ZA fb (init.length*3+2)) (ZL g (cn+1) cap)).ownsRow base e k v n xs:=fun h0 he=>kQ h0 kS hcur he;have hlast:m.fns[init.length]? =some ((t,lo,(ca,cn,cc),code):FuM):=uE
 have qat:∀(i:Nat)x,init[i]? =some x->w'.ownsRow base 75 3 (.slice x.2.2.1.1 x.2.2.1.2.1 x.2.2.1.2.2) x.2.2.1.2.1 (x.2.2.2.flatMap eD):=fun i x hi=>by
  exact LB
 refine⟨⟨?_,hR,?_,?_,?_,?_,?_,?_,?_,?_,?_,?_,?_⟩,((KR.later hW).trans (KR.grow hu hg)).trans ⟨kS.os,kS.tape,kS.output,kS.size,fun k hk hs=>kS.block k hk (fun e=>hs (.inr (by have e:k=fb:=e; omega)))⟩⟩
 ·exact Eu
 ·exact fI
 ·exact far (aU hq.rt hu hg au) au
 ·exact far (aU hq.rh hu hg au) au
 ·exact far (aU hq.rg hu hg au) au
 ·exact OE
 ·exact far (aU hq.rd hu hg au) au
 ·exact far (aU hq.re hu hg au) au
 ·exact LO
 ·exact Nl
 ·exact fun x hx=>far (aU (hq.dd x hx) hu hg au) au
 intro hp;have:=h.nf hp;rw[hf]at this;simp at this
variable {S:Zam}
theorem RF.keptS(h:RF base R m pt w)(hk:Kept S w w')(hR:¬S R)(hS:∀k cs t,base<=k->w.heap[k]? =some (.cells cs t)->¬S k):RF base R m pt w':=by
 have ho:∀{e k n:Nat} {v:Value} {xs:Zah},w.ownsRow base e k v n xs->w'.ownsRow base e k v n xs:=fun {e k n v xs} h=>cf h hk (fun b hb hs=>by
  obtain⟨h1,cur,h2⟩:=dN h hb;exact hS b _ _ h1 h2 hs)
 exact⟨(hk.block R (aK h.blk) hR).trans h.blk,h.low,ZW h.bw hk.size,ho h.rt,ho h.rh,ho h.rg,ho h.rf,ho h.rd,ho h.re,fun x hx=>⟨ho (h.fo x hx).code,fun y hy=>ho ((h.fo x hx).lab y hy)⟩,h.fd,fun x hx=>ho (h.dd x hx),h.nf⟩
theorem RF.zero(h:w.heap[R]? =some (.cells (rfA mm0 0) 133))(hR:R<base)(hb:base<=w.heap.size):RF base R mm0 0 w :=
 ⟨h,hR,hb,dt _ _ _ _,dt _ _ _ _,dt _ _ _ _,dt _ _ _ _,dt _ _ _ _,dt _ _ _ _,(fun x hx=>fG),(fun i j x y k hx=>by simp[mm0]at hx),(fun x hx=>fG),fun _=>rfl⟩
variable {R0:Nat}
theorem RF.mok(h:RF base R0 m pt w)(hp:PR (pl m))(R g:Nat)(hR:w.heap.size<=R)(hg:w.heap.size<=g):MOk w R g m:=by
 exact UF
theorem RF.len(h:RF base R m pt w):LnM m :=
 ⟨(cE (g:=iy) (fun _=>rfl) au h.rt).symm,(cE (g:=fJ) (fun _=>rfl) au h.rh).symm,(cE (g:=fQ) (fun _=>rfl) au h.rg).symm,(cE (g:=dA) (fun _=>rfl) au h.rf).symm,(cE (g:=iD) (fun _=>rfl) au h.rd).symm,(cE (g:=jV) (fun _=>rfl) au h.re).symm⟩
section
set_option maxHeartbeats 4000000
def tP(ws:Zai):Option Gl:=if ws.length=4/\((wdx ws 2).toList=uU.toList\/(wdx ws 2).toList=qD.toList) then (nmV (wdx ws 3)).bind fun v=>(gvV (wdx ws 1) v).map fun x=>(x.1,(wdx ws 2).toList==uU.toList,x.2) else none
def LnF(base R:Nat)(w:World)(res:Option (Int×PM))(e:Ending)(w':World):Prop :=
 KR base R w w'/\match res with
 | some (p,M)=>e=.returned (.bool true)/\∃m',RF base R m' p w'/\pl m'=M
 | none=>e=.returned (.bool false)
theorem xR{L:UInt8}{v:Int}(hL:L=119\/L=108):gvV ⟨#[L]⟩ v=if L=119 then (if v=wrap32 v then some (119,v%4294967296) else none) else some (108,v%18446744073709551616):=by
 rcases hL with rfl | rfl
 ·unfold gvV; rw[if_pos (by rw[bq]),if_pos rfl]
 unfold gvV; rw[if_neg (by rw[bq]; decide),if_pos (by rw[bq]),if_neg au]
variable {base R:Nat}
theorem NI(b off c:Nat)(x0 x1 x2 x3:BAz)(w:World)(c1:w.cell? (ZA b (off+1))=some (.string x1))(c2:w.cell? (ZA b (off+2))=some (.string x2))
  (hg:¬((x1.toList=[119]\/x1.toList=[108])/\(x2.toList=[118,97,114]\/x2.toList=[99,111,110,115,116]))) :
  Zw 124 #[ZP R 0,.slice (some (ZA b off)) 4 c] w fun e w'=>KR base R w w'/\e=.returned (.bool false):=by
 by_cases h1:x1.toList=[119]\/x1.toList=[108]
 ·have h2:¬(x2.toList=[118,97,114]\/x2.toList=[99,111,110,115,116]):=fun x=>hg ⟨h1,x⟩
  have k3:(x2.toList==[118,97,114])=false:=by simpa using fun x=>h2 (.inl x)
  have k4:(x2.toList==[99,111,110,115,116])=false:=by simpa using fun x=>h2 (.inr x)
  rcases h1 with h1 | h1
  ·have k1:(x1.toList==[119])=true:=lV;exact Io
  have k1:(x1.toList==[119])=false:=lV;have k2:(x1.toList==[108])=true:=lV;exact Io
 have k1:(x1.toList==[119])=false:=by simpa using fun x=>h1 (.inl x)
 have k2:(x1.toList==[108])=false:=by simpa using fun x=>h1 (.inr x)
 clear hg h1;exact Ic
variable {m:MM}{pt:Int}
theorem J8(b off c:Nat)(L:UInt8)(x0 x2 x3:BAz)(w:World)(h:RF base R m pt w)(hps:psz (pl m)<=2097152)(c1:w.cell? (ZA b (off+1))=some (.string ⟨#[L]⟩))(c2:w.cell? (ZA b (off+2))=some (.string x2))(c3:w.cell? (ZA b (off+3))=some (.string x3))
  (hL:L=119\/L=108) (h2:x2.toList=[118,97,114]\/x2.toList=[99,111,110,115,116]) :
  Zw 124 #[ZP R 0,.slice (some (ZA b off)) 4 c] w (LnF base R w ((tP [x0,⟨#[L]⟩,x2,x3]).map fun x=>(pt,{ pl m with globals:=(pl m).globals++[x] }))):=by
 obtain⟨i0,hi,hz0,hz1,hz2⟩:=Z0 Od;obtain⟨M,hM⟩:∃M,(x2.toList==uU.toList)=M:=⟨_,rfl⟩
 have hgv:tP [x0,⟨#[L]⟩,x2,x3]=(nmV x3).bind fun v=>(gvV ⟨#[L]⟩ v).map fun x=>(x.1,M,x.2):=by
  unfold tP;rw[if_pos ⟨rfl,by rw[fP,fk]; exact h2⟩];show(nmV x3).bind (fun v=>(gvV ⟨#[L]⟩ v).map fun x=>(x.1,x2.toList==uU.toList,x.2))=_;rw[hM]
 rw[hgv];rw[fP]at hM;have HM:=hid hM;have HN:=hid (tF x3);obtain⟨HLL,H2⟩:=Zz hL h2
 have hn:m.gn<=2097152:=by
  exact wS
 have HQ:=hid h;clear hM h hps hgv hL h2;go_enter func124,ntmps124
 go_upto_region 1 with fail
 go_cut [34] from 8 (fun v wx=>v=.bool false/\wx=w)
 case first =>
  rcases HLL.out with rfl | rfl <;> rcases H2.out with h2 | h2
  all_goals (try (have k3:(x2.toList==[118,97,114])=true:=by rw[h2]; rfl))
  all_goals (go_wp2_with fail)
  all_goals go_meet
  all_goals exact⟨rfl,rfl⟩
 case rest =>
  obtain⟨rfl,rfl⟩:=hcut
  go_upto_region 4 with fail
  refine(HN.out _).mono ?_;rintro e w1⟨hb,v,bb,rfl,hy,hn⟩;obtain⟨SO,HY,HNN⟩:=ZH hb hy hn;have d1:w1.cell? (ZA b (off+1))=some (.string ⟨#[L]⟩):=(hb.cell (ZQ c1)).trans c1;have d2:w1.cell? (ZA b (off+2))=some (.string x2):=(hb.cell (ZQ c2)).trans c2;clear hb hy hn c1 c2 c3
  go_upto_region 4 with fail
  refine ZX (S:=fun W=>W.cell? (ZA b (off+1))=some (.string ⟨#[L]⟩)/\W.cell? (ZA b (off+2))=some (.string x2)) ak ⟨d1,d2⟩ (fun hHeld=>?_)
  have BD:=hid ((ZT w1.heap.size w1).drew);have d1':w1.drew.cell? (ZA b (off+1))=some (.string ⟨#[L]⟩):=d1;have d2':w1.drew.cell? (ZA b (off+2))=some (.string x2):=d2;clear d1 d2;generalize w1.drew=wd at *;refine Zt 0 ?_;refine Zt 1 ?_;refine Zt 2 ?_;refine Zt 3 ?_;refine Zt 4 ?_;refine Zt 5 ?_;refine Zt 6 ?_;refine Zt 7 ?_;refine Zt 8 ?_;refine Zt 9 ?_;refine Zt 10 ?_;refine ZR 11 fun K hK=>?_;go_simp;refine hK.out _ _ ⟨((aj wd _).cell (ZQ d1')).trans d1',((aj wd _).cell (ZQ d2')).trans d2'⟩ (fun _=>?_);clear hK K;refine ZR 12 fun K hK=>?_;go_simp;refine hK.out _ _ ⟨((aj wd _).cell (ZQ d1')).trans d1',((aj wd _).cell (ZQ d2')).trans d2'⟩ (fun _=>?_);clear hK K;refine Z4 ak ?_ _;have eL:∀h,(⟨#[L]⟩:BAz)[0]'h=L:=fun _=>rfl;rw[eL,HM.out];have BX:=Zy BD (aj wd (aZ L.toNat M (IntKind.u64.wrap v)));have AT:=hid (hZn wd (aZ L.toNat M (IntKind.u64.wrap v)));generalize wd.alloc (aZ L.toNat M (IntKind.u64.wrap v))=w2 at *;have Is:=hid (show wc.heap.size<=wd.heap.size from ZW SO.out.size BD.out.size);generalize wd.heap.size=X at *;clear d1' d2' hHeld eL;have g0:=iz0 AT.out
  go_upto_if 55 with fail
  clear HN
  go_cut [6] from 8 (fun v6 wx=>∃(B:Bool)(val:Int),v6=.bool B/\Hid (wx.heap[X]? =some (aZ L.toNat M val))/\Hid (Zx wc wx)/\Hid (((nmV x3).bind fun v=>(gvV ⟨#[L]⟩ v).map fun x=>(x.1,M,x.2))=if B=true then some ((L.toNat:Int),M,val) else none))
  case first =>
   have g2:=iz2 AT.out;have f2:=free_at (i:=2) AT.out;have hwv:IntKind.u64.wrap v=v%18446744073709551616:=Yv v;have gk:=hid (SO.out.trans (BX.out.mono SO.out.size))
   rcases HLL.out with rfl | rfl
   ·have HSB:=hid (show Zx wc (w2.setCell (ZA X 2) (.int .u64 (v%4294967296))) from gk.out.trans ((aB w2 X 2 _).to_below gk.out.size (fun k hk e=>by have e:k=X:=e; have:=Is.out; omega)))
    have HSC:=hid (show(w2.setCell (ZA X 2) (.int .u64 (v%4294967296))).heap[X]? =some (aZ (119:UInt8).toNat M (v%4294967296)) by rw[aT AT.out]; rfl);have hmm:v%18446744073709551616%4294967296=v%4294967296:=ae
    cases bb
    ·have hno:nmV x3=none:=by
      exact Ho
     have HNO:=hid hno;clear hno;go_wp2_with fail
     go_meet
     exact⟨false,_,rfl,HSC,HSB,hid (by rw[HNO.out]; rfl)⟩
    have hv:=HY.out rfl;have HV:=hid hv;clear hv
    by_cases r1:-2147483648<=v
    ·by_cases r2:v<=2147483647
     ·go_wp2_with fail
      go_meet
      exact⟨true,_,rfl,HSC,HSB,hid (by rw[HV.out]; simp only[Zac]; rw[xR (.inl rfl),if_pos rfl,if_pos Ad]; rfl)⟩
     exact FK
    exact FK
   go_wp2_with fail
   go_meet
   refine⟨bb,_,rfl,AT,gk,hid ?_⟩
   cases bb
   ·have hno:nmV x3=none:=by
     exact Ho
    rw[hno];rfl
   rw[HY.out rfl];simp only[Zac];rw[xR (.inr rfl),if_neg au,hwv];rfl
  case rest =>
   obtain⟨B,val,rfl,HX2,P2,hres⟩:=hcut;clear AT BX g0 SO BD;have AT:=HX2;have Q1:=hid (HQ.out.later P2.out);have KX:=hid (KR.later (base:=base) (R:=R) P2.out);clear HX2
   go_upto_region 8 with fail
   generalize wc=w9 at *;have B1:=hid ((ZT w9.heap.size w9).drew);refine ZX (S:=fun _=>True) ak trivial (fun _=>?_)
   generalize w9.drew=wd at *;refine tkQ (i:=0) rfl ?_;(try simp only[Act.put,sIB]);refine tkQ (i:=1) rfl ?_;(try simp only[Act.put]);refine tkQ (i:=2) rfl ?_;(try simp only[Act.put]);refine tkQ (i:=3) rfl ?_;(try simp only[Act.put]);refine tkQ (i:=4) rfl ?_;(try simp only[Act.put]);refine Zu 5 6 (fun K hK=>?_) fun K hK=>?_
   ·have cH:wd.cell? (ZA R 2)=some (.slice m.ga m.gn m.gc):=(Q1.out.later B1.out).cells 2;go_simp
    refine Zv hK ?_;clear hK K;refine ZR 6 fun K hK=>?_;have y0:=iz0 (ar B1.out AT.out);have y1:=iz1 (ar B1.out AT.out);have y2:=iz2 (ar B1.out AT.out);exact Mz
   have y0:=iz0 (ar B1.out AT.out);have y1:=iz1 (ar B1.out AT.out);have y2:=iz2 (ar B1.out AT.out);go_simp;refine Zv hK ?_;clear hK K;refine Zu 5 7 (fun K hK=>?_) fun K hK=>?_
   ·have cH:wd.cell? (ZA R 2)=some (.slice m.ga m.gn m.gc):=(Q1.out.later B1.out).cells 2;exact Mz
   go_simp;have BN:=Zy B1 (aj wd (aZ L.toNat M val));refine Zv hK ?_;clear hK K;refine ZR 5 fun K hK=>?_;have cH:(wd.alloc (aZ L.toNat M val)).cell? (ZA R 2)=some (.slice m.ga m.gn m.gc):=(Q1.out.later BN.out).cells 2;go_simp;refine Zv hK ?_;clear hK K;refine ZR 8 fun K hK=>?_;refine wp_append_lies _ (.tmp 74) (.tmp 76) 24 rfl base 102 i0 (.agg #[ZU 0,.bool false,.int .u64 0]) 3 16 underlying24 hi hz0 hz1 hz2 rfl au (.slice m.ga m.gn m.gc) m.gn (m.globals.flatMap fQ) rfl (Q1.out.later BN.out).rg (ZA wd.heap.size 0) 1 1 (fQ (((L.toNat:Int),M,val):Gl)) rfl rfl ?n1 ?n2 au aP ae (Q1.out.later BN.out).bw _ rfl ?_
   case n1 =>
    exact D8
   case n2=>intro u hu; simp[fQ]at hu; rcases hu with rfl | rfl | rfl <;> rfl
   intro g cap w6 Ft BE _ _;have PX:=hid ((Q1.out).pushG BN.out (((L.toNat:Int),M,val):Gl) Ft BE);have z6:=hid (bF ((Q1.out.later BN.out).blk) (Q1.out).low ((Q1.out.later BN.out).rg) BE);clear Ft BE;refine hK.out _ _ trivial (fun _=>?_)
   clear hK K;refine tkQ (i:=9) rfl ?_;(try simp only[Act.put,sIB]);refine tkQ (i:=10) rfl ?_;(try simp only[Act.put]);refine tkQ (i:=11) rfl ?_;(try simp only[Act.put]);refine ZR 12 fun K hK=>?_;have c16:=iz2 z6.out;have f16:=free_at (i:=2) z6.out;go_simp;refine Zv hK ?_;clear hK K;refine Z4 ak ?_ _;go_wp2_with fail;go_ret;rw[hres.out];exact IP
theorem NZ(a:OAz)(n c:Nat)(ws:Zai)(w:World)(h:RF base R m pt w)(hw:AtS w a n ws)(hps:psz (pl m)<=2097152) :
  Zw 124 #[ZP R 0,.slice a n c] w (LnF base R w ((tP ws).map fun x=>(pt,{ pl m with globals:=(pl m).globals++[x] }))):=by
 by_cases h4:n=4
 rotate_left
 ·have e:tP ws=none:=by unfold tP; rw[if_neg (fun x=>h4 (by rw[<- hw.1]; exact x.1))]
  have be:((n:Int) != 4)=true:=aA;rw[e];clear hw h;exact Ic
 subst h4;obtain⟨hl,-,hcs⟩:=hw
 rcases hcs with h0 | ⟨b,off,rfl,hc⟩
 ·cases h0
 match ws,hl with
 | [x0,x1,x2,x3],_ =>
  have c1:=hc 1 x1 rfl;have c2:=hc 2 x2 rfl;have c3:=hc 3 x3 rfl
  by_cases hg:(x1.toList=[119]\/x1.toList=[108])/\(x2.toList=[118,97,114]\/x2.toList=[99,111,110,115,116])
  ·obtain⟨L,hL,rfl⟩:∃L:UInt8,(L=119\/L=108)/\x1=⟨#[L]⟩:=by
    rcases hg.1 with h1 | h1
    ·exact⟨119,.inl rfl,eu (by rw[<- bq,h1])⟩
    exact⟨108,.inr rfl,eu (by rw[<- bq,h1])⟩
   exact J8 b off c L x0 x2 x3 w h hps c1 c2 c3 hL hg.2
  refine(NI (base:=base) (R:=R) b off c x0 x1 x2 x3 w c1 c2 hg).mono ?_;rintro e w' ⟨hk,rfl⟩
  have e:tP [x0,x1,x2,x3]=none:=by
   unfold tP
   split
   ·rename_i h2
    have h3:=h2.2;rw[fP,fk]at h3;have h5:¬(x1.toList=[119]\/x1.toList=[108]):=fun x=>hg ⟨x,h3⟩;show(nmV x3).bind _=none
    cases nmV x3 with
    | none=>rfl
    | some v =>
     have:gvV x1 v=none:=by unfold gvV; rw[if_neg (fun x=>h5 (.inl x)),if_neg (fun x=>h5 (.inr x))]
     simp only[Zac];show(gvV x1 v).map _=none;rw[this]; rfl
   rfl
  rw[e];exact⟨hk,rfl⟩
def Aj(c:Int):ByteArray:=(kV.extract (c / 16).toNat ((c / 16).toNat+1))++(kV.extract (c%16).toNat ((c%16).toNat+1))
theorem Yu(c:Int)(h0:0<=c)(h1:c<=255)(w:World):Zw 39 #[ZU c] w (ZC (.string (Aj c)) w):=by
 obtain⟨n,rfl⟩:∃n:Nat,c=n:=⟨c.toNat,ae⟩;have k1:(n:Int) / 16<=15:=ae;have k2:0<=(n:Int) / 16:=ae;have k3:(n:Int)%16<=15:=ae;have k4:0<=(n:Int)%16:=ae;have k5:(n:Int) / 16+1<=16:=ae;have k6:(n:Int)%16+1<=16:=ae;have k7:0<=(n:Int) / 16+1:=ae;have k8:(n:Int) / 16<=(n:Int) / 16+1:=ae;have k9:0<=(n:Int)%16+1:=ae;have k10:(n:Int)%16<=(n:Int)%16+1:=ae;have ut:(n:Int).tmod 16=(n:Int)%16:=Int.tmod_eq_emod_of_nonneg ae;have ks:¬(9223372036854775807<((n:Int) / 16+1).toNat-((n:Int) / 16).toNat+(((n:Int)%16+1).toNat-((n:Int)%16).toNat)):=ae
 have u1:IntKind.u8.wrap ((n:Int) / 16)=(n:Int) / 16:=by show((n:Int) / 16)%256=_; omega
 have u2:IntKind.u8.wrap ((n:Int) / 16+1)=(n:Int) / 16+1:=by show((n:Int) / 16+1)%256=_; omega
 have u3:IntKind.u8.wrap ((n:Int)%16)=(n:Int)%16:=by show((n:Int)%16)%256=_; omega
 have u4:IntKind.u8.wrap ((n:Int)%16+1)=(n:Int)%16+1:=by show((n:Int)%16+1)%256=_; omega
 go_enter func39,ntmps39;go_wp2_with fail;refine ZX (S:=fun _=>True) ak trivial (fun _=>?_)
 refine tkD (i:=0) (d:=some 3) rfl ?_;(try go_frame);refine tkD (i:=1) (d:=some 4) rfl ?_;(try go_frame);refine tkD (i:=2) (d:=some 5) rfl ?_;(try go_frame);refine tkD (i:=3) (d:=some 6) rfl ?_;(try go_frame);refine tkD (i:=4) (d:=some 7) rfl ?_;(try go_frame);refine tkD (i:=5) (d:=some 8) rfl ?_;(try go_frame);refine tkD (i:=6) (d:=some 9) rfl ?_;(try go_frame);refine tkD (i:=7) (d:=some 10) rfl ?_;(try go_frame);refine tkD (i:=8) (d:=some 11) rfl ?_;(try go_frame);refine tkD (i:=9) (d:=some 12) rfl ?_;(try go_frame);refine tkD (i:=10) (d:=some 13) rfl ?_;(try go_frame);refine tkD (i:=11) (d:=some 14) rfl ?_;(try go_frame);refine tkD (i:=12) (d:=some 15) rfl ?_;(try go_frame);refine tkD (i:=13) (d:=some 2) rfl ?_;(try go_frame);refine Z4 ak ?_ _;go_wp2_with fail;go_ret;refine⟨?_,(ZT _ _).drew⟩;have e1:((n:Int) / 16+1).toNat=((n:Int) / 16).toNat+1:=ae;have e2:((n:Int)%16+1).toNat=((n:Int)%16).toNat+1:=ae;unfold Aj kV;rw[<- e1,<- e2];rfl
def Bh(k:Nat):UInt8:=kV.data.toList.getD k 0
theorem U4:((List.range 256).all fun c=>decide ((Aj (c:Int)).data.toList=[Bh (c / 16),Bh (c%16)]))=true:=kO
theorem Wp:((List.range 16).all fun k=>decide (eH ((Bh k).toNat:Int)=k))=true:=kO
theorem Xi:((List.range 256).all fun a=>decide (eH (a:Int)<0) || decide ((Bh (eH (a:Int)).toNat).toNat=a))=true:=kO
theorem X0{c:Nat}(h:c<256):(Aj (c:Int)).data.toList=[Bh (c / 16),Bh (c%16)]:=of_decide_eq_true (List.all_eq_true.1 U4 c (List.mem_range.2 h))
variable {k:Nat}
theorem Uq(h:k<16):eH ((Bh k).toNat:Int)=k:=of_decide_eq_true (List.all_eq_true.1 Wp k (List.mem_range.2 h))
theorem UG(a:UInt8)(h:0<=eH (a.toNat:Int)):Bh (eH (a.toNat:Int)).toNat=a:=by
 have h1:=List.all_eq_true.1 Xi a.toNat (List.mem_range.2 (by have:=a.toNat_lt; omega));simp only[Bool.or_eq_true,decide_eq_true_eq]at h1
 rcases h1 with h1 | h1
 ·omega
 exact UInt8.toNat_inj.1 h1
def uz(a b:UInt8):Option Nat:=if 0<=eH (a.toNat:Int)/\0<=eH (b.toNat:Int) then some (eH a.toNat*16+eH b.toNat).toNat else none
theorem Qv{a b:UInt8}{c:Nat}(h:c<256):(Aj (c:Int)).data.toList=[a,b]↔uz a b=some c:=by
 rw[X0 h];unfold uz
 constructor
 ·intro e
  injection e with e1 e2;injection e2 with e2 _;have d1:=Uq (k:=c / 16) ae;have d2:=Uq (k:=c%16) ae;rw[e1]at d1;rw[e2]at d2;rw[if_pos ⟨ae,ae⟩,d1,d2]
  congr 1
  omega
 intro e
 split at e
 ·rename_i hd
  have e:=i9 e;have l1:=jC (a.toNat:Int);have l2:=jC (b.toNat:Int);have r1:=UG a hd.1;have r2:=UG b hd.2;rw[<- r1,<- r2]
  congr 2
  ·omega
  congr 2
  omega
 cases e
theorem Ik{a b:UInt8}{c:Nat}(h:uz a b=some c):c<256:=by
 unfold uz at h
 split at h
 ·have l1:=jC (a.toNat:Int);have l2:=jC (b.toNat:Int)
  have:=i9 h;omega
 cases h
set_option maxHeartbeats 8000000
def uO(ws:Zai):Option (Int×List Int):=if ws.length=3 then (nmV (wdx ws 1)).bind fun v=>(kP (wdx ws 2)).map fun b=>(v,b) else none
def ahead(T:Option Nat)(k:Nat):List Int:=match T with
 | none=>[]
 | some c=>if c<k then [(c:Int)] else []
abbrev SB8(w:World)(base:Nat)(v:Value)(l:LIz):Prop:=w.ownsRow base 5 1 v l.length (l.flatMap oV)
variable {ops:Array Oper}{o:Oper}{a:Act}{Q:Zan}
theorem Yx(w:World){rest:List Oper}(hgd:o.guard=none)(sl x:Operand)(ho:o.op=Op.call { callee:=Callee.builtin Builtin.append,args:=#[sl,x],argTypes:=#[63,63] })(base:Nat)(v:Value)(xs:LIz)(s:Int)(b:Nat)
  (hs:a.eval sl=v) (hown:SB8 w base v xs) (hx:a.eval x=ZL b 1 1) (hc:w.cell? (ZA b 0)=some (ZU s)) (hb:xs.length<=1099511627776) (hbase:base<=w.heap.size)
  (h:∀(v':Value)(w':World),SB8 w' base v' (xs++[s])->w.grownBy w' v.ownBlock->wpList prog ops Q rest (a.put o.dst v') w'):wpList prog ops Q (o::rest) a w:=by
 obtain⟨i0,hi,hz0,hz1,hz2⟩:=Z0 UX;refine wpList_append_own w hgd sl x 63 ho base 5 i0 (ZU 0) 1 1 underlying63 hi hz0 hz1 hz2 rfl au v xs.length _ hs hown (ZA b 0) 1 1 [ZU s] hx rfl ?_ ?_ aP ae hbase ?_
 ·exact zE
 ·exact zY
 intro v' w' ho' hg _;refine h v' w' ?_ hg;unfold SB8;rw[ZV,List.flatMap_append];exact ho'
variable {x:BAz}{q:Nat}
theorem VI{l:Zaj}{a b:UInt8}{T:Option Nat}(hl:x.data.toList=l)(ha:l[2*k]? =some a)(hb:l[2*k+1]? =some b)(hT:uz a b=T)(hq:q<256) :
  ((Aj (q:Int)).toList==(x.extract (2*k) (2*k+2)).toList)=decide (T=some q):=by
 have e:(x.extract (2*k) (2*k+2)).data.toList=[a,b]:=by
  rw[ext_list,hl,show 2*k+2-2*k=2 by omega];obtain⟨h1,h1'⟩:=List.getElem?_eq_some_iff.1 ha;obtain⟨h2,h2'⟩:=List.getElem?_eq_some_iff.1 hb;rw[List.drop_eq_getElem_cons h1,List.drop_eq_getElem_cons h2,h1',h2'];rfl
 rw[bq,bq,e,<- hT];have h:=Qv (a:=a) (b:=b) hq
 by_cases h3:(Aj (q:Int)).data.toList=[a,b]
 ·rw[decide_eq_true (h.1 h3),h3]
  simp
 rw[decide_eq_false (fun x=>h3 (h.2 x))]
 simpa using h3
variable {W w':World}{X n:Nat}{cs:AVz}{u:Value}{xs:Zah}
theorem JF(h:W.heap[X]? =some (.cells cs 81))(hu:W.ownsRow base 5 1 u n xs)(hg:W.grownBy w' u.ownBlock):w'.heap[X]? =some (.cells cs 81):=by
 exact GH
variable {w:World}{e:Nat}
theorem tq{v:Value}(h:w.ownsRow base e k v n xs):∃a m c,v=.slice a m c:=by
 rcases h.2 with ⟨rfl,_⟩ | ⟨g,cap,cur,rfl,_⟩
 ·exact⟨_,_,_,rfl⟩
 exact⟨_,_,_,rfl⟩
theorem tI{c:Nat}(h:c<256):ahead (some c) 256=[(c:Int)]:=by
 unfold ahead;exact if_pos h
theorem iH{v:Value}(h:w.ownsRow base e k v n xs):∃a c,v=.slice a n c:=by
 rcases h.2 with ⟨rfl,rfl⟩ | ⟨g,cap,cur,rfl,_⟩
 ·exact⟨_,_,rfl⟩
 exact⟨_,_,rfl⟩
variable {D:LIz}
theorem Oy{l:Zaj}{a b:UInt8}(h:fD (l.take (2*k))=some D)(ha:l[2*k]? =some a)(hb:l[2*k+1]? =some b)(hT:uz a b=none):fD l=none:=by
 refine xO h ha hb (fun hd=>?_);unfold uz at hT;rw[if_pos hd]at hT
 cases hT
theorem A8{l:Zaj}{k c:Nat}{a b:UInt8}(h:fD (l.take (2*k))=some D)(ha:l[2*k]? =some a)(hb:l[2*k+1]? =some b)(hT:uz a b=some c):fD (l.take (2*(k+1)))=some (D++ahead (some c) 256):=by
 have hc:=Ik hT;unfold uz at hT
 split at hT
 ·rename_i hd
  rw[Ax h ha hb hd.1 hd.2];have:=i9 hT;rw[tI hc,<- this];have e:(((eH (a.toNat:Int)*16+eH (b.toNat:Int)).toNat:Nat):Int)=eH (a.toNat:Int)*16+eH (b.toNat:Int):=ae;rw[e]
 cases hT
theorem TS{c:Nat}{a b:UInt8}(hT:uz a b=some c):ahead (some c) 256≠[]:=by
 rw[tI (Ik hT)];simp
theorem Dq(b off c:Nat)(x0 x1 x2:BAz)(w:World)(h:RF base R m pt w)(hps:psz (pl m)<=2097152)(c1:w.cell? (ZA b (off+1))=some (.string x1))(c2:w.cell? (ZA b (off+2))=some (.string x2))(hs:x2.size<=2097152)(hev:x2.size%2=0) :
  Zw 125 #[ZP R 0,.slice (some (ZA b off)) 3 c] w (LnF base R w ((uO [x0,x1,x2]).map fun x=>(pt,{ pl m with data:=(pl m).data++[x] }))):=by
 have hne:((x2.size:Int)%2 != 0)=false:=aA;obtain⟨i0,hi,hz0,hz1,hz2⟩:=Z0 UE
 have hn:m.dn<=2097152:=by
  exact EM
 have HN:=hid (tF x1);have HQ:=hid h;have C2:=hid (fun(W:World) (hW:Zx w W)=>(hW.cell (ZQ c2)).trans c2);obtain⟨l,hl⟩:∃l,x2.data.toList=l:=⟨_,rfl⟩
 have hL:l.length=x2.size:=by rw[<- hl]; exact Zab
 have HL:=hid hl;clear h hl;go_enter func125,ntmps125
 go_wp2_with fail;refine(HN.out _).mono ?_;rintro e w1⟨hb,v,bb,rfl,hy,hn⟩;obtain⟨SO,HY,HNN⟩:=ZH hb hy hn;clear hb hy hn c1 c2 HN;have BX:=Zy SO (aj w1 (bo v none 0 0));have AT:=hid (hZn w1 (bo v none 0 0));have Is:=hid (show w.heap.size<=w1.heap.size from SO.out.size);have gk:=hid HQ.out.bw;generalize hX:w1.heap.size=X at *;have hbase:base<=w.heap.size:=HQ.out.bw;go_wp2_with fail;clear hX
 go_loopw [6,8] (fun o i wr=>∃(j k:Nat)(B:Bool)(D:LIz)(dv:Value),o=.bool B/\i=ZI (j:Int)/\j<=x2.size/\Hid (j=2*k)/\Hid (wr.heap[X]? =some (.cells #[ZI v,dv] 81))/\Hid (SB8 wr w.heap.size dv D)/\Hid (Zx w wr)/\Hid (X<wr.heap.size)/\Hid (D.length<=2097152)/\Hid (B=true->bb=true/\fD (l.take (2*k))=some D)/\Hid (B=false->bb=true->fD l=none)) (fun o i wr=>x2.size+1-(intOf i).toNat)
 case atStart=>exact⟨0,0,bb,[],ZN,rfl,rfl,ae,hid rfl,AT,hid (Z7 _ _ _ _),BX,hid (aK AT.out),hid av,hid (fun h=>⟨h,rfl⟩),hid (fun h1 h2=>by rw[h1]at h2; cases h2)⟩
 case round =>
  obtain⟨j,k,B,D,dv,rfl,rfl,hk,HJ,HXX,HS,HB,HLT,HDL,HYES,HNO⟩:=hrel;have cw:=C2.out wr HB.out;have It:(0:Int)<=(j:Int):=ae;have hk0':(0:Int)<=(j:Int):=It
  go_upto_region 6 with fail
  go_cut [39] from 31 to 64 (fun v wx=>v=.bool (decide (j<x2.size)&&B)/\wx=wr)
  case first =>
   by_cases hlt:j<x2.size
   ·have hlt':(j:Int)<(x2.size:Int):=ae;have hd:=decide_eq_true hlt
    cases B
    ·exact wF
    exact wF
   have hlt':¬(j:Int)<(x2.size:Int):=ae;have hd:=decide_eq_false hlt;exact wF
  case rest =>
   obtain⟨rfl,hwc⟩:=hcut;subst hwc;have hcw:=cw
   by_cases hgo:(decide (j<x2.size)&&B)=true
   ·rw[hgo]
    obtain⟨hlt,rfl⟩:j<x2.size/\B=true:=by simpa using hgo
    have hlt':(j:Int)<(x2.size:Int):=ae;clear hgo;obtain⟨hbb,qao⟩:=HYES.out rfl;have HBT:=hid hbb;clear hbb;have HO:=hid qao;clear qao;have h1l:2*k<l.length:=vd;have h2l:2*k+1<l.length:=vd;obtain⟨j2,hj2⟩:∃j2,j2=j+2:=⟨_,rfl⟩;have HJ2:=hid hj2;obtain⟨a0,ha⟩:=ZB l (2*k) h1l;obtain⟨b0,hb0⟩:=ZB l (2*k+1) h2l;obtain⟨HA,HBB⟩:=Zz ha hb0;obtain⟨T,hT⟩:∃T,uz a0 b0=T:=⟨_,rfl⟩;have HT:=hid hT;have HTT:=hid (fun(q:Nat) (hq:q<256)=>(show((Aj (q:Int)).toList==(x2.extract j j2).toList)=decide (T=some q) from by rw[HJ2.out,HJ.out]; exact VI HL.out HA.out HBB.out HT.out hq));clear ha hb0 hT
    have hw2:IntKind.i64.wrap ((j:Int)+2)=(j2:Int):=by rw[IntWalk.i64_in _ ae]; omega
    have hsl':(j:Int)<=(j2:Int):=ae;have hsl2':(j2:Int)<=(x2.size:Int):=vd;have hsl0:(0:Int)<=(j2:Int):=ae;clear hj2;go_wp2_with fail;have HI39:=hid (fun(q:Nat)(hq:q<256) (W:World)=>Yu (q:Int) ae ae W)
    have A0:ahead T 0=[]:=by unfold ahead; cases T <;> rfl
    go_loopw [9,10] (fun f c wr=>∃(q:Nat)(F:Bool)(dv2:Value),c=ZI q/\f=.bool F/\q<=256/\Hid (F=decide (ahead T q≠[]))/\Hid (wr.heap[X]? =some (.cells #[ZI v,dv2] 81))/\Hid (SB8 wr w.heap.size dv2 (D++ahead T q))/\Hid (Zx w wr)) (fun f c wr=>257-(intOf c).toNat)
    case atStart=>exact⟨0,false,dv,rfl,rfl,ae,hid (by rw[A0]; rfl),HXX,hid (by rw[A0,List.append_nil]; exact HS.out),HB⟩
    case round =>
     obtain⟨q,F,dv2,rfl,rfl,hq,HF,HXX2,HS2,P2⟩:=hrel
     by_cases hq6:q<256
     ·have hq6':(q:Int)<256:=ae
      have hw8:IntKind.u8.wrap (q:Int)=q:=by rw[IntKind.wrap_u8]; omega
      have hwi:IntKind.i64.wrap ((q:Int)+1)=q+1:=IntWalk.i64_in _ ae;have cw2:=C2.out wr P2.out;have HQ6:=hid hq6
      go_upto_region 12 with fail
      go_cut [56] from 42 to 63 (fun v56 wx=>v56=.bool (decide (T=some q))/\Hid (Zx wr wx))
      case first =>
       refine ZX (S:=fun W=>W.cell? (ZA b (off+2))=some (.string x2)) ak cw2 (fun hHeld=>?_)
       refine tkD (i:=0) (d:=some 46) rfl ?_;(try go_frame);refine tkD (i:=1) (d:=some 47) rfl ?_;(try go_frame);refine tkD (i:=3) (d:=some 49) rfl ?_;(try go_frame);refine tkD (i:=4) (d:=some 50) rfl ?_;(try go_frame);refine tkD (i:=6) (d:=some 52) rfl ?_;(try go_frame);refine tkD (i:=7) (d:=some 53) rfl ?_;(try go_frame);refine tkD (i:=8) (d:=some 54) rfl ?_;(try go_frame);refine Zu 2 5 (fun K hK=>?_) fun K hK=>?_
       ·go_simp;refine(HI39.out q HQ6.out _).mono ?_;rintro e w5⟨rfl,AI⟩;have de:=hid ((ZT wr.heap.size wr).drew.trans AI);have hH2:=(AI.cell (ZQ hHeld)).trans hHeld
        refine Zv hK ?_ hH2;clear hK K AI;refine ZR 5 fun K hK=>?_;go_simp;refine hK.out _ _ hH2 (fun _=>?_)
        clear hK K;refine tkD (i:=9) (d:=some 55) rfl ?_;(try go_frame);exact EB
       go_simp;refine hK.out _ _ hHeld (fun _=>?_)
       clear hK K;refine tkD (i:=9) (d:=some 55) rfl ?_;(try go_frame);refine ZR 2 fun K hK=>?_;go_simp;refine(HI39.out q HQ6.out _).mono ?_;rintro e w5⟨rfl,AI⟩;have de:=hid ((ZT wr.heap.size wr).drew.trans AI);have hH2:=(AI.cell (ZQ hHeld)).trans hHeld;refine Zv hK ?_ hH2;clear hK K AI;exact EB
      case rest =>
       obtain⟨rfl,qn⟩:=hcut;have HX3:=hid (ar qn.out HXX2.out);have HS3:=hid (bE HS2.out qn.out);have cq:=hid (P2.out.trans (qn.out.mono P2.out.size))
       by_cases hTq:T=some q
       ·have ha0:ahead T q=[]:=by unfold ahead; rw[hTq]; simp
        have ha1:ahead T (q+1)=[(q:Int)]:=by unfold ahead; rw[hTq]; simp
        obtain⟨da,dn,dc,rfl⟩:=tq HS3.out;have hs3:=HS3.out;rw[ha0,List.append_nil]at hs3;obtain⟨HS4,HA1⟩:=Zz hs3 ha1;have x1:=iz1 HX3.out;have hdl:D.length<=2097152:=HDL.out;have lp:base<=wc.heap.size:=ZW hbase cq.out.size;rw[decide_eq_true hTq];clear hs3 ha0 ha1 hTq;have hz3:=cq.out.size
        go_wp2_with (at_builtin; (refine Yx _ rfl (.tmp 58) (.tmp 61) rfl w.heap.size _ D (q:Int) wc.heap.size rfl (HS4.out.alloc _) rfl av ae aA ?_; intro v5 w5 As hg5; have j7:=hid (JF (ar (aj wc _) HX3.out) (HS4.out.alloc _) hg5); have de:=hid ((cq.out.alloc cq.out.size _).trans (jN (HS4.out.alloc _) hg5 aA)); obtain⟨ea,en,ec,rfl⟩:=tq As; have HS5:=hid As; have x5:=ag (i:=1) j7.out; have f5:=free_at (i:=1) j7.out; clear As hg5))
        go_roundw
        case rel =>
         have kS:=aB w5 X 1 (.slice ea en ec);refine⟨q+1,true,.slice ea en ec,bu,rfl,ae,hid (by rw[HA1.out]; rfl),hid (by rw[aT j7.out]; rfl),hid ?_,hid (de.out.trans (kS.to_below de.out.size (fun k hk e=>by have e:k=X:=e; have:=Is.out; omega)))⟩;rw[HA1.out];exact kQ HS5.out kS j7.out au
        case measure=>simp[intOf]; omega
       have hF:ahead T (q+1)=ahead T q:=by
        unfold ahead
        cases T with
        | none=>rfl
        | some c0 =>
         have:c0≠q:=fun e=>hTq (by rw[e])
         by_cases h1:c0<q
         ·simp[h1,Nat.lt_succ_of_lt h1]
         simp[h1,show ¬c0<q+1 by omega]
       rw[decide_eq_false hTq];have HA1:=hid hF;clear hTq hF;go_wp2_with fail
       go_roundw
       case rel=>exact⟨q+1,F,dv2,bu,rfl,ae,hid (by rw[HA1.out]; exact HF.out),HX3,hid (by rw[HA1.out]; exact HS3.out),cq⟩
       case measure=>simp[intOf]; omega
     obtain rfl:q=256:=ae;have HF2:=HF;go_wp2_with fail
     go_roundw
     case rel =>
      have HL2:=HL.out
      have hdl:(D++ahead T 256).length<=2097152:=by
       cases hTc:T with
       | none=>have:=HDL.out; unfold ahead; simpa using this
       | some c0 =>
        have h5:=lF _ _ (A8 HO.out HA.out HBB.out (by rw[HT.out,hTc]));rw[List.length_take]at h5;omega
      have hF5:F=true->T≠none:=fun h5 h6=>by
       have h7:=HF2.out;rw[h6]at h7;rw[h5]at h7;simp[ahead]at h7
      have hF6:F=false->T=none:=fun h5=>by
       cases hTc:T with
       | none=>rfl
       | some c0 =>
        have h7:=HF2.out;rw[hTc,h5]at h7;exact absurd h7.symm (by simpa using TS (by rw[HT.out,hTc]))
      refine⟨j2,k+1,F,D++ahead T 256,dv2,rfl,rfl,ae,hid (by have:=HJ.out; have:=HJ2.out; omega),HXX2,HS2,P2,hid (aK HXX2.out),hid hdl,hid (fun h5=>⟨HBT.out,?_⟩),hid (fun h5 _=>Oy HO.out HA.out HBB.out (by rw[HT.out]; exact hF6 h5))⟩
      cases hTc:T with
      | none=>exact absurd hTc (hF5 h5)
      | some c0=>exact A8 HO.out HA.out HBB.out (by rw[HT.out,hTc])
     case measure=>simp[intOf]; have:=HJ2.out; omega
   have hg0:(decide (j<x2.size)&&B)=false:=by simpa using hgo
   rw[hg0]
   have hres:uO [x0,x1,x2]=if B=true then some (v,D) else none:=by
    unfold uO;rw[if_pos (show [x0,x1,x2].length=3 from rfl)];show(nmV x1).bind (fun v=>(kP x2).map fun b=>(v,b))=_
    have hov:kP x2=fD l:=by unfold kP; rw[HL.out]
    rw[hov]
    cases B with
    | true =>
     obtain⟨hbb,qao⟩:=HYES.out rfl
     have hj:j=x2.size:=by
      have:¬j<x2.size:=by simpa using hg0
      omega
     have ht:l.take (2*k)=l:=ZY vd;rw[ht]at qao;rw[HY.out hbb,qao];rfl
    | false =>
     cases hx:nmV x1 with
     | none=>rfl
     | some v' =>
      have hbt:=(HNN.out v' hx).2;rw[HNO.out rfl hbt];rfl
   have hres:=hid hres;obtain⟨da,dc,rfl⟩:=iH HS.out;have AT:=HXX;have Q1:=hid (HQ.out.later HB.out);have KX:=hid (KR.later (base:=base) (R:=R) HB.out);have HXO:=hid (si HS.out hbase);clear hgo hg0 cw hcw HYES HNO HXX HS HLT HJ HDL It hk0' hk
   go_upto_region 16 with fail
   generalize wc=w9 at *;have B1:=hid ((ZT w9.heap.size w9).drew);refine ZX (S:=fun _=>True) ak trivial (fun _=>?_)
   generalize w9.drew=wd at *;refine tkQ (i:=0) rfl ?_;(try go_frame);refine tkQ (i:=1) rfl ?_;(try go_frame);refine tkQ (i:=2) rfl ?_;(try go_frame);refine tkQ (i:=3) rfl ?_;(try go_frame);refine tkQ (i:=4) rfl ?_;(try go_frame);refine Zu 5 6 (fun K hK=>?_) fun K hK=>?_
   ·have cH:wd.cell? (ZA R 6)=some (.slice m.da m.dn m.dc):=(Q1.out.later B1.out).cells 6;go_simp
    refine Zv hK ?_;clear hK K;refine ZR 6 fun K hK=>?_;have y0:=iz0 (ar B1.out AT.out);have y1:=iz1 (ar B1.out AT.out);exact M9
   have y0:=iz0 (ar B1.out AT.out);have y1:=iz1 (ar B1.out AT.out);go_simp;refine Zv hK ?_;clear hK K;refine Zu 5 7 (fun K hK=>?_) fun K hK=>?_
   ·have cH:wd.cell? (ZA R 6)=some (.slice m.da m.dn m.dc):=(Q1.out.later B1.out).cells 6;exact M9
   go_simp;have BN:=Zy B1 (aj wd (bo v da D.length dc));refine Zv hK ?_;clear hK K;refine ZR 5 fun K hK=>?_;have cH:(wd.alloc (bo v da D.length dc)).cell? (ZA R 6)=some (.slice m.da m.dn m.dc):=(Q1.out.later BN.out).cells 6;go_simp;refine Zv hK ?_;clear hK K;refine ZR 8 fun K hK=>?_;refine wp_append_lies _ (.tmp 70) (.tmp 72) 26 rfl base 81 i0 (.agg #[ZI 0,ZN]) 2 32 underlying26 hi hz0 hz1 hz2 rfl au (.slice m.da m.dn m.dc) m.dn (m.data.flatMap iD) rfl (Q1.out.later BN.out).rd (ZA wd.heap.size 0) 1 1 (iD ((v,(da,D.length,dc),D):DaM)) rfl rfl ?n1 ?n2 au aP ae (Q1.out.later BN.out).bw _ rfl ?_
   case n1 =>
    exact EY
   case n2=>intro u hu; simp[iD]at hu; rcases hu with rfl | rfl <;> rfl
   intro g cap w6 Ft BE _ _;have PX:=hid ((Q1.out).pushD BN.out ((v,(da,D.length,dc),D):DaM) HXO.out Ft BE);have z6:=hid (bF ((Q1.out.later BN.out).blk) (Q1.out).low ((Q1.out.later BN.out).rd) BE);clear Ft BE;refine hK.out _ _ trivial (fun _=>?_)
   clear hK K;refine tkQ (i:=9) rfl ?_;(try go_frame);refine tkQ (i:=10) rfl ?_;(try go_frame);refine tkQ (i:=11) rfl ?_;(try go_frame);refine ZR 12 fun K hK=>?_;have c16:=iz6 z6.out;have f16:=free_at (i:=6) z6.out;go_simp;refine Zv hK ?_;clear hK K;refine Z4 ak ?_ _;go_wp2_with fail;go_ret;rw[hres.out];refine⟨KX.out.trans PX.out.2,?_⟩
   cases B
   ·rfl
   exact⟨rfl,_,PX.out.1,by unfold pl; simp[plD]⟩
theorem Py(a:OAz)(n c:Nat)(ws:Zai)(w:World)(h:RF base R m pt w)(hw:AtS w a n ws)(hps:psz (pl m)<=2097152)(hz:∀x∈ws,x.size<=2097152) :
  Zw 125 #[ZP R 0,.slice a n c] w (LnF base R w ((uO ws).map fun x=>(pt,{ pl m with data:=(pl m).data++[x] }))):=by
 by_cases h3:n=3
 rotate_left
 ·have e:uO ws=none:=by unfold uO; rw[if_neg (fun x=>h3 (by rw[<- hw.1]; exact x))]
  have be:((n:Int) != 3)=true:=aA;rw[e];clear hw h;exact Ij
 subst h3;obtain⟨hl,-,hcs⟩:=hw
 rcases hcs with h0 | ⟨b,off,rfl,hc⟩
 ·cases h0
 match ws,hl with
 | [x0,x1,x2],_ =>
  have c1:=hc 1 x1 rfl;have c2:=hc 2 x2 rfl;have hs2:=hz x2 av
  by_cases hev:x2.size%2=0
  ·exact Dq b off c x0 x1 x2 w h hps c1 c2 hs2 hev
  have hne:((x2.size:Int)%2 != 0)=true:=aA
  have e:uO [x0,x1,x2]=none:=by
   unfold uO;rw[if_pos (show [x0,x1,x2].length=3 from rfl)];show(nmV x1).bind (fun v=>(kP x2).map fun b=>(v,b))=_
   have:kP x2=none:=by
    unfold kP
    cases ho:fD x2.data.toList with
    | none=>rfl
    | some r =>
     have h5:=lF _ _ ho;have h6:x2.data.toList.length=x2.size:=Zab;omega
   rw[this]
   cases nmV x1 <;> rfl
  rw[e];clear h hc c1;exact Ij
end
end Go.Proofs.YtheefojaplnnoaaGreatDoor
