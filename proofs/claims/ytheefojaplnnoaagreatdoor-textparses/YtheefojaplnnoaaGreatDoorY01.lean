/-
  Texts TPure Mo Grow Wr Wm Wi Ws Wt Gen Pb Bd.
-/
import Derived.Test.YtheefojaplnnoaaGreatDoorY00
set_option linter.unusedVariables false
set_option maxRecDepth 100000
set_option maxHeartbeats 16000000
namespace Go.Proofs.YtheefojaplnnoaaGreatDoor
open Go.Proofs.Tryz
open Go.RowKit
abbrev eG:List UInt8:=[32,45,62,32]
def xL(s:BAz):ByteArray:=⟨(Lib.cut s.data.toList eG).1.toArray⟩
def xh(s:BAz):ByteArray:=⟨(Lib.cut s.data.toList eG).2.1.toArray⟩
def PI(s:BAz):Bool:=(Lib.cut s.data.toList eG).2.2
def rdB(s:BAz):Bool:=PI s&&rsB (xL s)&&rsB (xh s)
def rdP(s:BAz):ByteArray:=if rdB s=true then rsV (xL s) else ⟨#[]⟩
def rdR(s:BAz):ByteArray:=if rdB s=true then rsV (xh s) else ⟨#[]⟩
def rdE(s:BAz):Int:=if rdB s=true then 0 else 15
variable {a b:BAz}
theorem eu(h:a.data.toList=b.data.toList):a=b:=by
 cases a; cases b; congr; exact Array.toList_inj.1 h
theorem cQ(a:BAz):a.size=a.data.toList.length:=Zab.symm
theorem bq(a:BAz):a.toList=a.data.toList:=ByteArray.toList_eq a
theorem uX(a b:BAz):(a++b).data.toList=a.data.toList++b.data.toList:=by simp[ByteArray.data_append]
theorem jT(s:BAz)(most:Nat):bY s most=true↔(∀c∈s.data.toList,c=119\/c=108)/\s.size<=most:=by
 rw[pT]
 constructor
 ·intro ⟨h,hm⟩
  refine⟨fun c hc=>?_,hm⟩;obtain⟨i,hi,rfl⟩:=List.getElem_of_mem hc;have:=h i (by rw[cQ]; exact hi);rw[fR,aD hi,Option.getD_some]at this;simp only[isL,Bool.or_eq_true,decide_eq_true_eq]at this
  rcases this with h | h
  ·left; apply UInt8.toNat_inj.1; exact Int.ofNat_inj.1 h
  right; apply UInt8.toNat_inj.1; exact Int.ofNat_inj.1 h
 intro ⟨h,hm⟩;refine⟨fun i hi=>?_,hm⟩;rw[cQ]at hi;rw[fR,aD hi,Option.getD_some]
 rcases h _ (List.getElem_mem hi) with h | h <;> rw[h] <;> rfl
theorem Ky(s:BAz):(xL s).size<=s.size/\(xh s).size<=s.size:=by
 rw[cQ,cQ,cQ];show(Lib.cut s.data.toList eG).1.length<=_/\(Lib.cut s.data.toList eG).2.1.length<=_;unfold Lib.cut
 split
 ·simp only[List.length_take,List.length_drop]; omega
 simp
theorem gS(p:BAz):(b9 p).data.toList=if p.data.toList=[] then [45] else p.data.toList:=by
 unfold b9;rw[bq]
 by_cases h:p.data.toList=[]
 ·simp[h]
 rw[if_neg h,if_neg lY]
theorem oQ(p r:BAz):(eB p r).data.toList=(b9 p).data.toList++(eG++(b9 r).data.toList):=by
 unfold eB;rw[uX,uX,Z2]
variable {p:BAz}
theorem Jz(h:bY p 8=true):∀c∈(b9 p).data.toList,c≠32:=by
 intro c hc;rw[gS]at hc
 split at hc
 ·simp at hc; subst hc; decide
 rcases ((jT p 8).1 h).1 c hc with rfl | rfl <;> decide
theorem VY(l r:Zaj)(h:∀c∈l,c≠32):Lib.cut (l++(eG++r)) eG=(l,r,true):=by
 have hi:Lib.index (l++(eG++r)) eG=(l.length:Int):=by
  refine Lib.index_first av ?_ ?_
  ·simp[Lib.occAt]
  intro j hj
  cases ho:Lib.occAt (l++(eG++r)) eG j
  ·rfl
  have:=Lib.occAt_head (c:=32) (t:=[45,62,32]) rfl ho;rw[Zaa hj,aD hj]at this;exact absurd (i9 this) (h _ (List.getElem_mem hj))
 unfold Lib.cut;rw[hi,if_pos ae];simp
variable {r:BAz}
theorem O0(h:bY p 8=true):xL (eB p r)=b9 p/\xh (eB p r)=b9 r/\PI (eB p r)=true:=by
 have:=VY (b9 p).data.toList (b9 r).data.toList (Jz h);rw[<- oQ]at this;refine⟨eu ?_,eu ?_,?_⟩
 ·show(Lib.cut _ _).1=_; rw[this]
 ·show(Lib.cut _ _).2.1=_; rw[this]
 show(Lib.cut _ _).2.2=_; rw[this]
theorem xA(h:bY p 8=true):rsB (b9 p)=true/\rsV (b9 p)=p:=by
 have hm:=((jT p 8).1 h).1;unfold rsB rsV;rw[bq,gS]
 by_cases h0:p.data.toList=[]
 ·rw[if_pos h0];refine⟨av,?_⟩
  simp only[List.isEmpty_cons];exact eu (by simp[h0])
 rw[if_neg h0];have hs:b9 p=p:=eu (by rw[gS,if_neg h0]);have h1:p.data.toList.isEmpty=false:=iJ
 have h2:(p.data.toList==[45])=false:=by
  rw[beq_eq_false_iff_ne];intro e;have:=hm 45 (by rw[e]; simp)
  revert this; decide
 rw[h1,h2,hs];exact⟨lY,av⟩
theorem QV(h:l9 p r=true):rdB (eB p r)=true/\rdP (eB p r)=p/\rdR (eB p r)=r/\rdE (eB p r)=0:=by
 simp only[l9,Bool.and_eq_true]at h;obtain⟨c1,c2,c3⟩:=O0 (r:=r) h.1;obtain⟨p1,p2⟩:=xA h.1;obtain⟨r1,r2⟩:=xA h.2
 have hb:rdB (eB p r)=true:=by simp[rdB,c1,c2,c3,p1,r1]
 refine⟨hb,?_,?_,?_⟩
 ·rw[rdP,if_pos hb,c1,p2]
 ·rw[rdR,if_pos hb,c2,r2]
 rw[rdE,if_pos hb]
variable {l:BAz}
theorem Ie(h:rsB l=true):bY (rsV l) 8=true/\b9 (rsV l)=l:=by
 unfold rsB at h;unfold rsV;rw[bq]at h ⊢
 cases h0:l.data.toList.isEmpty
 ·rw[h0]at h
  cases h1:(l.data.toList==[45])
  ·rw[h1]at h
   simp at h ⊢;refine⟨h,eu ?_⟩;rw[gS,if_neg iJ]
  simp;refine⟨by rfl,eu ?_⟩;rw[gS,if_pos rfl]
  simpa using (beq_iff_eq.1 h1).symm
 rw[h0]at h; simp at h
variable {s:BAz}
theorem LY(h:PI s=true):s.data.toList=(xL s).data.toList++(eG++(xh s).data.toList):=by
 show _=(Lib.cut s.data.toList eG).1++(eG++(Lib.cut s.data.toList eG).2.1);have h':(Lib.cut s.data.toList eG).2.2=true:=h;unfold Lib.cut at h' ⊢
 rcases Lib.index_spec s.data.toList eG with ⟨e,_⟩ | ⟨i,e,hi,ho,_⟩
 ·rw[e]at h'; simp at h'
 rw[e,if_pos ae];simp only[Int.toNat_natCast];have hp:eG <+: s.data.toList.drop i:=List.isPrefixOf_iff_prefix.1 ho;obtain⟨t,ht⟩:=hp
 have hd:s.data.toList.drop (i+eG.length)=t:=by
  rw[<- List.drop_drop,<- ht]; simp
 rw[hd,ht,List.take_append_drop]
theorem Hi(h:rdB s=true):l9 (rdP s) (rdR s)=true/\eB (rdP s) (rdR s)=s:=by
 have h':=h;simp only[rdB,Bool.and_eq_true]at h';obtain⟨⟨h1,h2⟩,h3⟩:=h';obtain⟨l1,l2⟩:=Ie h2;obtain⟨r1,r2⟩:=Ie h3;rw[rdP,rdR,if_pos h,if_pos h];refine⟨by simp[l9,l1,r1],eu ?_⟩;rw[oQ,l2,r2,<- LY h1]
def uS(s:BAz):ByteArray:=if (s.toList==[45])=true then ⟨#[]⟩ else s
def lH(s:BAz)(i:Nat):ByteArray:=uS (s.extract 0 i)
def jU(s:BAz)(k:Nat):ByteArray:=if k<=s.size then uS (s.extract (s.size-k) s.size) else ⟨#[]⟩
def hit(s:BAz)(i k:Nat):Bool:=l9 (lH s i) (jU s k)&&((eB (lH s i) (jU s k)).toList==s.toList)
theorem ext_list(s:BAz)(i j:Nat):(s.extract i j).data.toList=(s.data.toList.drop i).take (j-i):=by
 rw[ByteArray.data_extract,Array.toList_extract,List.extract_eq_take_drop]
theorem rL(h:bY p 8=true):uS (b9 p)=p:=by
 have:=(xA h).2
 have hne:(b9 p).toList.isEmpty=false:=by
  rw[bq,gS]
  split
  ·rfl
  simpa using ‹¬p.data.toList=[]›
 unfold rsV at this;rw[hne]at this;exact this
theorem vN(h:bY p 8=true):1<=(b9 p).size/\(b9 p).size<=8:=by
 have hm:=((jT p 8).1 h).2;rw[cQ,gS]
 split
 ·simp
 rw[cQ]at hm;have:=List.length_pos_iff.2 ‹¬p.data.toList=[]›;omega
variable {i k:Nat}
theorem wU(h:hit s i k=true):rdP s=lH s i/\rdR s=jU s k/\rdE s=0:=by
 simp only[hit,Bool.and_eq_true]at h;have e:eB (lH s i) (jU s k)=s:=eu (by have:=beq_iff_eq.1 h.2; rw[bq,bq]at this; exact this);have:=QV h.1;rw[e]at this;exact this.2
theorem VN(h:rdB s=true):∃i k,i<s.size/\i<=8/\k<=8/\hit s i k=true:=by
 obtain⟨hs,hw⟩:=Hi h;generalize rdP s=p at hs hw;generalize rdR s=r at hs hw;have hs':=hs;simp only[l9,Bool.and_eq_true]at hs';have hl:=oQ p r;rw[hw]at hl;have zp:=vN hs'.1;have zr:=vN hs'.2
 have hz:s.size=(b9 p).size+4+(b9 r).size:=by
  rw[cQ,hl];simp only[ZV,<- cQ];simp; omega
 have cp:lH s (b9 p).size=p:=by
  have:s.extract 0 (b9 p).size=b9 p:=eu (by
   rw[ext_list,hl,cQ (b9 p)]; simp)
  rw[lH,this,rL hs'.1]
 have cr:jU s (b9 r).size=r:=by
  have:s.extract (s.size-(b9 r).size) s.size=b9 r:=eu (by
   have e:s.size-(b9 r).size=((b9 p).data.toList++eG).length:=by
    rw[ZV,<- cQ]; simp; omega
   rw[ext_list,e,hl,<- Z2,List.drop_append_of_le_length lRn,List.drop_length,List.nil_append];apply ZY
   rw[<- e,<- cQ]; omega)
  rw[jU,if_pos ae,this,rL hs'.2]
 refine⟨(b9 p).size,(b9 r).size,ae,zp.2,zr.2,?_⟩;rw[hit,cp,cr,hs,hw]; simp
theorem QG(h:∀i k,i<s.size->i<=8->k<=8->hit s i k=false):rdP s=⟨#[]⟩/\rdR s=⟨#[]⟩/\rdE s=15:=by
 cases hb:rdB s
 ·simp[rdP,rdR,rdE,hb]
 obtain⟨i,k,h1,h2,h3,h4⟩:=VN hb;rw[h i k h1 h2 h3]at h4; cases h4
def bj{α:Type}(f:List α->α->Int):List α->List α->Int
 | _,[]=>0
 | ah,x::r=>if f ah x≠0 then f ah x else bj f (ah++[x]) r
def orE(a b:Int):Int:=if a≠0 then a else b
def bG{α:Type}(f:List α->α->Int)(most:Int)(xs:List α):Int:=if most<xs.length then 20 else bj f [] xs
abbrev Sg:=ByteArray×ByteArray
abbrev Gl:=Int×Bool×Int
abbrev Ex:=ByteArray×Int
def ia(ah:List Sg)(x:Sg):Bool:=ah.any fun y=>(y.1.toList==x.1.toList)&&(y.2.toList==x.2.toList)
def cV(ah:List Sg)(x:Sg):Int :=
 if 8<x.1.size then 13 else if bY x.1 8=false then 15 else if 8<x.2.size then 13 else if bY x.2 8=false then 15 else if ia ah x=true then 16 else 0
def cO(n x:Int):Int:=if x<0\/n<=x then 30 else 0
def fe(x:Gl):Int:=if isL x.1=false then 15 else if ib x.2.2 x.1=false then 17 else 0
def jK(least x:Int):Int:=if x<least\/64<x then 17 else 0
def gz(s:BAz):List Int:=aw s.size++bh s
def bP(x:Sg):List Int:=gz x.1++gz x.2
def sgn(c v:Int):Int:=if c=119 then (if v<4294967296 then (if v<2147483648 then v else v-4294967296) else 9223372036854775807) else if v<9223372036854775808 then v else v-18446744073709551616
def dE(x:Gl):List Int:=[x.1,if x.2.1 then 1 else 0]++aw (fo (sgn x.1 x.2.2))
theorem Cn(s:BAz):(gz s).length=(aw s.size).length+s.size:=by simp[gz,gm]
theorem ek(s:BAz)(n:Nat)(h:s.size<=n):1<=(gz s).length/\(gz s).length<=10+n:=by
 have:=ay s.size;rw[Cn]; omega
theorem iK(x:Sg)(h1:x.1.size<=8)(h2:x.2.size<=8):(bP x).length<=36:=by
 have a:=ek x.1 8 h1;have b:=ek x.2 8 h2;simp only[bP,ZV]; omega
theorem lq(x:Gl):(dE x).length<=12:=by
 have:=ay (fo (sgn x.1 x.2.2));simp only[dE,ZV,Z1,List.length_nil]; omega
theorem gg(s:BAz)(m n:Nat)(h:s.size<=m)(h':s.size<=n):bY s m=bY s n:=by
 cases hb:bY s n
 ·cases ha:bY s m
  ·rfl
  have:=((jT s m).1 ha).1;rw[(jT s n).2 ⟨this,h'⟩]at hb; cases hb
 exact(jT s m).2 ⟨((jT s n).1 hb).1,h⟩
theorem kK{α:Type}(f:List α->α->Int):∀(xs ah ys:List α),bj f ah (xs++ys)=orE (bj f ah xs) (bj f (ah++xs) ys)
 | [],ah,ys=>by simp[bj,orE]
 | x::xs,ah,ys=>by
  simp only[List.cons_append,bj]
  by_cases h:f ah x≠0
  ·simp[h,orE]
  simp only[h,if_false];rw[kK f xs (ah++[x]) ys];simp
theorem fV{α:Type}(f:List α->α->Int)(xs:List α)(j:Nat)(x:α)(hx:xs[j]? =some x)(h:bj f [] (xs.take j)=0)(hf:f (xs.take j) x=0):bj f [] (xs.take (j+1))=0:=by
 have hj:j<xs.length:=by
  exact Hm
 have:xs.take (j+1)=xs.take j++[x]:=by
  rw[List.take_succ_eq_append_getElem hj];rw[aD hj]at hx;simp at hx; rw[hx]
 rw[this,kK,h];simp[orE,bj,hf]
theorem fY{α:Type}(f:List α->α->Int)(xs:List α)(j:Nat)(x:α)(hx:xs[j]? =some x)(h:bj f [] (xs.take j)=0)(hf:f (xs.take j) x≠0):bj f [] xs=f (xs.take j) x:=by
 have hj:j<xs.length:=by
  exact Hm
 have:xs=xs.take j++x::xs.drop (j+1):=by
  conv=>lhs; rw[<- List.take_append_drop j xs,List.drop_eq_getElem_cons hj]
  rw[aD hj]at hx;simp at hx; rw[hx]
 rw[this,kK]
 have h0:(xs.take j++x::xs.drop (j+1)).take j=xs.take j:=by
  rw[List.take_append_of_le_length aA,List.take_take,Nat.min_self]
 rw[h,h0];simp[orE,bj,hf]
variable {x:Sg}
theorem eZ{ah:List Sg}(h:cV ah x=0):x.1.size<=8/\bY x.1 8=true/\x.2.size<=8/\bY x.2 8=true/\ia ah x=false:=by
 unfold cV at h
 split at h
 ·cases h
 split at h
 ·cases h
 split at h
 ·cases h
 split at h
 ·cases h
 split at h
 ·cases h
 refine⟨ae,by simp_all,ae,by simp_all,by simp_all⟩
theorem N0{ah:List Sg}(h:ia ah x=true):∃k y,ah[k]? =some y/\y.1.toList=x.1.toList/\y.2.toList=x.2.toList/\ia (ah.take k) x=false:=by
 induction ah with
 | nil=>simp[ia]at h
 | cons a r ih =>
  by_cases ha:a.1.toList=x.1.toList/\a.2.toList=x.2.toList
  ·exact⟨0,a,rfl,ha.1,ha.2,by simp[ia]⟩
  have hf:((a.1.toList==x.1.toList)&&(a.2.toList==x.2.toList))=false:=by
   cases hb:((a.1.toList==x.1.toList)&&(a.2.toList==x.2.toList))
   ·rfl
   simp at hb; exact absurd hb ha
  have hr:ia r x=true:=by simpa[ia,hf] using h
  obtain⟨k,y,h1,h2,h3,h4⟩:=ih hr;refine⟨k+1,y,mJ,h2,h3,?_⟩;simp only[ia,List.take_succ_cons,List.any_cons,hf,Bool.false_or];exact h4
def kU(s:BAz):Bool:=(bh s).all (fun b=>decide (33<=b)&&decide (b<=126))&&!s.toList.isEmpty
def sGt(s nm:BAz):Bool:=!Op.bytesLess s.toList nm.toList&&!s.toList==nm.toList
def gP(ah:List Ex)(s:BAz):Bool:=match ah.getLast? with | none=>false | some y=>!(sGt s y.1)
def eI(nf:Int)(ah:List Ex)(x:Ex):Int :=
 if 32<x.1.size then 13 else if kU x.1=false then 23 else if gP ah x.1=true then 18 else cO nf x.2
def eJ(x:Ex):List Int:=gz x.1++aw x.2
def il(w:World)(e:TypeId)(size B n cap:Nat)(xs:Zah):Prop:=w.ownsRow 0 e size (ZL B n cap) n xs
variable {w:World}{base:Nat}{e:TypeId}{xs:Zah}
theorem il.of{size B n cap:Nat}(h:w.ownsRow base e size (ZL B n cap) n xs):il w e size B n cap xs:=by
 exact xq
theorem il.block{size B n cap:Nat}(h:il w e size B n cap xs):∃cur,w.heap[B]? =some (.cells cur e)/\n<=cap/\cap<=maxLen/\cur.size=cap*size/\cur.toList.take (n*size)=xs:=by
 rcases h.2 with ⟨h,_⟩ | ⟨g,cp,cur,h1,_,h3,h4,h5,h6,h7⟩
 ·cases h
 simp at h1;obtain⟨rfl,rfl⟩:=h1;exact⟨cur,h3,h4,h5,h6,h7⟩
theorem il.lt{size B n cap:Nat}(h:il w e size B n cap xs):B<w.heap.size:=by
 exact IJ
variable {w':World}{n:Nat}
theorem aV{size:Nat}{v:Value}(h:w.ownsRow base e size v n xs)(hk:∀B,v.ownBlock=some B->w'.heap[B]? =w.heap[B]?):w'.ownsRow base e size v n xs:=by
 exact F8
theorem il.keep{size B n cap:Nat}(h:il w e size B n cap xs)(hk:w'.heap[B]? =w.heap[B]?):il w' e size B n cap xs :=
 aV h (fun b hb=>by
  obtain rfl:B=b:=lh;exact hk)
variable {S:Zam}
theorem il.kept{size B n cap:Nat}(h:il w e size B n cap xs)(hk:Kept S w w')(hs:¬S B):il w' e size B n cap xs:=h.keep (hk.block B h.lt hs)
theorem il.cell{size B n cap:Nat}(h:il w e size B n cap xs)(j:Nat)(hj:j<n*size):w.cell? (ZA B j)=xs[j]?:=by
 obtain⟨cur,h1,h2,h3,h4,h5⟩:=h.block
 have hl:j<cur.size:=by rw[h4]; exact Z8 hj (Nat.mul_le_mul_right _ h2)
 rw[<- h5,List.getElem?_take_of_lt hj];simp only[World.cell?,h1];simp
variable {e':TypeId}{s s' B B' n' cap cap':Nat}{xs':Zah}
theorem il.apart(h:il w e s B n cap xs)(h':il w e' s' B' n' cap' xs')(he:e≠e'):B≠B':=by
 exact Iw
variable {P:Program}{ops:Array Oper}{o:Oper}{a:Act}{Q:Zan}
theorem mW(w:World){rest:List Oper}(hgd:o.guard=none)
  (s x:Operand) (t:TypeId) (ho:o.op=Op.call { callee:=Callee.builtin Builtin.append,args:=#[s,x],argTypes:=#[t,t] }) (e:TypeId) (i:TypeInfo) (z:Value) (size bytes:Nat)
  (h1:P.underlying t=some (.slice e)) (h2:P.info? e=some i) (h3:i.zero=some z) (h4:i.size=size) (h5:i.bytes=bytes) (h6:z.cells.size=size) (h7:0<size)
  (v:Value) (n:Nat) (xs:Zah) (hs:a.eval s=v) (hown:w.ownsRow 0 e size v n xs) (ad:Addr) (m c:Nat) (news:Zah) (hx:a.eval x=.slice (some ad) m c) (hn:news.length=m*size)
  (hc:∀j u,news[j]? =some u->w.cell? (ad.add j)=some u) (hone:∀u∈news,u.oneCell'=true) (hm:0<m)
  (b1:n+m<=maxLen) (b2:(n+m)*bytes<=140737488355328)
  (h:∀(B cap:Nat)(w':World),il w' e size B (n+m) cap (xs++news)->((v=ZL B n cap/\Kept (fun k=>k=B) w w')\/(w.heap.size<=B/\Kept (fun _=>False) w w'))->wpList P ops Q rest (a.put o.dst (ZL B (n+m) cap)) w') :
  wpList P ops Q (o::rest) a w:=by
 have grow:∀(ao:OAz)(cap:Nat),v=.slice ao n cap->(ao=none->n=0/\cap=0)->(∀b,ao=some b->∀(j:Nat)(y:Value),xs[j]? =some y->w.cell? (b.add j)=some y)->cap<n+m->wpList P ops Q (o::rest) a w:=by
  intro ao cap hv hnone holds hfull;refine wpList_append_grows w hgd s x t ho e i z size bytes h1 h2 h3 h4 h5 h6 h7 ao n cap xs (hs.trans hv) hnone hown.1 holds ad m c news hx hn hc hone hfull b1 b2 ?_;intro v' w' ho' hg'
  rcases ho'.2 with ⟨_,hz⟩ | ⟨g,cp,cur,rfl,hbase,h8⟩
  ·omega
  exact h g cp w' (il.of ho') (.inr ⟨hbase,(Kept.of_grown hg').mono (fun k hk=>by cases hk)⟩)
 rcases hown.2 with ⟨rfl,rfl⟩ | ⟨g,cap,cur,rfl,_,hh,hnc,hcm,hsz,htk⟩
 ·exact zS
 by_cases hroom:n+m<=cap
 ·refine wpList_append_fits w hgd s x t ho 0 e i size h1 h2 h4 g n cap xs hs hown ad m c news hx hn hc hone hroom ?_;exact zZ
 refine grow (some (ZA g 0)) cap rfl (fun hb=>by cases hb) (fun b hb j y hy=>?_) ae;simp at hb;subst hb
 have hj:j<xs.length:=by
  exact Hc
 have hl:=hown.1;have hplain:((ZA g 0):Addr).add j=(ZA g j):=iI;rw[hplain,il.cell hown j ae];exact hy
theorem LZ(w:World){rest:List Oper}(hgd:o.guard=none)
  (s x:Operand) (t:TypeId) (ho:o.op=Op.call { callee:=Callee.builtin Builtin.append,args:=#[s,x],argTypes:=#[t,t] }) (e:TypeId) (i:TypeInfo) (z:Value) (size bytes:Nat)
  (h1:P.underlying t=some (.slice e)) (h2:P.info? e=some i) (h3:i.zero=some z) (h4:i.size=size) (h5:i.bytes=bytes) (h6:z.cells.size=size) (h7:0<size)
  (g n cap:Nat) (xs:Zah) (hs:a.eval s=ZL g n cap) (hown:il w e size g n cap xs) (ad:Addr) (m c:Nat) (news:Zah) (hx:a.eval x=.slice (some ad) m c) (hn:news.length=m*size)
  (hc:∀j u,news[j]? =some u->w.cell? (ad.add j)=some u) (hone:∀u∈news,u.oneCell'=true) (hm:0<m)
  (b1:n+m<=maxLen) (b2:(n+m)*bytes<=140737488355328)
  (h:∀(B cap:Nat)(w':World),il w' e size B (n+m) cap (xs++news)->Kept (fun k=>k=g) w w'->(B=g\/w.heap.size<=B)->wpList P ops Q rest (a.put o.dst (ZL B (n+m) cap)) w') :
  wpList P ops Q (o::rest) a w:=by
 refine mW w hgd s x t ho e i z size bytes h1 h2 h3 h4 h5 h6 h7 _ n xs hs hown ad m c news hx hn hc hone hm b1 b2 ?_;rintro B cp w' hr (⟨hv,hk⟩ | ⟨hB,hk⟩)
 ·simp at hv
  obtain⟨rfl,rfl⟩:=hv;exact h g cap w' hr hk (.inl rfl)
 exact h B cp w' hr (hk.mono (fun k hk=>hk.elim)) (.inr hB)
def thr(e p:Int):Ending:=.panicked [{ v:=.iface 142 (.agg #[ZI e,ZI p]),recovered:=false }]
theorem lL(e at_:Int)(w:World):Zw 84 #[.bool true,ZI e,ZI at_] w (ZG (.tuple #[]) w):=by
 go_enter func84,ntmps84;exact pO
theorem vT(x p:Int)(w:World):Zw 84 #[.bool false,ZI x,ZI p] w fun e w'=>e=thr x p/\w'=w:=by
 go_enter func84,ntmps84;go_wp2_with fail;simp[bodyPost,thr]
def Buf(w:World)(g n cap:Nat)(xs:Zah):Prop:=il w 5 1 g n cap xs\/(cap=n/\n<=maxLen/\g<w.heap.size/\xs.length=n/\∀j u,xs[j]? =some u->w.cell? (ZA g j)=some u)
variable {g:Nat}
theorem Buf.lt(h:Buf w g n cap xs):g<w.heap.size:=by
 rcases h with h | h
 ·exact h.lt
 exact h.2.2.1
theorem Buf.kept(h:Buf w g n cap xs)(hk:Kept S w w')(hs:¬S g):Buf w' g n cap xs:=by
 rcases h with h | ⟨h1,h2,h3,h4,h5⟩
 ·exact .inl (h.kept hk hs)
 exact .inr ⟨h1,h2,Z8 h3 hk.size,h4,fun j u hj=>hk.cell (h5 j u hj) hs⟩
theorem Et(w:World){rest:List Oper}(hgd:o.guard=none)
  (s x:Operand) (t:TypeId) (ho:o.op=Op.call { callee:=Callee.builtin Builtin.append,args:=#[s,x],argTypes:=#[t,t] }) (i:TypeInfo) (z:Value)
  (h1:P.underlying t=some (.slice 5)) (h2:P.info? 5=some i) (h3:i.zero=some z) (h4:i.size=1) (h5:i.bytes=1) (h6:z.cells.size=1)
  (g n cap:Nat) (xs:Zah) (hs:a.eval s=ZL g n cap) (hown:Buf w g n cap xs) (ad:Addr) (m c:Nat) (news:Zah) (hx:a.eval x=.slice (some ad) m c) (hn:news.length=m*1)
  (hc:∀j u,news[j]? =some u->w.cell? (ad.add j)=some u) (hone:∀u∈news,u.oneCell'=true) (hm:0<m)
  (b1:n+m<=maxLen) (b2:(n+m)*1<=140737488355328)
  (h:∀(B cap:Nat)(w':World),il w' 5 1 B (n+m) cap (xs++news)->Kept (fun k=>k=g) w w'->(B=g\/w.heap.size<=B)->wpList P ops Q rest (a.put o.dst (ZL B (n+m) cap)) w') :
  wpList P ops Q (o::rest) a w:=by
 rcases hown with hr | ⟨rfl,_,_,hl,hcells⟩
 ·exact LZ w hgd s x t ho 5 i z 1 1 h1 h2 h3 h4 h5 h6 au g n cap xs hs hr ad m c news hx hn hc hone hm b1 b2 h
 refine wpList_append_grows w hgd s x t ho 5 i z 1 1 h1 h2 h3 h4 h5 h6 au (some (ZA g 0)) cap cap xs hs (fun hh=>by cases hh) ae (fun b hb j u hj=>?_) ad m c news hx hn hc hone ae b1 b2 ?_
 ·simp at hb
  subst hb;have hplain:((ZA g 0):Addr).add j=(ZA g j):=iI;rw[hplain];exact hcells j u hj
 intro v' w' ho' hg'
 rcases ho'.2 with ⟨_,hz⟩ | ⟨B,cp,cur,rfl,hbase,h8⟩
 ·omega
 exact h B cp w' (il.of ho') ((Kept.of_grown hg').mono (fun k hk=>by cases hk)) (.inr hbase)
structure Wr(w:World)(R g cap:Nat)(bs:LIz):Prop where
 c0:w.cell? (ZA R 0)=some (ZL g bs.length cap)
 f0:w.frozen? (ZA R 0)=false
 row:Buf w g bs.length cap (bs.map (ZU))
 ne:g≠R
variable {R:Nat}{bs:LIz}
theorem Wr.lt(h:Wr w R g cap bs):R<w.heap.size:=ZQ h.c0
theorem Wr.kept(h:Wr w R g cap bs)(hk:Kept S w w')(hR:¬S R)(hg:¬S g):Wr w' R g cap bs :=
 ⟨hk.cell h.c0 hR,(aS (hk.block R h.lt hR) 0).trans h.f0,h.row.kept hk hg,h.ne⟩
theorem Wr.later(h:Wr w R g cap bs)(hb:Zx w w'):Wr w' R g cap bs :=
 h.kept (S:=fun _=>False) ⟨hb.os,hb.tape,hb.output,hb.size,fun k hk _=>hb.block k hk⟩ id id
structure Stp(R g g':Nat)(w w':World):Prop where
 k:Kept (fun k=>k=R\/k=g) w w'
 m:g'=g\/w.heap.size<=g'
theorem Stp.refl(R g:Nat)(w:World):Stp R g g w w:=⟨Kept.refl _ _,.inl rfl⟩
variable {g' g'':Nat}{w1 w2:World}
theorem Stp.trans(h:Stp R g g' w w1)(h':Stp R g' g'' w1 w2):Stp R g g'' w w2:=by
 refine⟨h.k.then h'.k (fun k hk ht=>?_),?_⟩
 ·rcases ht with rfl | rfl
  ·exact .inl rfl
  exact sM
 exact xM
theorem Stp.of_below(h:Zx w w'):Stp R g g w w' :=
 ⟨⟨h.os,h.tape,h.output,h.size,fun k hk _=>h.block k hk⟩,.inl rfl⟩
theorem Stp.size(h:Stp R g g' w w'):w.heap.size<=w'.heap.size:=h.k.size
variable {b o:Nat}
theorem Stp.cell(h:Stp R g g' w w'){v:Value}(hc:w.cell? (ZA b o)=some v)(h1:b≠R)(h2:b≠g):w'.cell? (ZA b o)=some v:=h.k.cell hc (by simp[h1,h2])
theorem Wr.range(h:Wr w R g cap bs):bs.length<=maxLen:=by
 rcases h.row with hr | hr
 ·obtain⟨cur,h1,h2,h3,_⟩:=hr.block;omega
 exact hr.2.1
theorem zq(R g cap:Nat)(bs:LIz)(a:OAz)(n c:Nat)(zs:LIz)(w:World)(h:Wr w R g cap bs)(hs:Seg w a n c zs)(hn:0<n)(hb:bs.length+n<=1099511627776) :
  Zw 324 #[ZP R 0,.slice a n c] w fun e w'=>e=.returned (.tuple #[])/\∃g' cap',Wr w' R g' cap' (bs++zs)/\Stp R g g' w w':=by
 have c0:=h.c0;have f0:=h.f0;have hlt:=h.lt;obtain⟨i0,hi,hz0,hz1,hz2⟩:=Z0 Tryz.info5
 obtain⟨ad,rfl⟩:∃ad,a=some ad:=by
  rcases hs.2.2.2.2 with h0 | ⟨b,off,h,_⟩
  ·omega
  exact⟨_,h⟩
 have HR:=hid h.row;have ZD:=hid h.ne;have HS:=hid hs;have hl:=hs.1;clear h hs;go_enter func324,ntmps324
 go_wp2_with (at_builtin; (refine Et _ rfl (.tmp 8) (.tmp 9) 63 rfl i0 (ZU 0) underlying63 hi hz0 hz1 hz2 rfl g bs.length cap _ rfl HR.out ad n c (zs.map (ZU)) rfl (by simp[hl]) (lC HS.out ad rfl) (mL _) hn aP ae ?_; intro B cap' w1 hrow hk To; have HO:=hid hrow; have HK:=hid hk; have HOR:=hid To; have d0:=hk.cell c0 (Ne.symm ZD.out); have e0:=(aS (hk.block R hlt (Ne.symm ZD.out)) 0).trans f0; clear hrow hk To c0 f0))
 go_end0
 have hne:B≠R:=by
  rcases HOR.out with h1 | h1
  ·have:=ZD.out; omega
  omega
 refine⟨rfl,B,cap',⟨?_,?_,?_,hne⟩,⟨?_,HOR.out⟩⟩
 ·have:=World.cell?_setCell_same w1 (ZA R 0) (ZL B (bs.length+n) cap') d0
  simpa[hl] using this
 ·rw[World.frozen?_setCell]; exact e0
 ·have hk:(w1.setCell (ZA R 0) (ZL B (bs.length+n) cap')).heap[B]? =w1.heap[B]?:=Below.heap_setCell _ _ _ _ (by simpa using hne)
  have:=HO.out.keep hk;refine .inl ?_
  simpa[hl] using this
 exact(HK.out.mono (T:=fun k=>k=R\/k=g) (fun k hk=>.inr hk)).trans ⟨rfl,rfl,rfl,by simp[World.setCell],fun k hk hs=>Below.heap_setCell _ _ _ _ (by simp at hs ⊢; omega)⟩
abbrev qX(R g:Nat)(bs new:LIz)(v:Value)(w:World):Ending->World->Prop:=fun e w'=>e=.returned v/\∃g' cap',Wr w' R g' cap' (bs++new)/\Stp R g g' w w'
abbrev aQ(R g:Nat)(x:Int)(w:World):Ending->World->Prop:=fun e w'=>(∃p,e=thr x p)/\Kept (fun k=>k=R\/k=g) w w'
abbrev nV(w:World):Ending->World->Prop:=(ZC (.tuple #[]) w)
abbrev nT(x:Int)(w:World):Ending->World->Prop:=fun e w'=>(∃p,e=thr x p)/\Zx w w'
theorem bC(h:Zx w w'):Kept S w w':=⟨h.os,h.tape,h.output,h.size,fun k hk _=>h.block k hk⟩
theorem eF(R:Nat)(a:OAz)(n cap:Nat)(w:World)(h:w.cell? (ZA R 0)=some (.slice a n cap)):Zw 321 #[ZP R 0] w (ZG (ZI n) w):=by
 go_enter func321,ntmps321;exact lW
theorem UA(v:Int)(w:World)(h0:0<=v)(h1:v<18446744073709551616) :
  Zw 325 #[.int .u64 v] w fun e w'=>∃B,e=.returned (ZL B (aw v).length (aw v).length)/\Seg w' (some (ZA B 0)) (aw v).length (aw v).length (aw v)/\Zx w w' :=
 (wE v w h0 h1).mono fun e w' ⟨he,hs,hb,_⟩=>⟨_,he,hs,hb⟩
theorem XM(v:Int)(w:World)(h0:-9223372036854775808<=v)(h1:v<9223372036854775808) :
  Zw 327 #[ZI v] w fun e w'=>∃B,e=.returned (ZL B (aw (fo v)).length (aw (fo v)).length)/\Seg w' (some (ZA B 0)) (aw (fo v)).length (aw (fo v)).length (aw (fo v))/\Zx w w' :=
 (NS v w h0 h1).mono fun e w' ⟨he,hs,hb,_⟩=>⟨_,he,hs,hb⟩
theorem XN(s:BAz)(w:World)(hs:s.size<=1000000) :
  Zw 328 #[.string s] w fun e w'=>∃B,e=.returned (ZL B ((aw s.size).length+s.size) ((aw s.size).length+s.size)) /\
   Seg w' (some (ZA B 0)) ((aw s.size).length+s.size) ((aw s.size).length+s.size) (aw s.size++bh s)/\Zx w w' :=
 (VC s w hs).mono fun e w' ⟨B,he,hs,hb,_⟩=>⟨_,he,hs,hb⟩
theorem i7(R g cap:Nat)(bs:LIz)(v:Int)(K:Nat)(cs:AVz)(w:World)(h:Wr w R g cap bs)(h0:0<=v)(h1:v<18446744073709551616)(hb:bs.length+10<=1099511627776)
  (hK:∀args w,(callFunc K args).run prog w=.ok (.enter K args) w)
  (fm:Zw K (#[.int .u64 v,ZI bs.length]++cs) w (nV w)) :
  Zw 319 #[ZP R 0,.int .u64 v,.func (.func K) #[] cs] w (qX R g bs (aw v) (.int .u64 v) w):=by
 have c0:=h.c0;have HW:=hid h;have HU:=hid (fun W=>UA v W h0 h1);have i3:=ay v;generalize aw v=U at *;clear h;go_enter func319,ntmps319;exact LS
theorem jp(R g cap:Nat)(bs:LIz)(v:Int)(K:Nat)(cs:AVz)(x:Int)(w:World)(h:Wr w R g cap bs)
  (hK:∀args w,(callFunc K args).run prog w=.ok (.enter K args) w)
  (fm:Zw K (#[.int .u64 v,ZI bs.length]++cs) w (nT x w)) :
  Zw 319 #[ZP R 0,.int .u64 v,.func (.func K) #[] cs] w (aQ R g x w):=by
 have c0:=h.c0;clear h;go_enter func319,ntmps319;exact wD
theorem vr(R g cap:Nat)(bs:LIz)(v:Int)(K:Nat)(cs:AVz)(w:World)(h:Wr w R g cap bs)(h0:-9223372036854775808<=v)(h1:v<9223372036854775808)(hb:bs.length+10<=1099511627776)
  (hK:∀args w,(callFunc K args).run prog w=.ok (.enter K args) w)
  (fm:Zw K (#[ZI v,ZI bs.length]++cs) w (nV w)) :
  Zw 322 #[ZP R 0,ZI v,.func (.func K) #[] cs] w (qX R g bs (aw (fo v)) (ZI v) w):=by
 have c0:=h.c0;have HW:=hid h;have HU:=hid (fun W=>XM v W h0 h1);have i3:=ay (fo v);generalize aw (fo v)=U at *;clear h;go_enter func322,ntmps322;exact LS
theorem xU(R g cap:Nat)(bs:LIz)(v:Int)(K:Nat)(cs:AVz)(x:Int)(w:World)(h:Wr w R g cap bs)
  (hK:∀args w,(callFunc K args).run prog w=.ok (.enter K args) w)
  (fm:Zw K (#[ZI v,ZI bs.length]++cs) w (nT x w)) :
  Zw 322 #[ZP R 0,ZI v,.func (.func K) #[] cs] w (aQ R g x w):=by
 have c0:=h.c0;clear h;go_enter func322,ntmps322;exact wD
theorem bU(R g cap:Nat)(bs:LIz)(k:Nat)(m:Int)(w:World)(h:Wr w R g cap bs)(hk:(k:Int)<=m)(hk1:k<=1099511627776)(hb:bs.length+10<=1099511627776) :
  Zw 317 #[ZP R 0,ZI k,ZI m] w (qX R g bs (aw k) (ZI k) w):=by
 have c0:=h.c0;have HW:=hid h;have HU:=hid (fun W=>UA k W ae ae);have i3:=ay k;generalize aw k=U at *
 have hd:decide ((k:Int)<=m)=true:=by simp[hk]
 have hw64:IntKind.u64.wrap (k:Int)=k:=dJ _ ae ae;clear h;go_enter func317,ntmps317
 go_wp2_with fail;refine(eF R _ _ _ w c0).mono ?_;rintro e w1⟨rfl,rfl⟩;go_wp2_with fail;refine(lL _ _ _).mono ?_;rintro e w1⟨rfl,rfl⟩;clear c0 hd;go_wp2_with fail;refine(HU.out _).mono ?_;rintro e w3⟨B,rfl,s3,b3⟩;have B3:=hid b3;exact My
theorem fN(R g cap:Nat)(bs:LIz)(k:Nat)(m:Int)(w:World)(h:Wr w R g cap bs)(hk:m<(k:Int)) :
  Zw 317 #[ZP R 0,ZI k,ZI m] w (aQ R g 20 w):=by
 have c0:=h.c0;have hd:decide ((k:Int)<=m)=false:=aA;clear h;go_enter func317,ntmps317;exact FD
theorem Sr(w:World)(v:Int)(h0:0<=v)(h1:v<=255)(t:TypeId):Seg (w.alloc (.cells #[ZU v] t)) (some (ZA w.heap.size 0)) 1 1 [v]:=by
 refine⟨rfl,Nat.le_refl _,ae,by simp[h0,h1],.inr ⟨_,0,rfl,fun j hj=>?_⟩⟩;obtain rfl:j=0:=ae;simp[go_sem]
theorem jz(R g cap:Nat)(bs:LIz)(v:Int)(K:Nat)(cs:AVz)(w:World)(h:Wr w R g cap bs)(h0:0<=v)(h1:v<=255)(hb:bs.length+1<=1099511627776)
  (hK:∀args w,(callFunc K args).run prog w=.ok (.enter K args) w)
  (fm:Zw K (#[ZU v,ZI bs.length]++cs) w (nV w)) :
  Zw 320 #[ZP R 0,ZU v,.func (.func K) #[] cs] w (qX R g bs [v] (ZU v) w):=by
 have c0:=h.c0;have HW:=hid h;clear h;go_enter func320,ntmps320
 go_wp2_with fail;refine(eF R _ _ _ w c0).mono ?_;rintro e w1⟨rfl,rfl⟩;go_wp2_with fail;refine fm.mono ?_;rintro e w2⟨rfl,b2⟩;have hb2:=b2.trans (((ZT _ w2).alloc lRn (eK v)).mono b2.size);have HS:=hid (Sr w2 v h0 h1 5);have B3:=hid hb2;clear b2 hb2 fm hK c0;go_wp2_with fail;refine(zq R g cap bs _ _ _ _ _ (HW.out.later B3.out) HS.out ae ae).mono ?_;rintro e w4⟨rfl,g',cap',hw4,hs4⟩;have W4:=hid hw4;have S4:=hid ((Stp.of_below B3.out).trans hs4);clear hw4 hs4;go_wp2_with fail;go_ret;exact⟨rfl,g',cap',W4.out,S4.out⟩
theorem Ar(R g cap:Nat)(bs:LIz)(v:Int)(K:Nat)(cs:AVz)(x:Int)(w:World)(h:Wr w R g cap bs)
  (hK:∀args w,(callFunc K args).run prog w=.ok (.enter K args) w)
  (fm:Zw K (#[ZU v,ZI bs.length]++cs) w (nT x w)) :
  Zw 320 #[ZP R 0,ZU v,.func (.func K) #[] cs] w (aQ R g x w):=by
 have c0:=h.c0;clear h;go_enter func320,ntmps320;exact wD
theorem fg(R g cap:Nat)(bs:LIz)(s:BAz)(m:Int)(K:Nat)(cs:AVz)(w:World)(h:Wr w R g cap bs)(hm:(s.size:Int)<=m)(hs:s.size<=1000000)(hb:bs.length+10+s.size<=1099511627776)
  (hK:∀args w,(callFunc K args).run prog w=.ok (.enter K args) w)
  (fm:Zw K (#[.string s,ZI bs.length]++cs) w (nV w)) :
  Zw 323 #[ZP R 0,.string s,ZI m,.func (.func K) #[] cs] w (qX R g bs (aw s.size++bh s) (.string s) w):=by
 have c0:=h.c0;have HW:=hid h;have HU:=hid (fun W=>XN s W hs);have i3:=ay s.size
 have hd:decide ((s.size:Int)<=m)=true:=by simp[hm]
 generalize aw s.size=U at *;clear h;go_enter func323,ntmps323
 go_wp2_with fail;refine(eF R _ _ _ w c0).mono ?_;rintro e w1⟨rfl,rfl⟩;go_wp2_with fail;refine(lL _ _ _).mono ?_;rintro e w1⟨rfl,rfl⟩;clear hd;go_wp2_with fail;refine(eF R _ _ _ _ c0).mono ?_;rintro e w1⟨rfl,rfl⟩;go_wp2_with fail;refine fm.mono ?_;rintro e w2⟨rfl,b2⟩;have B2:=hid b2;clear b2 fm hK c0;go_wp2_with fail;refine(HU.out _).mono ?_;rintro e w3⟨B,rfl,s3,b3⟩;have B3:=Zy B2 b3;exact My
theorem ie(R g cap:Nat)(bs:LIz)(s:BAz)(m:Int)(f:Value)(w:World)(h:Wr w R g cap bs)(hm:m<(s.size:Int)) :
  Zw 323 #[ZP R 0,.string s,ZI m,f] w (aQ R g 13 w):=by
 have c0:=h.c0;have hd:decide ((s.size:Int)<=m)=false:=aA;clear h;go_enter func323,ntmps323;exact FD
theorem gQ(R g cap:Nat)(bs:LIz)(s:BAz)(m:Int)(K:Nat)(cs:AVz)(x:Int)(w:World)(h:Wr w R g cap bs)(hm:(s.size:Int)<=m)
  (hK:∀args w,(callFunc K args).run prog w=.ok (.enter K args) w)
  (fm:Zw K (#[.string s,ZI bs.length]++cs) w (nT x w)) :
  Zw 323 #[ZP R 0,.string s,ZI m,.func (.func K) #[] cs] w (aQ R g x w):=by
 have c0:=h.c0
 have hd:decide ((s.size:Int)<=m)=true:=by simp[hm]
 clear h;go_enter func323,ntmps323
 go_wp2_with fail;refine(eF R _ _ _ w c0).mono ?_;rintro e w1⟨rfl,rfl⟩;go_wp2_with fail;refine(lL _ _ _).mono ?_;rintro e w1⟨rfl,rfl⟩;clear hd;go_wp2_with fail;refine(eF R _ _ _ _ c0).mono ?_;rintro e w1⟨rfl,rfl⟩;go_wp2_with fail;refine fm.mono ?_;rintro e w2⟨⟨p,rfl⟩,b2⟩;exact⟨rfl,⟨p,rfl⟩,bC b2⟩
abbrev cW(R:Nat):Value:=.iface 150 (ZP R 0)
theorem fW(v:Value)(w:World):(method 481 150 v "flagon/module.number").run prog w=.ok (319,v) w:=rfl
theorem rE(v:Value)(w:World):(method 481 150 v "flagon/module.signed").run prog w=.ok (322,v) w:=rfl
theorem oO(v:Value)(w:World):(method 481 150 v "flagon/module.octet").run prog w=.ok (320,v) w:=rfl
theorem eW(v:Value)(w:World):(method 481 150 v "flagon/module.text").run prog w=.ok (323,v) w:=rfl
theorem bH(v:Value)(w:World):(method 481 150 v "flagon/module.count").run prog w=.ok (317,v) w:=rfl
theorem ou(v:Value)(w:World):(method 481 150 v "flagon/module.place").run prog w=.ok (321,v) w:=rfl
theorem lm(v:Value)(w:World):(method 481 150 v "flagon/module.instruction").run prog w=.ok (318,v) w:=rfl
theorem jH(args:AVz)(w:World):(callFunc 319 args).run prog w=.ok (.enter 319 args) w:=rfl
theorem Bo(args:AVz)(w:World):(callFunc 322 args).run prog w=.ok (.enter 322 args) w:=rfl
theorem t6(args:AVz)(w:World):(callFunc 320 args).run prog w=.ok (.enter 320 args) w:=rfl
theorem fO(args:AVz)(w:World):(callFunc 323 args).run prog w=.ok (.enter 323 args) w:=rfl
theorem cN(args:AVz)(w:World):(callFunc 317 args).run prog w=.ok (.enter 317 args) w:=rfl
theorem uI(args:AVz)(w:World):(callFunc 321 args).run prog w=.ok (.enter 321 args) w:=rfl
theorem BG(args:AVz)(w:World):(callFunc 318 args).run prog w=.ok (.enter 318 args) w:=rfl
variable {b:Bool}{x p:Int}
theorem dG(h:b=true):Zw 84 #[.bool b,ZI x,ZI p] w (ZG (.tuple #[]) w):=by subst h; exact lL _ _ _
theorem gi(h:b=false):Zw 84 #[.bool b,ZI x,ZI p] w fun e w'=>e=thr x p/\w'=w:=by subst h; exact vT _ _ _
theorem Bt(x:Int)(h0:-9223372036854775808<=x)(h1:x<0):IntKind.u64.wrap x=x+18446744073709551616:=by
 simp[IntKind.wrap,IntKind.bits,IntKind.signed]; omega
theorem De(B:Nat)(v p n:Int)(w:World)(h:w.cell? (ZA B 0)=some (ZI n))(hn:0<=n)(On:n<9223372036854775808)(hv:v<n):Zw 185 #[.int .u64 v,ZI p,ZP B 0] w (nV w):=by
 have hw:=dJ n hn ae;go_enter func185,ntmps185;exact FT
theorem JJ(B:Nat)(v p n:Int)(w:World)(h:w.cell? (ZA B 0)=some (ZI n))(hn:0<=n)(On:n<9223372036854775808)(hv:n<=v):Zw 185 #[.int .u64 v,ZI p,ZP B 0] w (nT 30 w):=by
 have hw:=dJ n hn ae;go_enter func185,ntmps185
 go_wp2_with fail;refine(gi aA).mono ?_;exact sL
theorem ij(w:World)(v:Value)(t:TypeId):(w.alloc (.cells #[v] t)).cell? (ZA w.heap.size 0)=some v:=dB
theorem aj(w:World)(o:Obj):Zx w (w.alloc o):=(ZT _ _).alloc lRn _
theorem iq(R g cap:Nat)(bs:LIz)(x n:Int)(w:World)(h:Wr w R g cap bs)(hb:bs.length+10<=1099511627776)(hx0:0<=x)(hx:x<n)(On:n<9223372036854775808) :
  Zw 136 #[cW R,ZI x,ZI n] w (qX R g bs (aw x) (ZI x) w):=by
 have hm:=fW;have hc:=jH;have hw:=dJ x hx0 ae;have hi:=i64_in x ae ae;have B1:=hid (aj w (bR n));have HN:=hid (i7 R g cap bs x 185 #[ZP w.heap.size 0] _ (h.later B1.out) hx0 ae hb (fun _ _=>rfl) (De w.heap.size x _ n _ (ij _ _ _) ae On hx));clear h;go_enter func136,ntmps136;exact MU
theorem mM(R g cap:Nat)(bs:LIz)(x n:Int)(w:World)(h:Wr w R g cap bs)(hx0:-9223372036854775808<=x)(hx1:x<9223372036854775808)(hx:x<0\/n<=x)(hn:0<=n)(On:n<9223372036854775808) :
  Zw 136 #[cW R,ZI x,ZI n] w (aQ R g 30 w):=by
 have hm:=fW;have hc:=jH
 have hw:n<=IntKind.u64.wrap x:=by
  exact IR
 have B1:=hid (aj w (bR n));have HN:=hid (jp R g cap bs (IntKind.u64.wrap x) 185 #[ZP w.heap.size 0] 30 _ (h.later B1.out) (fun _ _=>rfl) (JJ w.heap.size (IntKind.u64.wrap x) _ n _ (ij _ _ _) hn On hw));clear h hw hx;go_enter func136,ntmps136;exact GF
theorem Ec(B:Nat)(v p n:Int)(w:World)(h:w.cell? (ZA B 0)=some (ZI n))(hn:0<=n)(On:n<9223372036854775808)(hv:n<=v)(hv1:v<=64):Zw 193 #[.int .u64 v,ZI p,ZP B 0] w (nV w):=by
 have hw:=dJ n hn ae
 have d1:decide (n<=v)=true:=by simp[hv]
 have d2:decide (v<=64)=true:=by simp[hv1]
 go_enter func193,ntmps193;exact FT
theorem J5(B:Nat)(v p n:Int)(w:World)(h:w.cell? (ZA B 0)=some (ZI n))(hn:0<=n)(On:n<9223372036854775808)(hv:v<n\/64<v):Zw 193 #[.int .u64 v,ZI p,ZP B 0] w (nT 17 w):=by
 have hw:=dJ n hn ae
 by_cases h1:n<=v
 ·have d1:decide (n<=v)=true:=by simp[h1]
  have d2:decide (v<=64)=false:=aA;exact FZ
 have d1:decide (n<=v)=false:=aA;exact FZ
theorem qi(R g cap:Nat)(bs:LIz)(x n:Int)(w:World)(h:Wr w R g cap bs)(hb:bs.length+10<=1099511627776)(hn:0<=n)(hx0:n<=x)(hx:x<=64) :
  Zw 140 #[cW R,ZI x,ZI n] w (qX R g bs (aw x) (ZI x) w):=by
 have hm:=fW;have hc:=jH;have hw:=dJ x ae ae;have hi:=i64_in x ae ae;have B1:=hid (aj w (bR n));have HN:=hid (i7 R g cap bs x 193 #[ZP w.heap.size 0] _ (h.later B1.out) ae ae hb (fun _ _=>rfl) (Ec w.heap.size x _ n _ (ij _ _ _) ae ae hx0 hx));clear h;go_enter func140,ntmps140;exact MU
theorem rH(R g cap:Nat)(bs:LIz)(x n:Int)(w:World)(h:Wr w R g cap bs)(hx0:-9223372036854775808<=x)(hx1:x<9223372036854775808)(hx:x<n\/64<x)(hn:0<=n)(On:n<9223372036854775808) :
  Zw 140 #[cW R,ZI x,ZI n] w (aQ R g 17 w):=by
 have hm:=fW;have hc:=jH
 have hw:IntKind.u64.wrap x<n\/64<IntKind.u64.wrap x:=by
  exact IR
 have B1:=hid (aj w (bR n));have HN:=hid (jp R g cap bs (IntKind.u64.wrap x) 193 #[ZP w.heap.size 0] 17 _ (h.later B1.out) (fun _ _=>rfl) (J5 w.heap.size (IntKind.u64.wrap x) _ n _ (ij _ _ _) hn On hw));clear h hw hx;go_enter func140,ntmps140;exact GF
theorem eY(s:BAz)(p:Int)(w:World)(hs:s.size<=1073741824)(h:bY s 256=true):Zw 183 #[.string s,ZI p] w (nV w):=by
 have HS:=hid (G0 s w hs);rw[h]at HS;clear h;go_enter func183,ntmps183
 go_wp2_with fail;refine HS.out.mono ?_;rintro e w1⟨rfl,hb⟩;have B1:=hid hb;clear hb HS;go_wp2_with fail;refine(dG rfl).mono ?_;rintro e w1⟨rfl,rfl⟩;go_wp2_with fail;go_end0;exact⟨rfl,B1.out⟩
theorem kJ(s:BAz)(p:Int)(w:World)(hs:s.size<=1073741824)(h:bY s 256=false):Zw 183 #[.string s,ZI p] w (nT 15 w):=by
 have HS:=hid (G0 s w hs);rw[h]at HS;clear h;go_enter func183,ntmps183
 go_wp2_with fail;refine HS.out.mono ?_;rintro e w1⟨rfl,hb⟩;have B1:=hid hb;clear hb HS;go_wp2_with fail;refine(gi rfl).mono ?_;rintro e w1⟨rfl,rfl⟩;exact⟨rfl,⟨_,rfl⟩,B1.out⟩
section
def dC(w:World)(a:OAz)(n:Nat)(xs:List Sg):Prop :=
 xs.length=n/\n<=1099511627776/\(n=0\/∃b off,a=some (ZA b off)/\∀j x,xs[j]? =some x->w.cell? (ZA b (off+j*2))=some (.string x.1)/\w.cell? (ZA b (off+j*2+1))=some (.string x.2))
variable {w w':World}{a:OAz}{n:Nat}
theorem dC.later{xs:List Sg}(h:dC w a n xs)(hb:Zx w w'):dC w' a n xs:=by
 refine⟨h.1,h.2.1,h.2.2.imp id ?_⟩;rintro⟨b,off,ha,hc⟩;refine⟨b,off,ha,fun j x hj=>?_⟩;obtain⟨h1,h2⟩:=hc j x hj;exact⟨(hb.cell (by exact ZQ h1)).trans h1,(hb.cell (by exact ZQ h2)).trans h2⟩
variable {S:Zam}
theorem dC.kept{xs:List Sg}(h:dC w a n xs)(hk:Kept S w w')(hS:∀b off c,a=some ⟨b,off,c⟩->¬S b):dC w' a n xs:=by
 refine⟨h.1,h.2.1,h.2.2.imp id ?_⟩;rintro⟨b,off,ha,hc⟩;exact⟨b,off,ha,fun j x hj=>⟨hk.cell (hc j x hj).1 (hS _ _ _ ha),hk.cell (hc j x hj).2 (hS _ _ _ ha)⟩⟩
variable {j:Nat}
theorem aF{α:Type}{xs:List α}{x:α}(h:xs[j]? =some x):j<xs.length:=by
 rcases Zae j xs.length with hl | hl
 ·exact hl
 rw[List.getElem?_eq_none hl]at h; cases h
section
variable (s p:BAz) (at_ xr:Int) (A B C:Nat) (aa:OAz) (an ac:Nat) (ah:List Sg) (w:World)
variable {wr:World}
theorem Fp{p' r':BAz}(hBl:B<wr.heap.size)(hCl:C<wr.heap.size)(yB:wr.cell? (ZA B 0)=some (.string p))(yC:wr.cell? (ZA C 0)=some (ZI xr)) :
  let W1:=wr.alloc (aW p' r')
  W1.cell? (ZA wr.heap.size 0)=some (.string p')/\W1.cell? (ZA wr.heap.size 1)=some (.string r')/\W1.cell? (ZA B 0)=some (.string p)/\W1.cell? (ZA C 0)=some (ZI xr):=by
 refine⟨dB,dB,?_,?_⟩
 ·rw[(aj wr _).cell oq]; exact yB
 rw[(aj wr _).cell oG]; exact yC
variable {x y:Sg}
theorem A6{ah:List Sg}(hy:ah[j]? =some y)(h:ia ah x=false):((y.1.toList==x.1.toList)&&(y.2.toList==x.2.toList))=false:=by
 have hm:=ZO hy;simp only[ia,List.any_eq_false]at h;have:=h y hm;exact cR
theorem CL(hs:s.size<=1073741824)(hl:bY s 256=true)(sR:dC w aa an ah)(h2:ia ah (p,s)=false)
  (hA:w.cell? (ZA A 0)=some (.slice aa an ac)) (hB:w.cell? (ZA B 0)=some (.string p)) (hC:w.cell? (ZA C 0)=some (ZI xr)) :
  Zw 184 #[.string s,ZI at_,ZP A 0,ZP B 0,ZP C 0] w (nV w):=by
 have HL:=hid (eY s at_ w hs hl);have hAl:=ZQ hA;have hBl:=ZQ hB;have hCl:=ZQ hC;have HAH:=hid sR;have hlen:=sR.1;have hbig:=sR.2.1;clear sR;go_enter func184,ntmps184
 go_wp2_with fail;refine HL.out.mono ?_;rintro e w1⟨rfl,hb⟩
 have io:w1.cell? (ZA A 0)=some (.slice aa an ac):=(hb.cell (by exact hAl)).trans hA;obtain⟨B1,HB,HC⟩:=ZH hb hB hC;clear hb hA hB hC HL;go_wp2_with fail
 go_loopw [14] (fun i wr=>∃j:Nat,j<=an/\i=ZI j/\Zx w wr) (fun i _=>an-(intOf i).toNat)
 case atStart=>exact⟨0,ae,rfl,B1.out⟩
 case round =>
  obtain⟨j,hj,rfl,sq⟩:=hrel;have BW:=hid sq;clear sq
  by_cases hlt:j<an
  ·obtain⟨x,hx⟩:=ZB ah j ae
   obtain⟨ab,off,rfl,hc⟩:∃b off,aa=some (ZA b off)/\∀j x,ah[j]? =some x->wr.cell? (ZA b (off+j*2))=some (.string x.1)/\wr.cell? (ZA b (off+j*2+1))=some (.string x.2):=by
    rcases (HAH.out.later BW.out).2.2 with h0 | h
    ·omega
    exact h
   obtain⟨y0,y1⟩:=hc j x hx;obtain⟨p',r'⟩:=x;have hne:=A6 hx h2;clear hc;have yB:wr.cell? (ZA B 0)=some (.string p):=(BW.out.cell oq).trans HB.out;have yC:wr.cell? (ZA C 0)=some (ZI xr):=(BW.out.cell oG).trans HC.out;have hBl':=ZQ yB;have hCl':=ZQ yC;simp only at y0 y1 hne;obtain⟨z0,z1,z2,z3⟩:=Fp (p':=p') (r':=r') p xr B C hBl' hCl' yB yC;go_wp2_with fail;have BN:=hid (aj wr (aW p' r'));generalize wr.alloc (aW p' r')=W1 at *;clear y0 y1 yB yC;exact NH
  go_wp2_with fail;go_end0;exact⟨rfl,BW.out⟩
theorem Jy(hs:s.size<=1073741824)(hl:bY s 256=false) :
  Zw 184 #[.string s,ZI at_,ZP A 0,ZP B 0,ZP C 0] w (nT 15 w):=by
 have HL:=hid (kJ s at_ w hs hl);go_enter func184,ntmps184
 go_wp2_with fail;refine HL.out.mono ?_;rintro e w1⟨⟨q,rfl⟩,hb⟩;exact⟨rfl,⟨q,rfl⟩,hb⟩
theorem zy(hs:s.size<=1073741824)(hl:bY s 256=true)(sR:dC w aa an ah)(k:Nat)(hk:∃y,ah[k]? =some y/\y.1.toList=p.toList/\y.2.toList=s.toList)(h2:ia (ah.take k) (p,s)=false)
  (hA:w.cell? (ZA A 0)=some (.slice aa an ac)) (hB:w.cell? (ZA B 0)=some (.string p)) (hC:w.cell? (ZA C 0)=some (ZI xr)) :
  Zw 184 #[.string s,ZI at_,ZP A 0,ZP B 0,ZP C 0] w (nT 16 w):=by
 have HL:=hid (eY s at_ w hs hl);have hAl:=ZQ hA;have hBl:=ZQ hB;have hCl:=ZQ hC;have HAH:=hid sR;have hlen:=sR.1;have hbig:=sR.2.1;clear sR;obtain⟨y,hy,hy1,hy2⟩:=hk;have hkl:=aF hy;rw[hlen]at hkl;go_enter func184,ntmps184
 go_wp2_with fail;refine HL.out.mono ?_;rintro e w1⟨rfl,hb⟩
 have io:w1.cell? (ZA A 0)=some (.slice aa an ac):=(hb.cell (by exact hAl)).trans hA;obtain⟨B1,HB,HC⟩:=ZH hb hB hC;clear hb hA hB hC HL;go_wp2_with fail
 go_loopw [14] (fun i wr=>∃j:Nat,j<=k/\i=ZI j/\Zx w wr) (fun i _=>an-(intOf i).toNat)
 case atStart=>exact⟨0,ae,rfl,B1.out⟩
 case round =>
  obtain⟨j,hj,rfl,sq⟩:=hrel;have BW:=hid sq;clear sq;obtain⟨x,hx⟩:=ZB ah j ae;have hlt:j<an:=ae
  obtain⟨ab,off,rfl,hc⟩:∃b off,aa=some (ZA b off)/\∀j x,ah[j]? =some x->wr.cell? (ZA b (off+j*2))=some (.string x.1)/\wr.cell? (ZA b (off+j*2+1))=some (.string x.2):=by
   rcases (HAH.out.later BW.out).2.2 with h0 | h
   ·omega
   exact h
  obtain⟨y0,y1⟩:=hc j x hx;obtain⟨p',r'⟩:=x;have hne:j<k->((p'.toList==p.toList)&&(r'.toList==s.toList))=false:=fun hlk=>A6 (ah:=ah.take k) (x:=(p,s)) (y:=(p',r')) (j:=j) (by rw[List.getElem?_take_of_lt hlk]; exact hx) h2
  have heq:j=k->p'=y.1/\r'=y.2:=fun h=>by subst h; rw[hx]at hy; simp at hy; subst hy; exact⟨rfl,rfl⟩
  clear hc;have yB:wr.cell? (ZA B 0)=some (.string p):=(BW.out.cell oq).trans HB.out;have yC:wr.cell? (ZA C 0)=some (ZI xr):=(BW.out.cell oG).trans HC.out;have hBl':=ZQ yB;have hCl':=ZQ yC;simp only at y0 y1;obtain⟨z0,z1,z2,z3⟩:=Fp (p':=p') (r':=r') p xr B C hBl' hCl' yB yC;go_wp2_with fail;have BN:=hid (aj wr (aW p' r'));generalize wr.alloc (aW p' r')=W1 at *;clear y0 y1 yB yC
  by_cases hjk:j<k
  ·have hne:=hne hjk;clear heq;exact NH
  obtain⟨rfl,rfl⟩:=heq ae
  have k1:(y.1.toList==p.toList)=true:=by simp[hy1]
  have k2:(y.2.toList==s.toList)=true:=by simp[hy2]
  clear hne hy1 hy2
  go_region_dies
  all_goals (refine(gi rfl).mono ?_; rintro e w' ⟨rfl,rfl⟩; exact⟨rfl,⟨_,rfl⟩,(BW.out.trans (BN.out.mono BW.out.size)).drew⟩)
end
variable {w1 w2:World}
theorem jJ(h:Zx w w1)(h':Zx w1 w2):Zx w w2:=h.trans (h'.mono h.size)
variable {R g g' b:Nat}
theorem Stp.ne(h:Stp R g g' w w')(hb:b<w.heap.size)(hn:b≠g):b≠g':=by
 rcases h.m with rfl | h
 ·exact hn
 omega
variable {cap:Nat}{bs:LIz}
theorem Wr.g_lt(h:Wr w R g cap bs):g<w.heap.size:=h.row.lt
variable {fn:Func}
theorem og{p:Tmp}{ty:TypeId}(h:fn.results=#[.cell p ty])(tmps:AVz)(P:Program)(w:World) :
  (results fn tmps).run P w=((asAddr (tmps.getD p undef)).run P w).andThen fun a w₁=>(loadVar ty a).run P w₁:=by
 simp only[results,h];simp[Sem.run_bind,Result.andThen]
theorem aB(w:World)(b o:Nat)(v:Value):Kept (fun k=>k=b) w (w.setCell (ZA b o) v):=⟨rfl,rfl,rfl,by simp[World.setCell],fun k hk hs=>Below.heap_setCell _ _ _ _ (by simpa using hs)⟩
variable {o:Nat}
theorem Wr.set(h:Wr w R g cap bs){v:Value}(h1:b≠R)(h2:b≠g):Wr (w.setCell (ZA b o) v) R g cap bs:=h.kept (aB w b o v) (Ne.symm h1) (Ne.symm h2)
theorem Stp.set(h:Stp R g g' w w'){v:Value}(hb:w.heap.size<=b):Stp R g g' w (w'.setCell (ZA b o) v) :=
 ⟨h.k.then (aB w' b o v) (fun k hk hb'=>ae),h.m⟩
theorem Stp.block(h:Stp R g g' w w')(hb:b<w.heap.size)(h1:b≠R)(h2:b≠g):w'.heap[b]? =w.heap[b]?:=h.k.block b hb (by simp[h1,h2])
variable {t:TypeId}
theorem cS{u v:Value}(h:w.heap[b]? =some (.cells #[u,v] t)):w.cell? (ZA b 0)=some u/\w.cell? (ZA b 1)=some v/\w.frozen? (ZA b 0)=false/\w.frozen? (ZA b 1)=false:=by
 simp[World.cell?,World.frozen?,h]
def pG(w:World)(p r:BAz)(aa:OAz)(an ac:Nat)(n:Nat):World :=
 (((w.alloc (aW p r)).alloc (kT aa an ac)).alloc (aW ⟨#[]⟩ ⟨#[]⟩)).alloc (bR n)
theorem pj(w:World)(p r:BAz)(aa:OAz)(an ac n:Nat):Zx w (pG w p r aa an ac n)/\(pG w p r aa an ac n).heap.size=w.heap.size+4 /\
  (pG w p r aa an ac n).cell? (ZA w.heap.size 0)=some (.string p)/\(pG w p r aa an ac n).cell? (ZA w.heap.size 1)=some (.string r) /\
  (pG w p r aa an ac n).cell? (ZA (w.heap.size+1) 0)=some (.slice aa an ac)/\(pG w p r aa an ac n).cell? (ZA (w.heap.size+1+1+1) 0)=some (ZI n)/\(pG w p r aa an ac n).heap[w.heap.size+1+1]? =some (aW ⟨#[]⟩ ⟨#[]⟩):=by
 unfold pG;refine⟨?_,av,dB,dB,dB,dB,?_⟩;rotate_left
 ·have h1:=(ZZ ((w.alloc (aW p r)).alloc (kT aa an ac)) (aW ⟨#[]⟩ ⟨#[]⟩)).1;have h2:=(aj (((w.alloc (aW p r)).alloc (kT aa an ac)).alloc (aW ⟨#[]⟩ ⟨#[]⟩)) (bR n)).block (w.heap.size+1+1) av;rw[h2]
  simpa using h1
 exact((((ZT _ w).alloc lRn _).alloc bI _).alloc bI _).alloc bI _
theorem CN(R g cap:Nat)(bs:LIz)(p r:BAz)(aa:OAz)(an ac:Nat)(ah:List Sg)(w:World)(h:Wr w R g cap bs)(hb:bs.length+100<=1099511627776)
  (sR:dC w aa an ah) (hne:∀b off c,aa=some ⟨b,off,c⟩->b≠R/\b≠g) (hx:cV ah (p,r)=0) :
  Zw 133 #[cW R,.agg #[.string p,.string r],.slice aa an ac] w (qX R g bs (bP (p,r)) (.agg #[.string p,.string r]) w):=by
 obtain⟨s1,l1,s2,l2,t2⟩:=eZ hx;simp only at s1 l1 s2 l2 t2;clear hx;obtain⟨B0,z0,x0,x1,x2,x3,x4⟩:=pj w p r aa an ac bs.length;have H4:=hid (h.later B0);have HAH:=hid (sR.later B0);have OF:=h.lt;have hgl:=h.g_lt;have u1:=ek p 8 s1;have u2:=ek r 8 s2;have hmp:=ou;have hcp:=uI;have hmt:=eW;have hct:=fO
 have c0:(((w.alloc (aW p r)).alloc (kT aa an ac)).alloc (aW ⟨#[]⟩ ⟨#[]⟩)).cell? (ZA R 0)=some (ZL g bs.length cap):=by
  exact zi
 have HW4:(((w.alloc (aW p r)).alloc (kT aa an ac)).alloc (aW ⟨#[]⟩ ⟨#[]⟩)).alloc (bR bs.length)=pG w p r aa an ac bs.length:=rfl;generalize pG w p r aa an ac bs.length=W4 at *;have B4:=hid B0;clear h sR B0;have HT1:=hid (fg R g cap bs p 8 183 #[] W4 H4.out ae ae ae (fun _ _=>rfl) (eY p bs.length W4 ae Er));go_enter func133,ntmps133
 go_wp2_with fail;refine(eF R _ _ _ _ c0).mono ?_;rintro e w1⟨rfl,rfl⟩;clear c0;go_wp2_with fail;refine HT1.out.mono ?_;rintro e w5⟨rfl,g1,An,Lo,hs5⟩;have y0:=hs5.cell x0 ae ae;have y1:=hs5.cell x1 ae ae;have y2:=hs5.cell x2 ae ae;have y3:=hs5.cell x3 ae ae;have hN1:w.heap.size+1+1≠g1:=hs5.ne ae ae;have y4:=(hs5.block (b:=w.heap.size+1+1) ae ae ae).trans x4;have hl5:=ZQ y3;have hl5':=ZQ y1;have B6:=hid (aj w5 (cA p));have N6:=hid (ij w5 (.string p) 9);have W5:=hid Lo;have S5:=hid ((Stp.of_below B4.out).trans hs5)
 have A5:=hid (HAH.out.kept hs5.k (fun b off c ha=>by have:=hne b off c ha; simp; omega));clear HT1 Lo hs5 x0 x1 x2 x3 H4 HW4
 have HT2:=hid (fg R g1 An (bs++gz p) r 8 184 #[ZP (w.heap.size+1) 0,ZP w5.heap.size 0,ZP (w.heap.size+1+1+1) 0] _ (W5.out.later B6.out) ae ae aA (fun _ _=>rfl)
  (CL r p _ bs.length (w.heap.size+1) w5.heap.size (w.heap.size+1+1+1) aa an ac ah _ ae (by rw[gg r 256 8 ae s2]; exact l2) (A5.out.later B6.out) t2 ((B6.out.cell (by exact ZQ y2)).trans y2) N6.out ((B6.out.cell (by exact hl5)).trans y3)))
 go_wp2_with fail;refine HT2.out.mono ?_;rintro e w7⟨rfl,g2,cap2,hw7,hs7⟩;have W7:=hid hw7;have S7:=hid ((S5.out.trans (Stp.of_below B6.out)).trans hs7)
 have q0:=hs7.cell N6.out ae (by have:=W5.out.g_lt; omega);have q1:=ZQ q0;have hz6:(w5.alloc (cA p)).heap.size=w5.heap.size+1:=av;have q2:=(hs7.block (b:=w.heap.size+1+1) ae ae hN1).trans ((B6.out.block _ ae).trans y4);obtain⟨q3,q4,q5,q6⟩:=cS q2;have hN2:w.heap.size+1+1≠g2:=hs7.ne ae hN1;clear hw7 hs7 HT2 y0 y1 y2 y3 y4 q2;go_wp2_with fail;refine i4 (v:=.agg #[.string p,.string r]) ?_ rfl ⟨rfl,g2,cap2,?_,?_⟩
 ·exact iw
 ·have:=(W7.out.set (b:=w.heap.size+1+1) (o:=0) (v:=.string p) ae hN2).set (b:=w.heap.size+1+1) (o:=1) (v:=.string r) ae hN2
  simpa[bP,gz,Z2] using this
 exact(S7.out.set ae).set ae
theorem wh(R g cap:Nat)(bs:LIz)(p r:BAz)(aa:OAz)(an ac:Nat)(w:World)(h:Wr w R g cap bs)(x:Int)
  (ht:∀W,Wr W R g cap bs->Zw 323 #[ZP R 0,.string p,ZI 8,.func (.func 183) #[] #[]] W (aQ R g x W)) :
  Zw 133 #[cW R,.agg #[.string p,.string r],.slice aa an ac] w (aQ R g x w):=by
 obtain⟨B0,z0,x0,x1,x2,x3,x4⟩:=pj w p r aa an ac bs.length;have H4:=hid (h.later B0);have OF:=h.lt;have hgl:=h.g_lt;have hmp:=ou;have hcp:=uI;have hmt:=eW;have hct:=fO
 have c0:(((w.alloc (aW p r)).alloc (kT aa an ac)).alloc (aW ⟨#[]⟩ ⟨#[]⟩)).cell? (ZA R 0)=some (ZL g bs.length cap):=by
  exact zi
 have HW4:(((w.alloc (aW p r)).alloc (kT aa an ac)).alloc (aW ⟨#[]⟩ ⟨#[]⟩)).alloc (bR bs.length)=pG w p r aa an ac bs.length:=rfl;generalize pG w p r aa an ac bs.length=W4 at *;have B4:=hid B0;clear h B0;have HT1:=hid (ht W4 H4.out);clear ht;go_enter func133,ntmps133
 go_wp2_with fail;refine(eF R _ _ _ _ c0).mono ?_;rintro e w1⟨rfl,rfl⟩;clear c0;go_wp2_with fail;refine HT1.out.mono ?_;rintro e w5⟨⟨q,rfl⟩,hk⟩;exact⟨rfl,⟨q,rfl⟩,(bC B4.out).trans hk⟩
theorem qy(R g cap:Nat)(bs:LIz)(p r:BAz)(aa:OAz)(an ac:Nat)(ah:List Sg)(w:World)(h:Wr w R g cap bs)(hb:bs.length+100<=1099511627776)
  (sR:dC w aa an ah) (hne:∀b off c,aa=some ⟨b,off,c⟩->b≠R/\b≠g) (s1:p.size<=8) (l1:bY p 8=true) (x:Int)
  (ht:∀W g1 An bs1 A B C xr,Wr W R g1 An bs1->dC W aa an ah->W.cell? (ZA A 0)=some (.slice aa an ac)->W.cell? (ZA B 0)=some (.string p)->W.cell? (ZA C 0)=some (ZI xr) ->
   Zw 323 #[ZP R 0,.string r,ZI 8,.func (.func 184) #[] #[.pointer (some ⟨A,0,none⟩),.pointer (some ⟨B,0,none⟩),.pointer (some ⟨C,0,none⟩)]] W (aQ R g1 x W)) :
  Zw 133 #[cW R,.agg #[.string p,.string r],.slice aa an ac] w (aQ R g x w):=by
 obtain⟨B0,z0,x0,x1,x2,x3,x4⟩:=pj w p r aa an ac bs.length;have H4:=hid (h.later B0);have HAH:=hid (sR.later B0);have OF:=h.lt;have hgl:=h.g_lt;have u1:=ek p 8 s1;have hmp:=ou;have hcp:=uI;have hmt:=eW;have hct:=fO
 have c0:(((w.alloc (aW p r)).alloc (kT aa an ac)).alloc (aW ⟨#[]⟩ ⟨#[]⟩)).cell? (ZA R 0)=some (ZL g bs.length cap):=by
  exact zi
 have HW4:(((w.alloc (aW p r)).alloc (kT aa an ac)).alloc (aW ⟨#[]⟩ ⟨#[]⟩)).alloc (bR bs.length)=pG w p r aa an ac bs.length:=rfl;generalize pG w p r aa an ac bs.length=W4 at *;have B4:=hid B0;clear h sR B0;have HT1:=hid (fg R g cap bs p 8 183 #[] W4 H4.out ae ae ae (fun _ _=>rfl) (eY p bs.length W4 ae Er));have HT:=hid ht;clear ht;go_enter func133,ntmps133
 go_wp2_with fail;refine(eF R _ _ _ _ c0).mono ?_;rintro e w1⟨rfl,rfl⟩;clear c0;go_wp2_with fail;refine HT1.out.mono ?_;rintro e w5⟨rfl,g1,An,Lo,hs5⟩;have y0:=hs5.cell x0 ae ae;have y1:=hs5.cell x1 ae ae;have y2:=hs5.cell x2 ae ae;have y3:=hs5.cell x3 ae ae;have hN1:w.heap.size+1+1≠g1:=hs5.ne ae ae;have y4:=(hs5.block (b:=w.heap.size+1+1) ae ae ae).trans x4;have hl5:=ZQ y3;have hl5':=ZQ y1;have B6:=hid (aj w5 (cA p));have N6:=hid (ij w5 (.string p) 9);have W5:=hid Lo;have S5:=hid ((Stp.of_below B4.out).trans hs5)
 have A5:=hid (HAH.out.kept hs5.k (fun b off c ha=>by have:=hne b off c ha; simp; omega));clear HT1 Lo hs5 x0 x1 x2 x3 H4 HW4;have HT2:=hid (HT.out _ g1 An _ (w.heap.size+1) w5.heap.size (w.heap.size+1+1+1) bs.length (W5.out.later B6.out) (A5.out.later B6.out) ((B6.out.cell (by exact ZQ y2)).trans y2) N6.out ((B6.out.cell (by exact hl5)).trans y3));clear HT;go_wp2_with fail;refine HT2.out.mono ?_;rintro e w7⟨⟨q,rfl⟩,hk⟩;refine⟨rfl,⟨q,rfl⟩,?_⟩;refine(S5.out.k.trans (bC B6.out)).then hk (fun k hkl hh=>?_)
 rcases hh with rfl | rfl
 ·exact .inl rfl
 rcases S5.out.m with h | h
 ·exact .inr h
 omega
theorem KS(R g cap:Nat)(bs:LIz)(p r:BAz)(aa:OAz)(an ac:Nat)(ah:List Sg)(w:World)(h:Wr w R g cap bs)(hb:bs.length+100<=1099511627776)
  (sR:dC w aa an ah) (hne:∀b off c,aa=some ⟨b,off,c⟩->b≠R/\b≠g) (hx:cV ah (p,r)≠0) :
  Zw 133 #[cW R,.agg #[.string p,.string r],.slice aa an ac] w (aQ R g (cV ah (p,r)) w):=by
 unfold cV at hx ⊢;simp only at hx ⊢
 by_cases s1:8<p.size
 ·rw[if_pos s1]
  exact wh R g cap bs p r aa an ac w h 13 (fun W hW=>ie R g cap bs p 8 _ W hW ae)
 rw[if_neg s1]at hx ⊢
 by_cases l1:bY p 8=false
 ·rw[if_pos l1]
  exact wh R g cap bs p r aa an ac w h 15 (fun W hW=>gQ R g cap bs p 8 183 #[] 15 W hW ae (fun _ _=>rfl) (kJ p bs.length W ae (by rw[gg p 256 8 ae ae]; exact l1)))
 rw[if_neg l1]at hx ⊢
 have l1':bY p 8=true:=by simpa using l1
 by_cases s2:8<r.size
 ·rw[if_pos s2]
  exact qy R g cap bs p r aa an ac ah w h hb sR hne ae l1' 13 (fun W g1 An bs1 A B C xr hW _ _ _ _=>ie R g1 An bs1 r 8 _ W hW ae)
 rw[if_neg s2]at hx ⊢
 by_cases l2:bY r 8=false
 ·rw[if_pos l2]
  exact qy R g cap bs p r aa an ac ah w h hb sR hne ae l1' 15 (fun W g1 An bs1 A B C xr hW _ _ _ _=>gQ R g1 An bs1 r 8 184 _ 15 W hW ae (fun _ _=>rfl) (Jy r _ A B C W ae (by rw[gg r 256 8 ae ae]; exact l2)))
 rw[if_neg l2]at hx ⊢
 have l2':bY r 8=true:=by simpa using l2
 by_cases t2:ia ah (p,r)=true
 ·rw[if_pos t2];obtain⟨k,y,h1,h2,h3,h4⟩:=N0 t2
  exact qy R g cap bs p r aa an ac ah w h hb sR hne ae l1' 16 (fun W g1 An bs1 A B C xr hW hA hc1 hc2 hc3=>gQ R g1 An bs1 r 8 184 _ 16 W hW ae (fun _ _=>rfl)
   (zy r p _ xr A B C aa an ac ah W ae (by rw[gg r 256 8 ae ae]; exact l2') hA k ⟨y,h1,h2,h3⟩ h4 hc1 hc2 hc3))
 rw[if_neg t2]at hx; exact absurd rfl hx
variable {i:Nat}{a:AVz}
theorem ag(h:w.heap[b]? =some (.cells a t)):w.cell? (ZA b i)=a[i]?:=by
 simp[World.cell?,h]
variable {a0:Value}{l:Zah}
theorem iz0(h:w.heap[b]? =some (.cells (List.toArray (a0::l)) t)):w.cell? (ZA b 0)=some a0:=by rw[ag h]; simp
variable {a1:Value}
theorem iz1(h:w.heap[b]? =some (.cells (List.toArray (a0::a1::l)) t)):w.cell? (ZA b 1)=some a1:=by rw[ag h]; simp
variable {a2:Value}
theorem iz2(h:w.heap[b]? =some (.cells (List.toArray (a0::a1::a2::l)) t)):w.cell? (ZA b 2)=some a2:=by rw[ag h]; simp
variable {a3:Value}
theorem iz3(h:w.heap[b]? =some (.cells (List.toArray (a0::a1::a2::a3::l)) t)):w.cell? (ZA b 3)=some a3:=by rw[ag h]; simp
variable {a4:Value}
theorem iz4(h:w.heap[b]? =some (.cells (List.toArray (a0::a1::a2::a3::a4::l)) t)):w.cell? (ZA b 4)=some a4:=by rw[ag h]; simp
variable {a5:Value}
theorem iz5(h:w.heap[b]? =some (.cells (List.toArray (a0::a1::a2::a3::a4::a5::l)) t)):w.cell? (ZA b 5)=some a5:=by rw[ag h]; simp
variable {a6:Value}
theorem iz6(h:w.heap[b]? =some (.cells (List.toArray (a0::a1::a2::a3::a4::a5::a6::l)) t)):w.cell? (ZA b 6)=some a6:=by rw[ag h]; simp
variable {a7:Value}
theorem iz7(h:w.heap[b]? =some (.cells (List.toArray (a0::a1::a2::a3::a4::a5::a6::a7::l)) t)):w.cell? (ZA b 7)=some a7:=by rw[ag h]; simp
variable {a8:Value}
theorem iz8(h:w.heap[b]? =some (.cells (List.toArray (a0::a1::a2::a3::a4::a5::a6::a7::a8::l)) t)):w.cell? (ZA b 8)=some a8:=by rw[ag h]; simp
variable {a9:Value}
theorem iz9(h:w.heap[b]? =some (.cells (List.toArray (a0::a1::a2::a3::a4::a5::a6::a7::a8::a9::l)) t)):w.cell? (ZA b 9)=some a9:=by rw[ag h]; simp
variable {a10:Value}
theorem iz10(h:w.heap[b]? =some (.cells (List.toArray (a0::a1::a2::a3::a4::a5::a6::a7::a8::a9::a10::l)) t)):w.cell? (ZA b 10)=some a10:=by rw[ag h]; simp
variable {a11:Value}
theorem iz11(h:w.heap[b]? =some (.cells (List.toArray (a0::a1::a2::a3::a4::a5::a6::a7::a8::a9::a10::a11::l)) t)):w.cell? (ZA b 11)=some a11:=by rw[ag h]; simp
variable {a12:Value}
theorem iz12(h:w.heap[b]? =some (.cells (List.toArray (a0::a1::a2::a3::a4::a5::a6::a7::a8::a9::a10::a11::a12::l)) t)):w.cell? (ZA b 12)=some a12:=by rw[ag h]; simp
variable {a13:Value}
theorem iz13(h:w.heap[b]? =some (.cells (List.toArray (a0::a1::a2::a3::a4::a5::a6::a7::a8::a9::a10::a11::a12::a13::l)) t)):w.cell? (ZA b 13)=some a13:=by rw[ag h]; simp
variable {a14:Value}
theorem iz14(h:w.heap[b]? =some (.cells (List.toArray (a0::a1::a2::a3::a4::a5::a6::a7::a8::a9::a10::a11::a12::a13::a14::l)) t)):w.cell? (ZA b 14)=some a14:=by rw[ag h]; simp
variable {a15:Value}
theorem iz15(h:w.heap[b]? =some (.cells (List.toArray (a0::a1::a2::a3::a4::a5::a6::a7::a8::a9::a10::a11::a12::a13::a14::a15::l)) t)):w.cell? (ZA b 15)=some a15:=by rw[ag h]; simp
theorem free_at(h:w.heap[b]? =some (.cells a t)):w.frozen? (ZA b i)=false:=by
 simp[World.frozen?,h]
variable {u:Value}
theorem aT(h:w.heap[b]? =some (.cells a t)):(w.setCell (ZA b i) u).heap[b]? =some (.cells (a.setIfInBounds i u) t):=by
 have hl:b<w.heap.size:=by
  exact Fu
 rw[Array.getElem?_eq_getElem hl]at h;simp only[Option.some.injEq]at h;simp[World.setCell,hl,Array.getElem_modify,h]
theorem vw(w:World)(m:Nat):Zx w (w.drewN m):=(Kept.drewN (fun _=>False) w m).to_below lRn (fun _ _ h=>h)
variable {W W':World}
theorem ai(hb:Zx W W')(h:W.cell? (ZA b o)=some u):W'.cell? (ZA b o)=some u:=(hb.cell (by exact ZQ h)).trans h
variable {B:Nat}
theorem dY(h:Below B w w1)(hk:Kept S w1 w2)(hB:B<=w1.heap.size)(hs:∀k,S k->B<=k):Below B w w2 :=
 ⟨hk.os.trans h.os,hk.tape.trans h.tape,hk.output.trans h.output,ZW h.size hk.size,fun k hx=>(hk.block k ae (fun x=>by have:=hs k x; omega)).trans (h.block k hx)⟩
variable {o:Obj}
theorem aK(h:w.heap[b]? =some o):b<w.heap.size:=by
 exact Fu
theorem ar(hb:Zx w w')(h:w.heap[b]? =some o):w'.heap[b]? =some o:=(hb.block b (aK h)).trans h
def thL(ln:Int):Ending:=.panicked [{ v:=.iface 119 (.agg #[ZI ln]),recovered:=false }]
theorem aO(R:Nat)(w:World):Zw 120 #[ZP R 0,.bool true] w (ZG (.tuple #[]) w):=by
 go_enter func120,ntmps120;exact pO
theorem nJ(R:Nat)(ln:Int)(w:World)(h:w.cell? (ZA R 9)=some (ZI ln)):Zw 120 #[ZP R 0,.bool false] w fun e w'=>e=thL ln/\w'=w:=by
 go_enter func120,ntmps120
 go_wp2_with fail;exact⟨rfl,rfl,rfl⟩
theorem Bb(R:Nat)(f p q:Int)(w:World)(h:w.cell? (ZA R 10)=some (ZI p))(hf:w.frozen? (ZA R 10)=false)(h1:f<=p)(h2:p<=q) :
  Zw 168 #[ZP R 0,ZI f,ZI q] w fun e w'=>e=.returned (.tuple #[])/\w'=w.setCell (ZA R 10) (ZI q):=by
 have HM:=hid (aO R w);go_enter func168,ntmps168
 go_wp2_with fail;refine HM.out.mono ?_;rintro e w1⟨rfl,hw⟩;have hw2:=hw.symm;subst hw2;exact pO
theorem Ew(R:Nat)(f p q ln:Int)(w:World)(h9:w.cell? (ZA R 9)=some (ZI ln))(h:w.cell? (ZA R 10)=some (ZI p))(hn:¬(f<=p/\p<=q)) :
  Zw 168 #[ZP R 0,ZI f,ZI q] w fun e w'=>e=thL ln/\w'=w:=by
 have HM:=hid (nJ R ln w h9)
 by_cases h1:f<=p
 ·have h2:¬p<=q:=fun h2=>hn ⟨h1,h2⟩
  exact Gh
 exact Gh
theorem Ml(R:Nat)(f p q:Int)(w:World)(h:w.cell? (ZA R 10)=some (ZI p))(hf:w.frozen? (ZA R 10)=false)(h1:f<=p)(h2:p<q) :
  Zw 167 #[ZP R 0,ZI f,ZI q] w fun e w'=>e=.returned (.tuple #[])/\w'=w.setCell (ZA R 10) (ZI q):=by
 have HM:=hid (aO R w);have HN:=hid (Bb R f p q w h hf h1 (Int.le_of_lt h2));go_enter func167,ntmps167
 go_wp2_with fail;refine HM.out.mono ?_;rintro e w1⟨rfl,hw⟩;have hw2:=hw.symm;subst hw2;go_wp2_with fail;refine HN.out.mono ?_;rintro e w2⟨rfl,hw⟩;exact pO
theorem RB(R:Nat)(f p q ln:Int)(w:World)(h9:w.cell? (ZA R 9)=some (ZI ln))(h:w.cell? (ZA R 10)=some (ZI p))(hn:¬(f<=p/\p<q)) :
  Zw 167 #[ZP R 0,ZI f,ZI q] w fun e w'=>e=thL ln/\w'=w:=by
 by_cases h1:p<q
 ·have HM:=hid (aO R w)
  have HN:=hid (Ew R f p q ln w h9 h (fun x=>hn ⟨x.1,h1⟩));go_enter func167,ntmps167
  go_wp2_with fail;refine HM.out.mono ?_;rintro e w1⟨rfl,hw⟩;have hw2:=hw.symm;subst hw2;go_wp2_with fail;refine HN.out.mono ?_;rintro e w2⟨rfl,hw⟩;exact⟨rfl,rfl,hw⟩
 have HM:=hid (nJ R ln w h9);go_enter func167,ntmps167;exact zn
theorem QU(R:Nat)(p:Int)(w:World)(h:w.cell? (ZA R 10)=some (ZI p))(h1:5<=p) :
  Zw 57 #[ZP R 0] w (ZG (.tuple #[]) w):=by
 have HM:=hid (aO R w);go_enter func57,ntmps57
 go_wp2_with fail;refine HM.out.mono ?_;rintro e w1⟨rfl,hw⟩;exact pO
theorem Wv(R:Nat)(p ln:Int)(w:World)(h9:w.cell? (ZA R 9)=some (ZI ln))(h:w.cell? (ZA R 10)=some (ZI p))(h1:¬5<=p) :
  Zw 57 #[ZP R 0] w fun e w'=>e=thL ln/\w'=w:=by
 have HM:=hid (nJ R ln w h9);go_enter func57,ntmps57;exact zn
def ic(x:Nat):Bool:=x==9 || x==13 || x==32
theorem QF(x:Nat)(w:World):Zw 118 #[.int .i32 x] w (ZG (.bool (ic x)) w):=by
 unfold ic
 by_cases h9:x=9
 ·subst h9;exact sP
 by_cases h13:x=13
 ·subst h13;exact sP
 by_cases h32:x=32
 ·subst h32;exact sP
 have e9:((x:Int)==9)=false:=aA;have e13:((x:Int)==13)=false:=aA;have e32:((x:Int)==32)=false:=aA;have f9:(x==9)=false:=aA;have f13:(x==13)=false:=aA;have f32:(x==32)=false:=aA;rw[f9,f13,f32];exact sP
def BT(T:TypeId):Prop:=liesAt prog prog.depth T (2 / prog.cellsOf T) 0 94 1=true/\T≠5
theorem Xy:BT 94:=⟨ak,au⟩
theorem Vs:BT 96:=⟨ak,au⟩
def dR(b:Nat)(w w':World):Prop:=w.heap.size<=w'.heap.size/\∀k cs e f,w.heap[k]? =some (.cells cs e f)->e≠5->k≠b->w'.heap[k]? =w.heap[k]?
theorem dR.refl(b:Nat)(w:World):dR b w w:=⟨Nat.le_refl _,fun _ _ _ _ _ _ _=>rfl⟩
theorem dR.trans(h:dR b w w1)(h':dR b w1 w2):dR b w w2 :=
 ⟨ZW h.1 h'.1,fun k cs e f hk he hb=>(h'.2 k cs e f ((h.2 k cs e f hk he hb).trans hk) he hb).trans (h.2 k cs e f hk he hb)⟩
variable {k:Nat}
theorem lt_of_block(h:w.heap[k]? =some o):k<w.heap.size:=by
 rcases Zae k w.heap.size with h' | h'
 ·exact h'
 simp[Zaf h']at h
theorem dR.of_below(h:Zx w w'):dR b w w':=⟨h.size,fun k cs e f hk he hb=>h.block k (lt_of_block hk)⟩
theorem dR.set(b o:Nat)(w:World)(v:Value):dR b w (w.setCell (ZA b o) v):=⟨by simp[World.setCell],fun k cs e f hk he hb=>Below.heap_setCell _ _ _ _ (fun x=>hb x)⟩
variable {o:Nat}{cs:AVz}{e:TypeId}
theorem dR.cell(h:dR b w w'){f:Nat×Nat}(hk:w.heap[k]? =some (.cells cs e f))(he:e≠5)(hb:k≠b):w'.cell? (ZA k o)=w.cell? (ZA k o):=cell_of_block (h.2 k cs e f hk he hb) o
variable {base:Nat}{xs:Zah}
theorem dR.grown{v:Value}(hown:w.ownsRow base 5 1 v n xs)(hg:w.grownBy w' v.ownBlock):dR b w w':=by
 refine⟨hg.size,fun k cs e f hk he hb=>hg.block k (lt_of_block hk) fun x=>?_⟩
 rcases hown.2 with ⟨hv,_⟩ | ⟨g,cap,cur,hv,_,hgc,_⟩
 ·rw[hv]at x; simp[Value.ownBlock]at x
 rw[hv]at x;simp[Value.ownBlock]at x;subst x;rw[hk]at hgc;simp at hgc;exact he hgc.2.1
theorem Lv:(prog.info? 94).map (·.size)=some 2:=ak
theorem info5:(prog.info? 5).map (fun i=>(i.zero,i.size,i.bytes))=some (some (ZU 0),1,1):=ak
theorem u92:prog.underlying 92=some (.pointer 94):=ak
theorem X8:prog.underlying 292=some .unsafePointer:=ak
theorem u63:prog.underlying 63=some (.slice 5):=ak
theorem u9:prog.underlying 9=some .string:=ak
theorem cells5:prog.cellsOf 5=1:=ak
theorem vv(b:Nat)(w:World)(h0:w.cell? (ZA b 0)=some (ZP b 0)) :
  Zw 202 #[ZP b 0] w (ZG (.tuple #[]) w):=by
 obtain⟨j,hj,_⟩:=Option.map_eq_some_iff.1 Lv;go_enter func202,ntmps202
 go_wp2;rw[Lib.run_neq_ptr_same w _ u92 hj];go_wp2;go_end0;exact⟨rfl,rfl⟩
variable {T:TypeId}
theorem uY(hT:BT T)(b:Nat)(w:World)(h0:w.cell? (ZA b 0)=some (.pointer none))(hsh:w.shape? b=some (T,2))(hfz:w.frozen? (ZA b 0)=false) :
  Zw 202 #[ZP b 0] w fun e w'=>e=.returned (.tuple #[])/\w'=w.setCell (ZA b 0) (ZP b 0):=by
 obtain⟨j,hj,hjs⟩:=Option.map_eq_some_iff.1 Lv;go_enter func202,ntmps202
 go_wp2
 rw[Lib.run_to_unsafe w (ZA b 0) u92 X8 hj (by rw[hjs]; decide) hsh (Nat.zero_lt_succ 1)];simp only[Result.andThen];rw[Oper.upon_value];go_wp2;rw[run_callFunc_extern func232 ak ak ak (e:=Extern.AbiNoEscape.same) ak];rw[Lib.run_noEscape];simp only[Result.andThen];rw[Oper.upon_value];go_wp2;rw[Lib.run_from_unsafe w (ZA b 0) X8 u92 hj hsh hT.1];simp only[Result.andThen];rw[Oper.upon_value];go_wp2;go_end0;exact⟨rfl,rfl⟩
theorem AR(hT:BT T)(B b:Nat)(bs:Zah)(w:World)(h:Lib.IsBuilder T 5 B b bs w) :
  Zw 202 #[ZP b 0] w fun e w'=>e=.returned (.tuple #[])/\(Lib.BuilderAt T 5 B b (ZP b 0) bs w'/\Below B w w'/\dR b w w'):=by
 rcases h with h | h
 ·refine(uY hT b w h.cell0 h.shape h.frozen0).mono ?_;rintro e w' ⟨rfl,rfl⟩;exact⟨rfl,h.used _,(ZT B w).setCell (p:=(ZA b 0)) h.1 _,dR.set b 0 w _⟩
 refine(vv b w h.cell0).mono ?_;rintro e w' ⟨rfl,rfl⟩;exact⟨rfl,h,ZT B _,dR.refl b _⟩
theorem oM(hT:BT T)(B b:Nat)(bs:Zah)(c:Int)(w:World)(h:Lib.IsBuilder T 5 B b bs w)(hlen:bs.length+1<=140737488355328)(hBw:B<=w.heap.size) :
  Zw 154 #[ZP b 0,ZU c] w fun e w'=>e=.returned .nilIface/\(Lib.BuilderAt T 5 B b (ZP b 0) (bs++[ZU c]) w'/\Below B w w'/\dR b w w'):=by
 obtain⟨i0,hi,hz0,hz1,hz2⟩:=Z0 info5;go_enter func154,ntmps154
 go_wp2_with (go_at_call 202; refine(AR hT B b bs _ h).mono ?_)
 rintro e w1⟨rfl,h1,hb1,hh1⟩;obtain⟨hB,v,hbk,hown,hne⟩:=h1;have c0:w1.cell? (ZA b 0)=some (ZP b 0):=s8;have c1:w1.cell? (ZA b 1)=some v:=s8
 go_wp2_with (at_builtin; refine wpList_append_own _ rfl _ _ 63 rfl B 5 i0 (ZU 0) 1 1 u63 hi hz0 hz1 hz2 rfl au _ _ _ rfl (hown.alloc _) (ZA w1.heap.size 0) 1 1 [ZU c] rfl rfl ?c1 ?c2 ?c3 ?c4 ?c5 ?_)
 case c1 =>
  exact wP
 case c2=>intro u hu; simp at hu; subst hu; rfl
 case c3=>unfold maxLen; omega
 case c4=>omega
 case c5=>have:=hb1.size; simp; omega
 intro v' w2 hown' hgrow _
 have hlt:b<w1.heap.size:=by
  exact FY
 have hb2:w2.heap[b]? =some (.cells #[ZP b 0,v] T (0,0)):=by
  rw[hgrow.block b aA (fun e=>hne e.symm),Lib.alloc_old w1 _ b hlt];exact hbk
 have d0:w2.cell? (ZA b 0)=some (ZP b 0):=sw;have d1:w2.cell? (ZA b 1)=some v:=sw;have f1:w2.frozen? (ZA b 1)=false:=Lib.frozen_of_heap hb2 1
 obtain⟨g,cap,rfl⟩:∃g cap,v'=ZL g (bs.length+1) cap:=by
  rcases hown'.2 with ⟨_,h0⟩ | ⟨g,cap,cur,hv,_⟩
  ·omega
  exact⟨g,cap,hv⟩
 go_wp2;go_ret;refine⟨rfl,?_,?_,?_⟩
 ·exact Lib.BuilderAt.put (T:=T) (e:=5) hB hb2 (bs':=bs++[ZU c]) (by simpa using hown') hT.2
 ·exact((hb1.alloc (by have:=hb1.size; omega) _).grown hgrow (by have:=hb1.size; simp; omega) (fun k hk=>(hown.lt k hk).1)).setCell (p:=(ZA b 1)) hB _
 exact hh1.trans (((dR.of_below ((ZT _ w1).alloc lRn _)).trans (dR.grown (hown.alloc _) hgrow)).trans (dR.set b 1 _ _))
theorem CQ(hT:BT T)(B b:Nat)(bs:Zah)(s:BAz)(w:World)(h:Lib.IsBuilder T 5 B b bs w)(hlen:bs.length+s.size<=140737488355328)(hBw:B<=w.heap.size) :
  Zw 152 #[ZP b 0,.string s] w fun e w'=>e=.returned (.tuple #[ZI s.size,.nilIface])/\(Lib.BuilderAt T 5 B b (ZP b 0) (bs++Lib.strCells s) w'/\Below B w w'/\dR b w w'):=by
 obtain⟨i0,hi,hz0,hz1,hz2⟩:=Z0 info5;go_enter func152,ntmps152
 go_wp2_with (go_at_call 202; refine(AR hT B b bs _ h).mono ?_)
 rintro e w1⟨rfl,h1,hb1,hh1⟩;obtain⟨hB,v,hbk,hown,hne⟩:=h1;have c0:w1.cell? (ZA b 0)=some (ZP b 0):=s8;have c1:w1.cell? (ZA b 1)=some v:=s8
 go_wp2_with (at_builtin; refine Lib.wpList_append_own_string _ rfl _ _ 63 9 rfl B 5 i0 u63 u9 hi hz0 hz1 hz2 _ _ _ rfl hown s rfl ?c3 ?c4 ?c5 ?_)
 case c3=>unfold maxLen; omega
 case c4=>omega
 case c5=>have:=hb1.size; omega
 intro v' w2 hown' hgrow _
 have hlt:b<w1.heap.size:=by
  exact FY
 have hb2:w2.heap[b]? =some (.cells #[ZP b 0,v] T (0,0)):=by
  rw[hgrow.block b hlt (fun e=>hne e.symm)];exact hbk
 have d0:w2.cell? (ZA b 0)=some (ZP b 0):=sw;have d1:w2.cell? (ZA b 1)=some v:=sw;have f1:w2.frozen? (ZA b 1)=false:=Lib.frozen_of_heap hb2 1
 obtain⟨ao,n',cap,rfl⟩:∃ao n' cap,v'=.slice ao n' cap:=by
  rcases hown'.2 with ⟨hv,_⟩ | ⟨g,cap,cur,hv,_⟩
  ·exact⟨_,_,_,hv⟩
  exact⟨_,_,_,hv⟩
 go_wp2;go_ret2;refine⟨rfl,?_,?_,?_⟩
 ·exact Lib.BuilderAt.put (T:=T) (e:=5) hB hb2 (bs':=bs++Lib.strCells s) (by simpa[Lib.strCells_length] using hown') hT.2
 ·exact(hb1.grown hgrow (by have:=hb1.size; omega) (fun k hk=>(hown.lt k hk).1)).setCell (p:=(ZA b 1)) hB _
 exact hh1.trans ((dR.grown hown hgrow).trans (dR.set b 1 _ _))
end
end Go.Proofs.YtheefojaplnnoaaGreatDoor
