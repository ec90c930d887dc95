/-
  Texts Pd Pe Pf Fnd.
-/
import Derived.Test.YtheefojaplnnoaaGreatDoorY00
import Derived.Test.YtheefojaplnnoaaGreatDoorY01
import Derived.Test.YtheefojaplnnoaaGreatDoorY04
import Derived.Test.YtheefojaplnnoaaGreatDoorY06
import Derived.Test.YtheefojaplnnoaaGreatDoorY11
import Derived.Test.YtheefojaplnnoaaGreatDoorY20
set_option linter.unusedVariables false
set_option maxRecDepth 100000
set_option maxHeartbeats 16000000
namespace Go.Proofs.YtheefojaplnnoaaGreatDoor
open Go.RowKit
def kC(mp:Value)(m:MM)(ln pt:Int):Array Value:=#[mp,.slice m.ta m.tn m.tc,.slice m.ha m.hn m.hc,.slice m.ga m.gn m.gc,.int .i64 m.fi,.int .i64 m.mo,.slice m.fa m.fn m.fc,.slice m.da m.dn m.dc,.slice m.ea m.en m.ec,.int .i64 ln,.int .i64 pt]
structure FnO(w:World)(base:Nat)(x:FuM):Prop where
 code:w.ownsRow base 75 3 (.slice x.2.2.1.1 x.2.2.1.2.1 x.2.2.1.2.2) x.2.2.1.2.1 (x.2.2.2.flatMap eQ)
 lab:∀y∈x.2.2.2,w.ownsRow base 3 1 (.slice y.2.2.1.1 y.2.2.1.2.1 y.2.2.1.2.2) y.2.2.1.2.1 (y.2.2.2.flatMap iw)
def fcb(x:FuM):Option Nat:=(Value.slice x.2.2.1.1 x.2.2.1.2.1 x.2.2.1.2.2).ownBlock
structure RQ(base R:Nat)(mp:Value)(m:MM)(ln pt:Int)(w:World):Prop where
 blk:w.heap[R]? =some (.cells (kC mp m ln pt) 126)
 low:R<base
 bw:base≤w.heap.size
 rt:w.ownsRow base 73 2 (.slice m.ta m.tn m.tc) m.tn (m.types.flatMap nU)
 rh:w.ownsRow base 3 1 (.slice m.ha m.hn m.hc) m.hn (m.hosts.flatMap iw)
 rg:w.ownsRow base 102 3 (.slice m.ga m.gn m.gc) m.gn (m.globals.flatMap eT)
 rf:w.ownsRow base 78 3 (.slice m.fa m.fn m.fc) m.fn (m.fns.flatMap dR)
 rd:w.ownsRow base 81 2 (.slice m.da m.dn m.dc) m.dn (m.data.flatMap nX)
 re:w.ownsRow base 83 2 (.slice m.ea m.en m.ec) m.en (m.exps.flatMap oU)
 fo:∀x∈m.fns,FnO w base x
 fd:∀(i j:Nat)x y k,m.fns[i]? =some x→m.fns[j]? =some y→i≠j→fcb x=some k→fcb y≠some k
 dd:∀x∈m.data,w.ownsRow base 5 1 (.slice x.2.1.1 x.2.1.2.1 x.2.1.2.2) x.2.1.2.1 (x.2.2.flatMap tu)
 nf:pt<6→m.fns=[]
abbrev KR(base R:Nat)(w w':World):Prop:=Kept (fun k=>k=R∨base≤k) w w'
theorem iK{w:World}{base e k n:Nat}{v:Value}{xs:List Value}(h:w.ownsRow base e k v n xs){b:Nat}(hb:v.ownBlock=some b):base≤b∧∃cur,w.heap[b]? =some (.cells cur e (0,0)):=by
 rcases h.2 with ⟨rfl,_⟩ | ⟨g,cap,cur,rfl,h2,h3,_⟩
 ·simp[Value.ownBlock]at hb
 ·simp only[Value.ownBlock,Option.some.injEq]at hb
  subst hb;exact⟨h2,cur,h3⟩
theorem eN{w w':World}{base e k n:Nat}{v:Value}{xs:List Value}(h:w.ownsRow base e k v n xs)(hb:Below w.heap.size w w'):w'.ownsRow base e k v n xs :=
 jE (S:=fun _=>False) h ⟨hb.os,hb.tape,hb.output,hb.size,fun k hk _=>hb.block k hk⟩ (fun _ _=>id)
theorem FnO.later{w w':World}{base:Nat}{x:FuM}(h:FnO w base x)(hb:Below w.heap.size w w'):FnO w' base x:=⟨eN h.code hb,fun y hy=>eN (h.lab y hy) hb⟩
theorem RQ.later{base R:Nat}{mp:Value}{m:MM}{ln pt:Int}{w w':World}(h:RQ base R mp m ln pt w)(hb:Below w.heap.size w w'):RQ base R mp m ln pt w' :=
 ⟨au hb h.blk,h.low,Nat.le_trans h.bw hb.size,eN h.rt hb,eN h.rh hb,eN h.rg hb,eN h.rf hb,eN h.rd hb,eN h.re hb,fun x hx=>(h.fo x hx).later hb,h.fd,fun x hx=>eN (h.dd x hx) hb,h.nf⟩
theorem bP{w:World}{base e k n R o:Nat}{v u:Value}{xs:List Value}(h:w.ownsRow base e k v n xs)(hR:R<base):(w.setCell ⟨R,o,none⟩ u).ownsRow base e k v n xs :=
 jE (S:=fun k=>k=R) h (aw w R o u) (fun b hb e=>by have:=(iK h hb).1; omega)
theorem RQ.set{base R:Nat}{mp:Value}{m m':MM}{ln pt ln' pt':Int}{w:World}(h:RQ base R mp m ln pt w)(o:Nat)(u:Value)(hA:(kC mp m ln pt).setIfInBounds o u=kC mp m' ln' pt')
  (e1:m'.ta=m.ta∧m'.tn=m.tn∧m'.tc=m.tc∧m'.types=m.types) (e2:m'.ha=m.ha∧m'.hn=m.hn∧m'.hc=m.hc∧m'.hosts=m.hosts) (e3:m'.ga=m.ga∧m'.gn=m.gn∧m'.gc=m.gc∧m'.globals=m.globals) (e4:m'.fa=m.fa∧m'.fn=m.fn∧m'.fc=m.fc∧m'.fns=m.fns) (e5:m'.da=m.da∧m'.dn=m.dn∧m'.dc=m.dc∧m'.data=m.data) (e6:m'.ea=m.ea∧m'.en=m.en∧m'.ec=m.ec∧m'.exps=m.exps)
  (hp:pt'<6→pt<6):RQ base R mp m' ln' pt' (w.setCell ⟨R,o,none⟩ u):=by
 obtain⟨a1,a2,a3,a4⟩:=e1;obtain⟨b1,b2,b3,b4⟩:=e2;obtain⟨c1,c2,c3,c4⟩:=e3;obtain⟨d1,d2,d3,d4⟩:=e4;obtain⟨f1,f2,f3,f4⟩:=e5;obtain⟨g1,g2,g3,g4⟩:=e6
 refine⟨?_,h.low,by simpa[World.setCell] using h.bw,?_,?_,?_,?_,?_,?_,?_,?_,?_,?_⟩
 ·rw[bS h.blk,hA]
 ·rw[a1,a2,a3,a4]; exact bP h.rt h.low
 ·rw[b1,b2,b3,b4]; exact bP h.rh h.low
 ·rw[c1,c2,c3,c4]; exact bP h.rg h.low
 ·rw[d1,d2,d3,d4]; exact bP h.rf h.low
 ·rw[f1,f2,f3,f4]; exact bP h.rd h.low
 ·rw[g1,g2,g3,g4]; exact bP h.re h.low
 ·rw[d4]; exact fun x hx=>⟨bP (h.fo x hx).code h.low,fun y hy=>bP ((h.fo x hx).lab y hy) h.low⟩
 ·rw[d4]; exact h.fd
 ·rw[f4]; exact fun x hx=>bP (h.dd x hx) h.low
 ·rw[d4]; exact fun hx=>h.nf (hp hx)
theorem RQ.part{base R:Nat}{mp:Value}{m:MM}{ln pt:Int}{w:World}(h:RQ base R mp m ln pt w)(q:Int)(hq:pt≤q):RQ base R mp m ln q (w.setCell ⟨R,10,none⟩ (.int .i64 q)) :=
 h.set 10 _ rfl ⟨rfl,rfl,rfl,rfl⟩ ⟨rfl,rfl,rfl,rfl⟩ ⟨rfl,rfl,rfl,rfl⟩ ⟨rfl,rfl,rfl,rfl⟩ ⟨rfl,rfl,rfl,rfl⟩ ⟨rfl,rfl,rfl,rfl⟩ (fun x=>ae)
theorem RQ.line{base R:Nat}{mp:Value}{m:MM}{ln pt:Int}{w:World}(h:RQ base R mp m ln pt w)(l:Int):RQ base R mp m l pt (w.setCell ⟨R,9,none⟩ (.int .i64 l)) :=
 h.set 9 _ rfl ⟨rfl,rfl,rfl,rfl⟩ ⟨rfl,rfl,rfl,rfl⟩ ⟨rfl,rfl,rfl,rfl⟩ ⟨rfl,rfl,rfl,rfl⟩ ⟨rfl,rfl,rfl,rfl⟩ ⟨rfl,rfl,rfl,rfl⟩ id
theorem RQ.cells{base R:Nat}{mp:Value}{m:MM}{ln pt:Int}{w:World}(h:RQ base R mp m ln pt w)(i:Nat):w.cell? ⟨R,i,none⟩=(kC mp m ln pt)[i]?:=ak h.blk
theorem RQ.free{base R:Nat}{mp:Value}{m:MM}{ln pt:Int}{w:World}(h:RQ base R mp m ln pt w)(i:Nat):w.frozen? ⟨R,i,none⟩=false:=free_at h.blk
theorem KR.set(base R o:Nat)(w:World)(u:Value):KR base R w (w.setCell ⟨R,o,none⟩ u):=by
 have h:=aw w R o u
 exact⟨h.os,h.tape,h.output,h.size,fun k hk hs=>h.block k hk (fun e=>hs (.inl e))⟩
theorem KR.later{base R:Nat}{w w':World}(hb:Below w.heap.size w w'):KR base R w w':=⟨hb.os,hb.tape,hb.output,hb.size,fun k hk _=>hb.block k hk⟩
theorem bF{W w':World}{base e k n:Nat}{v:Value}{xs:List Value}(h:W.ownsRow base e k v n xs){u:Value}{base' e' k' n':Nat}{xs':List Value}(hu:W.ownsRow base' e' k' u n' xs')(hg:W.grownBy w' u.ownBlock)(he:e≠e'):w'.ownsRow base e k v n xs:=by
 refine h.kept hg ?_
 rcases hv:v.ownBlock with _ | b
 ·exact .inl rfl
 ·refine .inr fun hx=>?_
  obtain⟨_,cur,h1⟩:=iK h hv;obtain⟨_,cur',h2⟩:=iK hu hx.symm;rw[h1]at h2
  simp only[Option.some.injEq,Obj.cells.injEq]at h2
  exact he h2.2.1
theorem cr{W w':World}{base R:Nat}{o:Obj}(h:W.heap[R]? =some o)(hR:R<base){u:Value}{e' k' n':Nat}{xs':List Value}(hu:W.ownsRow base e' k' u n' xs')(hg:W.grownBy w' u.ownBlock):w'.heap[R]? =some o:=by
 refine(hg.block R (aJ h) fun hx=>?_).trans h
 have:=(iK hu hx.symm).1
 omega
theorem KR.grow{W w':World}{base R:Nat}{u:Value}{e' k' n':Nat}{xs':List Value}(hu:W.ownsRow base e' k' u n' xs')(hg:W.grownBy w' u.ownBlock):KR base R W w' :=
 ⟨hg.os,hg.tape,hg.output,hg.size,fun k hk hs=>hg.block k hk fun hx=>hs (.inr (iK hu hx.symm).1)⟩
theorem KR.trans{base R:Nat}{w1 w2 w3:World}(h:KR base R w1 w2)(h':KR base R w2 w3):KR base R w1 w3 :=
 ⟨h'.os.trans h.os,h'.tape.trans h.tape,h'.output.trans h.output,Nat.le_trans h.size h'.size,fun k hk hs=>(h'.block k (Nat.lt_of_lt_of_le hk h.size) hs).trans (h.block k hk hs)⟩
section
variable {base R:Nat} {mp:Value} {m:MM} {ln pt:Int} {w W w':World} {g cap:Nat}
theorem RQ.pushT(h:RQ base R mp m ln pt w)(hW:Below w.heap.size w W)(x:Sg)(ho:w'.ownsRow base 73 2 (.slice (some ⟨g,0,none⟩) (m.tn+1) cap) (m.tn+1) (m.types.flatMap nU++nU x))(hg:W.grownBy w' (Value.slice m.ta m.tn m.tc).ownBlock) :
  RQ base R mp { m with ta:=some ⟨g,0,none⟩,tn:=m.tn+1,tc:=cap,types:=m.types++[x] } ln pt (w'.setCell ⟨R,1,none⟩ (.slice (some ⟨g,0,none⟩) (m.tn+1) cap))∧KR base R w (w'.setCell ⟨R,1,none⟩ (.slice (some ⟨g,0,none⟩) (m.tn+1) cap)):=by
 have hq:=h.later hW;have hu:=hq.rt;have hR:=h.low;refine⟨⟨?_,hR,?_,?_,?_,?_,?_,?_,?_,?_,?_,?_,?_⟩,((KR.later hW).trans (KR.grow hu hg)).trans (KR.set base R _ w' _)⟩
 ·exact lZ
 ·exact kj
 ·exact mn
 ·exact oI
 ·exact oJ
 ·exact nY
 ·exact nR
 ·exact nV
 ·exact wn
 ·exact h.fd
 ·exact pc
 ·exact h.nf
theorem RQ.pushH(h:RQ base R mp m ln pt w)(hW:Below w.heap.size w W)(x:Int)(hpt:pt<6)(ho:w'.ownsRow base 3 1 (.slice (some ⟨g,0,none⟩) (m.hn+1) cap) (m.hn+1) (m.hosts.flatMap iw++iw x))(hg:W.grownBy w' (Value.slice m.ha m.hn m.hc).ownBlock) :
  RQ base R mp { m with ha:=some ⟨g,0,none⟩,hn:=m.hn+1,hc:=cap,hosts:=m.hosts++[x] } ln pt (w'.setCell ⟨R,2,none⟩ (.slice (some ⟨g,0,none⟩) (m.hn+1) cap))∧KR base R w (w'.setCell ⟨R,2,none⟩ (.slice (some ⟨g,0,none⟩) (m.hn+1) cap)):=by
 have hq:=h.later hW;have hu:=hq.rh;have hR:=h.low;refine⟨⟨?_,hR,?_,?_,?_,?_,?_,?_,?_,?_,?_,?_,?_⟩,((KR.later hW).trans (KR.grow hu hg)).trans (KR.set base R _ w' _)⟩
 ·exact lZ
 ·exact kj
 ·exact pj
 ·exact mn
 ·exact oJ
 ·exact nY
 ·exact nR
 ·exact nV
 ·intro y hy; rw[show m.fns=[] from h.nf hpt]at hy; cases hy
 ·intro i j x y k hi; rw[show m.fns=[] from h.nf hpt]at hi; cases hi
 ·exact pc
 ·exact h.nf
theorem RQ.pushG(h:RQ base R mp m ln pt w)(hW:Below w.heap.size w W)(x:Gl)(ho:w'.ownsRow base 102 3 (.slice (some ⟨g,0,none⟩) (m.gn+1) cap) (m.gn+1) (m.globals.flatMap eT++eT x))(hg:W.grownBy w' (Value.slice m.ga m.gn m.gc).ownBlock) :
  RQ base R mp { m with ga:=some ⟨g,0,none⟩,gn:=m.gn+1,gc:=cap,globals:=m.globals++[x] } ln pt (w'.setCell ⟨R,3,none⟩ (.slice (some ⟨g,0,none⟩) (m.gn+1) cap))∧KR base R w (w'.setCell ⟨R,3,none⟩ (.slice (some ⟨g,0,none⟩) (m.gn+1) cap)):=by
 have hq:=h.later hW;have hu:=hq.rg;have hR:=h.low;refine⟨⟨?_,hR,?_,?_,?_,?_,?_,?_,?_,?_,?_,?_,?_⟩,((KR.later hW).trans (KR.grow hu hg)).trans (KR.set base R _ w' _)⟩
 ·exact lZ
 ·exact kj
 ·exact pj
 ·exact oI
 ·exact mn
 ·exact nY
 ·exact nR
 ·exact nV
 ·exact wn
 ·exact h.fd
 ·exact pc
 ·exact h.nf
theorem RQ.pushF(h:RQ base R mp m ln pt w)(hW:Below w.heap.size w W)(x:FuM)(hpt:6≤pt)(hx:x.2.2.1=(none,0,0)∧x.2.2.2=[])(ho:w'.ownsRow base 78 3 (.slice (some ⟨g,0,none⟩) (m.fn+1) cap) (m.fn+1) (m.fns.flatMap dR++dR x))(hg:W.grownBy w' (Value.slice m.fa m.fn m.fc).ownBlock) :
  RQ base R mp { m with fa:=some ⟨g,0,none⟩,fn:=m.fn+1,fc:=cap,fns:=m.fns++[x] } ln pt (w'.setCell ⟨R,6,none⟩ (.slice (some ⟨g,0,none⟩) (m.fn+1) cap))∧KR base R w (w'.setCell ⟨R,6,none⟩ (.slice (some ⟨g,0,none⟩) (m.fn+1) cap)):=by
 have hq:=h.later hW;have hu:=hq.rf;have hR:=h.low;refine⟨⟨?_,hR,?_,?_,?_,?_,?_,?_,?_,?_,?_,?_,?_⟩,((KR.later hW).trans (KR.grow hu hg)).trans (KR.set base R _ w' _)⟩
 ·exact lZ
 ·exact kj
 ·exact pj
 ·exact oI
 ·exact oJ
 ·exact mn
 ·exact nR
 ·exact nV
 ·intro y hy
  rcases List.mem_append.1 hy with hy | hy
  ·exact⟨bP (bF (hq.fo y hy).code hu hg aj) hR,fun z hz=>bP (bF ((hq.fo y hy).lab z hz) hu hg aj) hR⟩
  ·rw[List.mem_singleton]at hy;subst hy;obtain⟨h1,h2⟩:=hx
   refine⟨?_,fun z hz=>by rw[h2]at hz; cases hz⟩
   rw[h1,h2];exact World.ownsRow_nil _ _ _ _
 ·intro i j y z k hi hj hij hk
  have hnx:fcb x=none:=by unfold fcb; rw[hx.1]; rfl
  rcases Nat.lt_or_ge j m.fns.length with hjl | hjl
  ·have hj':m.fns[j]? =some z:=by rw[← hj]; exact(List.getElem?_append_left hjl).symm
   rcases Nat.lt_or_ge i m.fns.length with hil | hil
   ·have hi':m.fns[i]? =some y:=by rw[← hi]; exact(List.getElem?_append_left hil).symm
    exact h.fd i j y z k hi' hj' hij hk
   ·have hi':[x][i-m.fns.length]? =some y:=by rw[← hi]; exact(List.getElem?_append_right hil).symm
    have:=List.mem_of_getElem? hi'
    rw[List.mem_singleton]at this;subst this;rw[hnx]at hk; cases hk
  ·have hj':[x][j-m.fns.length]? =some z:=by rw[← hj]; exact(List.getElem?_append_right hjl).symm
   have:=List.mem_of_getElem? hj'
   rw[List.mem_singleton]at this;subst this
   rw[hnx]; simp
 ·exact pc
 ·intro hc; omega
theorem RQ.pushD(h:RQ base R mp m ln pt w)(hW:Below w.heap.size w W)(x:DaM)(hx:w.ownsRow base 5 1 (.slice x.2.1.1 x.2.1.2.1 x.2.1.2.2) x.2.1.2.1 (x.2.2.flatMap tu))(ho:w'.ownsRow base 81 2 (.slice (some ⟨g,0,none⟩) (m.dn+1) cap) (m.dn+1) (m.data.flatMap nX++nX x))(hg:W.grownBy w' (Value.slice m.da m.dn m.dc).ownBlock) :
  RQ base R mp { m with da:=some ⟨g,0,none⟩,dn:=m.dn+1,dc:=cap,data:=m.data++[x] } ln pt (w'.setCell ⟨R,7,none⟩ (.slice (some ⟨g,0,none⟩) (m.dn+1) cap))∧KR base R w (w'.setCell ⟨R,7,none⟩ (.slice (some ⟨g,0,none⟩) (m.dn+1) cap)):=by
 have hq:=h.later hW;have hu:=hq.rd;have hR:=h.low;refine⟨⟨?_,hR,?_,?_,?_,?_,?_,?_,?_,?_,?_,?_,?_⟩,((KR.later hW).trans (KR.grow hu hg)).trans (KR.set base R _ w' _)⟩
 ·exact lZ
 ·exact kj
 ·exact pj
 ·exact oI
 ·exact oJ
 ·exact nY
 ·exact mn
 ·exact nV
 ·exact wn
 ·exact h.fd
 ·intro y hy
  rcases List.mem_append.1 hy with hy | hy
  ·exact bP (bF (hq.dd y hy) hu hg aj) hR
  ·rw[List.mem_singleton]at hy;subst hy;exact bP (bF (eN hx hW) hu hg aj) hR
 ·exact h.nf
theorem RQ.pushE(h:RQ base R mp m ln pt w)(hW:Below w.heap.size w W)(x:Ex)(ho:w'.ownsRow base 83 2 (.slice (some ⟨g,0,none⟩) (m.en+1) cap) (m.en+1) (m.exps.flatMap oU++oU x))(hg:W.grownBy w' (Value.slice m.ea m.en m.ec).ownBlock) :
  RQ base R mp { m with ea:=some ⟨g,0,none⟩,en:=m.en+1,ec:=cap,exps:=m.exps++[x] } ln pt (w'.setCell ⟨R,8,none⟩ (.slice (some ⟨g,0,none⟩) (m.en+1) cap))∧KR base R w (w'.setCell ⟨R,8,none⟩ (.slice (some ⟨g,0,none⟩) (m.en+1) cap)):=by
 have hq:=h.later hW;have hu:=hq.re;have hR:=h.low;refine⟨⟨?_,hR,?_,?_,?_,?_,?_,?_,?_,?_,?_,?_,?_⟩,((KR.later hW).trans (KR.grow hu hg)).trans (KR.set base R _ w' _)⟩
 ·exact lZ
 ·exact kj
 ·exact pj
 ·exact oI
 ·exact oJ
 ·exact nY
 ·exact nR
 ·exact mn
 ·exact wn
 ·exact h.fd
 ·exact pc
 ·exact h.nf
end
def rP(w:World):Prop:=∃m,w.cell? ⟨3,0,none⟩=some (.int .i64 m)
theorem rP.later{w w':World}{B:Nat}(h:rP w)(hb:Below B w w')(hB:w.heap.size≤B):rP w':=by
 obtain⟨m,hm⟩:=h
 have:=block_lt_of_cell hm
 exact⟨m,(hb.cell (by simp at this ⊢; omega)).trans hm⟩
theorem QQ(s:ByteArray)(w:World)(hs:s.size≤1073741824)(hm:rP w) :
  Calls Tryz.prog 217 #[.string s,.string ⟨#[32,45,62,32]⟩] w fun e w'=>e=.returned (.tuple #[.string (xQ s),.string (zo s),.bool (MJ s)])∧Below w.heap.size w w':=by
 obtain⟨m,hm⟩:=hm
 exact(Tryz.strings_Cut s ⟨#[32,45,62,32]⟩ m w ae hm).mono fun e w' ⟨he,n,hw⟩=>⟨he,by rw[hw]; exact mF w n⟩
theorem mK(s:ByteArray)(w:World)(hs:s.size≤1073741824)(hm:rP w) :
  Calls Tryz.prog 169 #[.string s] w fun e w'=>e=.returned (.tuple #[.agg #[.string (rdP s),.string (rdR s)],.int .i64 (rdE s)])∧Below w.heap.size w w':=by
 obtain⟨hl,hr⟩:=FE s;have hb0:Below w.heap.size w (w.alloc (aX ⟨#[]⟩ ⟨#[]⟩)):=(Below.refl _ _).alloc (Nat.le_refl _) _;have HC:=hid (QQ s (w.alloc (aX ⟨#[]⟩ ⟨#[]⟩)) hs (hm.later hb0 (Nat.le_refl _)))
 go_enter Tryz.func169,Tryz.ntmps169
 go_wp2_with fail;refine HC.out.mono ?_;rintro e w1⟨rfl,hb1⟩;go_wp2_with fail;refine(sF (xQ s) w1 ae).mono ?_;rintro e w2⟨rfl,hb2⟩;go_wp2_with fail;refine(sF (zo s) w2 ae).mono ?_;rintro e w3⟨rfl,hb3⟩;have hbb:Below w.heap.size w w3:=((hb0.trans (hb1.mono ar)).trans (hb2.mono uP)).trans (hb3.mono Cg);have hba:Below (w.heap.size+1) (w.alloc (aX ⟨#[]⟩ ⟨#[]⟩)) w3:=(((hb1.mono ar)).trans (hb2.mono uP)).trans (hb3.mono Cg)
 have hblk:w3.heap[w.heap.size]? =some (aX ⟨#[]⟩ ⟨#[]⟩):=by
  rw[hba.block w.heap.size ae]; exact heap_alloc_new _ _
 have c0:=ak (i:=0) hblk;have c1:=ak (i:=1) hblk;have f0:=free_at (i:=0) hblk;have f1:=free_at (i:=1) hblk
 simp at c0 c1
 have HB:=hid hbb;clear hb0 hb1 hb2 hb3 hbb hba hblk HC
 cases h1:MJ s
 ·have hz:rdB s=false:=by simp[rdB,h1]
  exact AU
 ·cases h2:rsB (xQ s)
  ·have hz:rdB s=false:=by simp[rdB,h1,h2]
   exact AU
  ·cases h3:rsB (zo s)
   ·have hz:rdB s=false:=by simp[rdB,h1,h2,h3]
    exact AU
   ·have hz:rdB s=true:=by simp[rdB,h1,h2,h3]
    go_wp2
    (try simp only[Exit.inBlock,Exit.then])
    refine bodyPost_ret (v:=.tuple #[.agg #[.string (rsV (xQ s)),.string (rsV (zo s))],.int .i64 0]) ?_ rfl ⟨by simp[rdP,rdR,rdE,hz],?_⟩
    ·exact jp
    ·exact(HB.out.setCell ar _).setCell ar _
structure cw(B:Nat)(w:World):Prop where
 tens:iX B w
 errs:tq B w
 kinds:aP w
 mx:rP w
 b3:3<B
 bw:B≤w.heap.size
theorem cw.later{B:Nat}{w w':World}(h:cw B w)(hb:Below B w w'):cw B w' :=
 ⟨h.tens.later hb,h.errs.later hb,h.kinds.later hb (Nat.lt_of_le_of_lt (Nat.zero_le 3) h.b3),(by obtain⟨m,hm⟩:=h.mx; exact⟨m,(hb.cell (by exact h.b3)).trans hm⟩),h.b3,Nat.le_trans h.bw hb.size⟩
theorem KR.below{B base R:Nat}{w w':World}(h:KR base R w w')(hR:B≤R)(hb:B≤base)(hw:B≤w.heap.size):Below B w w' :=
 ⟨h.os,h.tape,h.output,h.size,fun k hk=>h.block k ae (fun hs=>by rcases hs with rfl | hs <;> omega)⟩
structure Wds(w:World)(A n c:Nat)(ws:List ByteArray):Prop where
 len:ws.length=n
 lt:A<w.heap.size
 cap:n≤c
 at_:∀(j:Nat)x,ws[j]? =some x→w.cell? ⟨A,0+j,none⟩=some (.string x)
 sz:∀x∈ws,x.size≤2097152
 few:n≤2097152
theorem Wds.later{w w':World}{A n c:Nat}{ws:List ByteArray}(h:Wds w A n c ws)(hb:Below w.heap.size w w'):Wds w' A n c ws :=
 ⟨h.len,Nat.lt_of_lt_of_le h.lt hb.size,h.cap,fun j x hj=>az hb (h.at_ j x hj),h.sz,h.few⟩
def lF(f:Int)(rest:ByteArray):List ByteArray→Int×Bool
 | []=>(0,false)
 | p::r=>if p=rest then (f,true) else lF (f+1) rest r
def gD(f:Int)(a ws word:ByteArray):Int×Bool :=
 if Lib.hasPrefix word.data.toList a.data.toList=true then lF f ⟨(Lib.trimPrefix word.data.toList a.data.toList).toArray⟩ (cV ws) else (0,false)
theorem Qs(f l:Int)(a ws word:ByteArray)(w:World)(h0:0≤f)(hb:f+(cV ws).length≤255)(hsz:ws.size≤1099511627776) :
  Calls Tryz.prog 224 #[.agg #[.int .u8 f,.int .u8 l,.string a,.string ws],.string word] w fun e w'=>e=.returned (.tuple #[.int .u8 (gD f a ws word).1,.bool (gD f a ws word).2])∧Below w.heap.size w w':=by
 obtain⟨xs,hxs⟩:∃xs,cV ws=xs:=⟨_,rfl⟩;obtain⟨rest,hrest⟩:∃rest:ByteArray,(⟨(Lib.trimPrefix word.data.toList a.data.toList).toArray⟩:ByteArray)=rest:=⟨_,rfl⟩;obtain⟨ok,hok⟩:∃ok:Bool,Lib.hasPrefix word.data.toList a.data.toList=ok:=⟨_,rfl⟩;obtain⟨V,hV⟩:∃V,gD f a ws word=V:=⟨_,rfl⟩;have hcut:=Tryz.strings_CutPrefix word a;rw[hrest,hok]at hcut;rw[hV];rw[hxs]at hb;unfold gD at hV;rw[hrest,hok,hxs]at hV;refine(callsIn_wide (n:=5)).1 ?_;refine callsIn_of_wp_marks Tryz.func224 rfl trivial ?_ rfl
 simp only[Tryz.ntmps224,List.size_toArray,List.length_cons,List.length_nil,Nat.reduceAdd,Nat.reduceSub,Array.replicate_succ,Array.replicate_zero,List.push_toArray,List.append_toArray,List.nil_append,List.cons_append]
 gi_wp2_with fail
 refine⟨trivial,?_⟩;refine(callsIn_wide.2 (hcut _)).mono ?_;rintro e w' ⟨rfl,rfl⟩
 cases ok
 ·gi_wp2_with fail
  subst hV;refine⟨.tuple #[.int .u8 0,.bool false],?_,rfl,((((Below.refl _ w).alloc ar _).alloc bu _).alloc bu _).alloc bu _⟩;rw[kV rfl];go_simp
 gi_wp2_with fail
 refine⟨trivial,?_⟩;refine(callsIn_wide.2 (rX ws _)).mono ?_;rintro e w' ⟨rfl,rfl⟩
 gi_wp2_with fail
 simp only[Nat.add_assoc,Nat.reduceAdd]
 rw[if_pos trivial]at hV;obtain⟨W0,hW0⟩:∃W0,((((((((w.alloc (pu f l a ws)).alloc (jr 0)).alloc (.cells #[.bool false] 4)).alloc (bQ rest)).alloc (jr f)).alloc (bQ ws)).alloc (bQ ⟨#[32]⟩)).alloc (bq 0))=W0:=⟨_,rfl⟩;rw[hW0]
 have B0:Below w.heap.size w W0:=by rw[← hW0]; exact((((((((Below.refl _ w).alloc ar _).alloc bu _).alloc bu _).alloc bu _).alloc bu _).alloc bu _).alloc bu _).alloc bu _
 have z0:W0.heap.size=w.heap.size+8:=eI
 have hstart:aD [(⟨w.heap.size+4,0,none⟩,.int .u8 f),(⟨w.heap.size+3,0,none⟩,.string rest),(⟨w.heap.size+1,0,none⟩,.int .u8 0),(⟨w.heap.size+2,0,none⟩,.bool false)] W0:=by
  rw[← hW0]
  refine aD.cons ?_ ?_ (aD.cons ?_ ?_ (aD.cons ?_ ?_ (aD.cons ?_ ?_ ky))) <;> simp[go_sem]
 have c2:W0.cell? ⟨w.heap.size+5,0,none⟩=some (.string ws):=eI;have f2:W0.frozen? ⟨w.heap.size+5,0,none⟩=false:=eI;have c1:W0.cell? ⟨w.heap.size+6,0,none⟩=some (.string ⟨#[32]⟩):=eI;have c3:W0.cell? ⟨w.heap.size+7,0,none⟩=some (.int .i64 0):=eI;clear hW0;have HF:=Dx 4 (w.heap.size+6) (w.heap.size+5) (w.heap.size+7) ae ae ws W0 c1 c2 f2 c3 hsz;rw[hxs]at HF
 refine qi rfl aj (gf:=174) (lb:=#[.pointer (some ⟨w.heap.size+6,0,none⟩),.pointer (some ⟨w.heap.size+5,0,none⟩),.pointer (some ⟨w.heap.size+7,0,none⟩)]) rfl trivial (enters_of Tryz.func174 ai rfl) (encs:=fun x:ByteArray=>#[.string x]) (fun _=>rfl)
  HF
  (fun r W=>aD [(⟨w.heap.size+4,0,none⟩,.int .u8 (f+xs.length-r.length)),(⟨w.heap.size+3,0,none⟩,.string rest),(⟨w.heap.size+1,0,none⟩,.int .u8 0),(⟨w.heap.size+2,0,none⟩,.bool false)] W∧Below w.heap.size w W∧r.length≤xs.length∧lF (f+xs.length-r.length) rest r=V)
  (fun j W=>j=.ret∧aD [(⟨w.heap.size+1,0,none⟩,.int .u8 V.1),(⟨w.heap.size+2,0,none⟩,.bool V.2)] W∧Below w.heap.size w W)
  ?own ?ownx ?cells ?start
  (fun x=>{ tmps:=#[.agg #[.int .u8 f,.int .u8 l,.string a,.string ws],.string word,.pointer (some ⟨w.heap.size,0,none⟩),undef,.pointer (some ⟨w.heap.size+1,0,none⟩),.pointer (some ⟨w.heap.size+2,0,none⟩),.pointer (some ⟨w.heap.size+3,0,none⟩),.bool true,.pointer (some ⟨w.heap.size+4,0,none⟩),.string x,.tuple #[.string rest,.bool true],.string word,.pointer (some ⟨w.heap.size,2,none⟩),.string a,.tuple #[.string rest,.bool true],.string rest,.bool true,.bool true,.bool false,.pointer (some ⟨w.heap.size,0,none⟩),.int .u8 f,.pointer (some ⟨w.heap.size,3,none⟩),.string ws,
   .func (.func 174) #[] #[.pointer (some ⟨w.heap.size+6,0,none⟩),.pointer (some ⟨w.heap.size+5,0,none⟩),.pointer (some ⟨w.heap.size+7,0,none⟩)],.string x,undef,undef,undef,undef,undef,undef],defers:=[] }) ?assign ?body ?done ?stop
 case own =>
  exact Jm
 case ownx =>
  exact Kw
 case cells =>
  exact fun r A v hs=>⟨hs.1.other _ _ ar,hs.2.1.setCell (p:=⟨w.heap.size+5,0,none⟩) ar _,hs.2.2⟩
 case start =>
  have e:f+xs.length-xs.length=f:=ae
  exact⟨by rw[e]; exact hstart,B0,Nat.le_refl _,by rw[e]; exact hV⟩
 case assign =>
  exact vt
 case body =>
  rintro m x r W⟨hc,hB,hr,hv⟩;have hsem:=@Oper.semAt_some;have d1:=hc _ (List.mem_cons_self ..);have d2:=hc _ (List.mem_cons_of_mem _ (List.mem_cons_self ..));have d3:=hc _ (List.mem_cons_of_mem _ (List.mem_cons_of_mem _ (List.mem_cons_self ..)));have d4:=hc _ (List.mem_cons_of_mem _ (List.mem_cons_of_mem _ (List.mem_cons_of_mem _ (List.mem_cons_self ..))));obtain⟨q,hq⟩:∃q:Int,f+xs.length-(x::r).length=q:=⟨_,rfl⟩;rw[hq]at hc d1 hv;have q0:0≤q:=uB;have q1:q+1≤255:=uB
  have q2:f+xs.length-r.length=q+1:=by simp at hq; omega
  by_cases he:x=rest
  ·rw[lF,if_pos he]at hv;subst he hv
   gi_wp2_with fail
   refine⟨((KeepsOthers.setCell _ _ _).trans (KeepsOthers.setCell _ _ _)).from _,rfl,?_,(hB.setCell (p:=⟨w.heap.size+1,0,none⟩) ar _).setCell (p:=⟨w.heap.size+2,0,none⟩) ar _⟩;have g1:aD [(⟨w.heap.size+1,0,none⟩,.int .u8 0),(⟨w.heap.size+2,0,none⟩,.bool false)] W:=aD.cons d3.1 d3.2 (aD.cons d4.1 d4.2 ky);exact g1.set2 ar
  ·rw[lF,if_neg he]at hv
   have he2:(x.toList==rest.toList)=false:=by rw[LU]; simp[he]
   gi_wp2_with fail
   refine⟨(KeepsOthers.setCell _ _ _).from _,dP.other _ _ _ ar,aD.set hc ar,hB.setCell (p:=⟨w.heap.size+4,0,none⟩) ar _,by simp at hr; omega⟩
 case done =>
  rintro D W hD⟨hc,hB,_,hv⟩ hK;have d3:=hc _ (List.mem_cons_of_mem _ (List.mem_cons_of_mem _ (List.mem_cons_self ..)));have d4:=hc _ (List.mem_cons_of_mem _ (List.mem_cons_of_mem _ (List.mem_cons_of_mem _ (List.mem_cons_self ..))));have d5:=d3.1;have d6:=d3.2;have d7:=d4.1;have d8:=d4.2
  gi_wp2_with fail
  have hK2:=((KeepsOthers.setCell W ⟨w.heap.size+1,0,none⟩ (.int .u8 0)).trans (KeepsOthers.setCell _ ⟨w.heap.size+2,0,none⟩ (.bool false))).same _ _ hK rfl;refine⟨ar,.inl ⟨_,_,rfl,run_takeDeferred hK2,?_⟩⟩;have g1:aD [(⟨w.heap.size+1,0,none⟩,.int .u8 0),(⟨w.heap.size+2,0,none⟩,.bool false)] W:=aD.cons d3.1 d3.2 (aD.cons d4.1 d4.2 ky);have hH:=(g1.set2 (v1:=.int .u8 0) (v2:=.bool false) ar).turned (.deferred none) hK2 rfl;have e1:=(hH _ (List.mem_cons_self ..)).1;have e2:=(hH _ (List.mem_cons_of_mem _ (List.mem_cons_self ..))).1;have hBB:=((hB.setCell (p:=⟨w.heap.size+1,0,none⟩) ar (.int .u8 0)).setCell (p:=⟨w.heap.size+2,0,none⟩) ar (.bool false)).trans (belowK_b (w:=w) (Nat.le_refl _) _ D _ (.deferred none) ae hK2 rfl rfl);generalize World.putObj _ D (.deferred none)=W5 at e1 e2 hBB ⊢;rw[lF]at hv;subst hv;refine⟨.tuple #[.int .u8 0,.bool false],?_,rfl,hBB⟩;rw[kV rfl];go_simp
 case stop =>
  rintro D j W hD⟨rfl,hc,hB⟩ hK
  gi_wp2_with fail
  refine⟨ar,.inl ⟨_,_,rfl,run_takeDeferred hK,?_⟩⟩;have e1:=((hc.turned (.deferred none) hK rfl) _ (List.mem_cons_self ..)).1;have e2:=((hc.turned (.deferred none) hK rfl) _ (List.mem_cons_of_mem _ (List.mem_cons_self ..))).1;have hBB:=hB.trans (belowK_b (w:=w) (Nat.le_refl _) _ D _ (.deferred none) ae hK rfl rfl);generalize World.putObj _ D (.deferred none)=W5 at e1 e2 hBB ⊢;refine⟨.tuple #[.int .u8 V.1,.bool V.2],?_,rfl,hBB⟩;rw[kV rfl];go_simp
def gG:Nat→Nat→ByteArray→Int×Bool
 | 0,_,_=>(0,false)
 | n+1,i,s=>if (gD (kF i) (kA i) (kW i) s).2=true then ((gD (kF i) (kA i) (kW i) s).1,true) else gG n (i+1) s
def bC(s:ByteArray):Int×Bool:=gG 7 0 s
theorem kr(s:ByteArray)(w:World)(hk:aP w):Calls Tryz.prog 177 #[.string s] w fun e w'=>e=.returned (.tuple #[.int .u8 (bC s).1,.bool (bC s).2])∧Below w.heap.size w w':=by
 obtain⟨V,hV⟩:∃V,bC s=V:=⟨_,rfl⟩;rw[hV]
 go_enter Tryz.func177,Tryz.ntmps177
 refine wp_seq_k fun K1 hK1=>wp_region_lit ?_
 refine jI rfl (v:=.int .u8 0) (w':=w) cg ?_;refine jI rfl (v:=.bool false) (w':=w) cg ?_;refine wpList_nil (hK1 _ _ ?_);clear hK1
 refine wp_seq_k fun K2 hK2=>wp_seq_k fun K3 hK3=>wp_region_lit ?_
 refine jI rfl (r9 hk _ _ _ _ _) ?_;obtain⟨kv,hkv⟩:∃kv,pG=kv:=⟨_,rfl⟩;rw[hkv]
 have run_kind':∀(w:World)(i:Nat)(hi:i<7),(Instr.index 288 kv (.int .i64 i)).run Tryz.prog w=.ok (.agg #[.int .u8 (kF i),.int .u8 (kL i),.string (kA i),.string (kW i)]) w:=fun w i hi=>hkv ▸ zf i hi
 have HK:=hid run_kind';clear run_kind' hkv;go_wp2_with fail
 go_loopw [9] (fun p wr=>∃i:Nat,p=.int .i64 i∧i≤7∧Below w.heap.size w wr∧gG (7-i) i s=V) (fun p wr=>7-(intOf p).toNat)
 case atStart=>exact⟨0,rfl,aj,Below.refl _ _,hV⟩
 case round =>
  clear hV;obtain⟨i,rfl,hi,hB,hV⟩:=hrel
  by_cases h7:i=7
  ·subst h7;have hx:V=(0,false):=hV.symm;subst hx;go_wp2_with fail;go_ret2;exact⟨rfl,hB⟩
  have hlt:(i:Int)<7:=ae;have hix:=HK.out wr i ae;obtain⟨f0,f1,f2,f3,f4,f5⟩:=mX i ae;have HF:=hid (Qs (kF i) (kL i) (kA i) (kW i) s (wr.alloc (pu (kF i) (kL i) (kA i) (kW i))) f0 f3 f4);have hB2:=hid (hB.alloc hB.size (pu (kF i) (kL i) (kA i) (kW i)));obtain⟨n,hn⟩:∃n,7-i=n+1:=⟨6-i,ae⟩;rw[hn,gG]at hV;have hw:wrap64 ((i:Int)+1)=i+1:=dv;clear f0 f1 f2 f3 f4 f5 hB;generalize gD (kF i) (kA i) (kW i) s=R at *;obtain⟨r1,r2⟩:=R;have HV:=hid hV;clear hV;generalize kF i=f at *;generalize kL i=l at *;generalize kA i=a at *;generalize kW i=ws at *
  cases r2
  ·go_wp2_with fail;refine HF.out.mono ?_;rintro e w3⟨rfl,hb3⟩;have hB3:=hid (hB2.out.trans (hb3.mono hB2.out.size));clear hb3;go_wp2_with fail
   exact⟨⟨i+1,ar,ae,hB3.out,by have:=HV.out; rw[show 7-(i+1)=n by omega]; simpa using this⟩,ij⟩
  ·have hx:V=(r1,true):=by have:=HV.out; simpa using this.symm
   subst hx;go_wp2_with fail;refine HF.out.mono ?_;rintro e w3⟨rfl,hb3⟩;have hB3:=hid (hB2.out.trans (hb3.mono hB2.out.size));clear hb3;go_wp2_with fail;go_ret2;exact⟨rfl,hB3.out⟩
end Go.Proofs.YtheefojaplnnoaaGreatDoor
