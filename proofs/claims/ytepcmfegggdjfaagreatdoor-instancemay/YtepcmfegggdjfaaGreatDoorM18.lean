/-
  Texts Dt Du Dv Nc Mf Rd Re.
-/
import Derived.Test.YtepcmfegggdjfaaGreatDoorM00
import Derived.Test.YtepcmfegggdjfaaGreatDoorM01
import Derived.Test.YtepcmfegggdjfaaGreatDoorM06
import Derived.Test.YtepcmfegggdjfaaGreatDoorM09
import Derived.Test.YtepcmfegggdjfaaGreatDoorM11
import Derived.Test.YtepcmfegggdjfaaGreatDoorM12
import Derived.Test.YtepcmfegggdjfaaGreatDoorM13
import Derived.Test.YtepcmfegggdjfaaGreatDoorM17
set_option linter.unusedVariables false
set_option maxRecDepth 100000
set_option maxHeartbeats 16000000
namespace Go.Proofs.YtepcmfegggdjfaaGreatDoor
open Go.Proofs.Tryz
open Go.RowKit
theorem Tryz.infStrs:(prog.info? 9).map (fun i=>(i.zero,i.size,i.bytes))=some (some (.string ⟨#[]⟩),1,16):=ar
def LSr(w:World)(base:Nat)(v:Value)(l:List ByteArray):Prop:=w.ownsRow base 9 1 v l.length (l.map Value.string)
theorem LSr.nil(w:World)(base:Nat):LSr w base (.slice none 0 0) []:=⟨rfl,.inl ⟨rfl,rfl⟩⟩
variable {w w':World}{v:Value}{l:List ByteArray}
theorem LSr.later{base B:Nat}(h:LSr w base v l)(hb:Below B w w')(hB:w.heap.size<=B):LSr w' base v l :=
 fM h (fun b hx=>hb.block b (by
  rcases h.2 with h0 | ⟨g,cp,cur,h1,h2,h3,_⟩
  ·rw[h0.1]at hx; cases hx
  rw[h1]at hx;have:g=b:=wL;subst this;exact Nat.lt_of_lt_of_le (Array.getElem?_eq_some_iff.1 h3).1 hB))
theorem LSr.kept{S:Nat->Prop}{base:Nat}(h:LSr w base v l)(hk:Kept S w w')(hs:∀b,v.ownBlock=some b->¬S b):LSr w' base v l :=
 fM h (fun b hx=>hk.block b (by
  rcases h.2 with h0 | ⟨g,cp,cur,h1,h2,h3,_⟩
  ·rw[h0.1]at hx; cases hx
  rw[h1]at hx;have:g=b:=wL;subst this;exact(Array.getElem?_eq_some_iff.1 h3).1) (hs b hx))
theorem LSr.slice{base:Nat}(h:LSr w base v l):∃a c,v=.slice a l.length c:=by
 exact Gi
theorem LSr.block{base b:Nat}(h:LSr w base v l)(hb:v.ownBlock=some b):base<=b/\b<w.heap.size:=by
 exact CL
theorem LSr.mono{base base':Nat}(h:LSr w base v l)(hb:base'<=base):LSr w base' v l:=fR h hb
variable {a:OAz}{k c:Nat}
theorem LSr.cell{base:Nat}(h:LSr w base (.slice a k c) l):k=l.length/\(k=0\/∃B,a=some ⟨B,0,none⟩/\∀j,j<k->w.cell? ⟨B,j,none⟩=some (.string (l.getD j ⟨#[]⟩))):=by
 exact Md
variable {ops:Array Oper}{o:Oper}{a:Act}{Q:Exit->Act->World->Prop}
theorem LD(w:World){rest:List Oper}(hgd:o.guard=none)
  (s x:Operand) (ho:o.op=Op.call { callee:=Callee.builtin Builtin.append,args:=#[s,x],argTypes:=#[72,72] })
  (base:Nat) (v:Value) (l:List ByteArray) (hs:a.eval s=v) (hown:LSr w base v l) (hbase:base<=w.heap.size) (ad:Addr) (z:BAz) (hx:a.eval x=.slice (some ad) 1 1) (hu:w.cell? (ad.add 0)=some (.string z))
  (hlen:l.length<=1073741824)
  (h:∀(B cap k:Nat)(w':World),k=(l++[z]).length->LSr w' base (.slice (some ⟨B,0,none⟩) k cap) (l++[z])->(v.ownBlock=some B\/w.heap.size<=B)->Kept (fun k=>v.ownBlock=some k) w w'->wpList prog ops Q rest (a.put o.dst (.slice (some ⟨B,0,none⟩) k cap)) w') :
  wpList prog ops Q (o::rest) a w:=by
 obtain⟨i0,hi,hz0,hz1,hz2⟩:=info_parts Tryz.infStrs;refine yA w hgd s x 72 ho 9 i0 (.string ⟨#[]⟩) 16 underlying72 hi hz0 hz1 hz2 rfl v l.length (l.map Value.string) hs (fR hown (Nat.zero_le _)) ad (.string z) hx hu rfl dA ae ?_;intro B cap w' hrow hcase
 have hB:base<=B:=by
  rcases hcase with ⟨rfl,_⟩ | ⟨h1,_⟩
  ·exact(LSr.block hown rfl).1
  omega
 have hfin:=h B cap (l.length+1) w' aw (by
  have:=mY hrow hB;unfold LSr
  simpa using this)
 exact J4
section
variable {m:MM} {lo:LIz} {xs:List Inx} {R:BAz} {n:Nat}
theorem Im(j:Nat):(stA m lo xs R n (j+1)).dead=ddC (opF xs j) false:=(rP m lo _ _ _ _).2.2
variable {j:Nat}
theorem I0(ha:awy (opF xs j))(he:erA m lo xs R n (j+1)=0):opF xs (j+1)=5\/opF xs (j+1)=6:=by
 have hd:(stA m lo xs R n (j+1)).dead=true:=by
  rw[Im]; unfold ddC; exact if_pos ha
 unfold erA Ti at he
 by_cases hh:(fP (stA m lo xs R n (j+1)) (j+1)).dead=true/\(xs.getD (j+1) dx).c≠5/\(xs.getD (j+1) dx).c≠6
 ·rw[if_pos hh]at he; cases he
 have h2:¬((xs.getD (j+1) dx).c≠5/\(xs.getD (j+1) dx).c≠6):=fun h=>hh ⟨hd,h⟩
 by_cases h5:opF xs (j+1)=5
 ·exact .inl h5
 by_cases h6:opF xs (j+1)=6
 ·exact .inr h6
 exact absurd ⟨h5,h6⟩ h2
theorem JP(ha:awy (opF xs j))(he:erA m lo xs R n j=0):bW (aT (stA m lo xs R n j)).B (aT (stA m lo xs R n j)).R=0:=by
 rcases ha with hc | hc | hc | hc
 ·have q:=lW he hc;unfold rwE at q;(iterate 4 rewrite [if_neg ae]at q);rw[if_pos rfl]at q;exact(aI (aI q).2).2
 ·have q:=lW he hc;unfold rwE at q;(iterate 6 rewrite [if_neg ae]at q);rw[if_pos rfl]at q;exact(aI (aI q).2).2
 ·have q:=lW he hc;unfold rwE at q;(iterate 7 rewrite [if_neg ae]at q);rw[if_pos rfl]at q;exact(aI q).2
 have q:=lW he hc;unfold rwE at q;(iterate 8 rewrite [if_neg ae]at q);rw[if_pos rfl]at q;exact q
theorem OJ(hO:Okp (opF xs) (j+1))(ha:awy (opF xs j))(he:erA m lo xs R n j=0):(stA m lo xs R n (j+1)).st=(aT (stA m lo xs R n (j+1))).B++(aT (stA m lo xs R n (j+1))).R:=by
 have hp:=Qh (JP ha he)
 have hs:(stA m lo xs R n (j+1)).st=iq (aT (stA m lo xs R n j)).B (aT (stA m lo xs R n j)).R:=by
  have h:=oH (m:=m) (lo:=lo) (xs:=xs) (R:=R) (n:=n) j;unfold rwS at h;unfold awy at ha;(iterate 4 rewrite [if_neg ae]at h);rw[if_pos ha]at h;exact h
 have hst:stk (opF xs) (j+1)=stk (opF xs) j:=eB (by
  cases hi:isO (opF xs j) with
  | false=>rfl
  | true=>rw[dR]at hi; unfold awy at ha; omega) (by unfold awy at ha; omega)
 have hO':Okp (opF xs) j:=fun i hi=>hO i ae
 have ht:aT (stA m lo xs R n (j+1))=aT (stA m lo xs R n j):=by
  rcases hk:stk (opF xs) j with _ | ⟨t,r⟩
  ·rw[lQ hO' hk,lQ hO (hst.trans hk)]
  rw[oM hO' hk,oM hO (hst.trans hk)]
 rw[hs,hp,ht]
end
structure WxB(g:Wg)(w:World):Prop where
 cod:Cod w g.cb g.coff g.cn g.xs
 ty:∀(j:Nat)x,g.m.types[j]? =some x->w.cell? ⟨g.tb,g.tof+j*2,none⟩=some (.string x.1)/\w.cell? ⟨g.tb,g.tof+j*2+1,none⟩=some (.string x.2)
 tyl:g.m.types.length=g.m.tn
 fu:∀(j:Nat)x,g.m.fns[j]? =some x->w.cell? ⟨g.fb,g.fof+j*3,none⟩=some (.int .i64 x.1)
 ful:g.m.fns.length=g.m.fn
 fl:g.f<g.m.fn
 fy:∃ca co,g.m.fns[g.f]? =some ((g.t:Int),g.lo,ca,co)
 tq:g.m.types[g.t]? =some (g.P,g.Q)
 cn:g.cn<=2048
 tn:g.m.tn<=64
 fn:g.m.fn<=128
 ho:m9 w g.m.ha g.m.hn g.m.hosts
 hn:g.m.hn<=1000000
 hq:∀(a:Nat)z,g.m.hosts[a]? =some z->∃(q:Nat)(p:Sg),z=(q:Int)/\g.m.types[q]? =some p
 fq:∀(a:Nat)fu,g.m.fns[a]? =some fu->∃(q:Nat)(p:Sg),fu.1=(q:Int)/\g.m.types[q]? =some p
 gl:kq w g.m.ga g.m.gn g.m.globals
 gn:g.m.gn<=1000000
 gr:∀(a:Nat)x,g.m.globals[a]? =some x->0<=x.1/\x.1<=255
 tz:∀(q:Nat)p,g.m.types[q]? =some p->p.1.size<=1000/\p.2.size<=1000
 ps:(g.P++g.lo).size<=1000000
 ow:∀j,j<g.cn->g.ow j=top (stk (opF g.xs) j)
 op:∀j,j<g.cn->(ofV (opF g.xs j)).2=true
 ln:∀j,j<g.cn->(g.xs.getD j dx).ln<=100000/\(opF g.xs j=9->0<(g.xs.getD j dx).ln)
variable {g:Wg}{wr:World}
theorem WxB.later(B:WxB g w)(hb:Below w.heap.size w wr):WxB g wr :=
 ⟨B.cod.later hb lRn,fun j x hx=>⟨ag hb (B.ty j x hx).1,ag hb (B.ty j x hx).2⟩,B.tyl,fun j x hx=>ag hb (B.fu j x hx),B.ful,B.fl,B.fy,B.tq,B.cn,B.tn,B.fn,B.ho.kept (S:=fun _=>False) (aP hb) (fun _ _ _ _ x=>x),B.hn,B.hq,B.fq,B.gl.kept (S:=fun _=>False) (aP hb) (fun _ _ _ _ x=>x),B.gn,B.gr,B.tz,B.ps,B.ow,B.op,B.ln⟩
abbrev wkT(g:Wg)(v1 v2 v4 v5:Value):Array Value:=#[.slice (some ⟨g.tb,g.tof,none⟩) g.m.tn g.m.tc,.slice g.m.ha g.m.hn g.m.hc,.slice g.m.ga g.m.gn g.m.gc,.int .i64 g.m.fi,.int .i64 g.m.mo,.slice (some ⟨g.fb,g.fof,none⟩) g.m.fn g.m.fc,.slice g.m.da g.m.dn g.m.dc,.slice g.m.ea g.m.en g.m.ec,.int .i64 g.f,.slice (some ⟨g.cb,g.coff,none⟩) g.cn g.cc,.string (g.P++g.lo),v1,v2,.slice (some ⟨g.OB,0,none⟩) g.cn g.oc,v4,v5]
variable {v1 v2 v4 v5:Value}
theorem WxB.wx(B:WxB g w)(hb:Below w.heap.size w wr)(k:wr.heap[g.WB]? =some (.cells (wkT g v1 v2 v4 v5) 94))(ho:∀j,j<g.cn->wr.cell? ⟨g.OB,j,none⟩=some (.int .i64 (g.ow j))):Wx g wr :=
 ⟨⟨ai k,ai k,ai k,ai k,ai k,ai k,ai k,ai k,ho,B.cod.later hb lRn,fun j x hx=>⟨ag hb (B.ty j x hx).1,ag hb (B.ty j x hx).2⟩,B.tyl,fun j x hx=>ag hb (B.fu j x hx),B.ful,B.fl,B.fy,B.tq,B.cn,B.tn,B.fn⟩,B.ho.kept (S:=fun _=>False) (aP hb) (fun _ _ _ _ x=>x),B.hn,B.hq,B.fq,B.gl.kept (S:=fun _=>False) (aP hb) (fun _ _ _ _ x=>x),B.gn,B.gr,B.tz,B.ps,B.ow,B.op,B.ln⟩
structure Tb(g:Wg)(w:World)(v1:Value)(EB ec FB fc base:Nat)(v5:Value)(fl:NIz)(sh:List ByteArray)(wr:World):Prop where
 bel:Below w.heap.size w wr
 blk:wr.heap[g.WB]? =some (.cells (wkT g v1 (.slice (some ⟨EB,0,none⟩) g.cn ec) (.slice (some ⟨FB,0,none⟩) g.cn fc) v5) 94)
 own:RC wr g.OB g.cn g.oc g.ow
 els:RC wr EB g.cn ec (elF (opF g.xs) g.cn)
 flr:RC wr FB g.cn fc fl
 shp:LSr wr base v5 sh
 big:base<=wr.heap.size
structure Tn(g:Wg)(w:World)(EB FB base:Nat):Prop where
 w0:w.heap.size<=g.WB
 w1:g.WB<base
 o0:w.heap.size<=g.OB
 o1:g.OB<base
 e0:w.heap.size<=EB
 e1:EB<base
 f0:w.heap.size<=FB
 f1:FB<base
 wo:g.WB≠g.OB
 we:g.WB≠EB
 wf:g.WB≠FB
 fo:FB≠g.OB
 fe:FB≠EB
section
variable {g:Wg} {w:World} {v1 v5:Value} {EB ec FB fc base:Nat} {fl:NIz} {sh:List ByteArray} {wr:World}
theorem Tb.wx(h:Tb g w v1 EB ec FB fc base v5 fl sh wr)(B:WxB g w):Wx g wr:=B.wx h.bel h.blk (fun j hj=>h.own.cell j hj)
theorem Tb.we(h:Tb g w v1 EB ec FB fc base v5 fl sh wr):We g EB ec (elF (opF g.xs) g.cn) wr:=⟨ai h.blk,fun j hj=>h.els.cell j hj⟩
variable {W:World}
theorem Tb.later(h:Tb g w v1 EB ec FB fc base v5 fl sh wr)(hb:Below wr.heap.size wr W):Tb g w v1 EB ec FB fc base v5 fl sh W :=
 ⟨h.bel.trans (hb.mono h.bel.size),ak hb h.blk,h.own.kept (S:=fun _=>False) (aP hb) id,h.els.kept (S:=fun _=>False) (aP hb) id,h.flr.kept (S:=fun _=>False) (aP hb) id,h.shp.later hb lRn,Nat.le_trans h.big hb.size⟩
variable {s:BAz}
theorem Tb.push{B cap k:Nat}(h:Tb g w v1 EB ec FB fc base v5 fl sh wr)(N:Tn g w EB FB base)(hL:LSr W base (.slice (some ⟨B,0,none⟩) k cap) (sh++[s]))(hk:Kept (fun b=>v5.ownBlock=some b) wr W):Tb g w v1 EB ec FB fc base (.slice (some ⟨B,0,none⟩) k cap) fl (sh++[s]) (W.setCell ⟨g.WB,15,none⟩ (.slice (some ⟨B,0,none⟩) k cap)):=by
 have hb5:∀b,v5.ownBlock=some b->base<=b:=fun b hb=>(LSr.block h.shp hb).1;have ks:=ax W g.WB 15 (.slice (some ⟨B,0,none⟩) k cap);have n1:=N.w1;have n2:=N.o1;have n3:=N.e1;have n4:=N.f1;refine⟨?_,?_,?_,?_,?_,?_,Nat.le_trans (Nat.le_trans h.big hk.size) ks.size⟩
 ·exact bw (bw h.bel hk h.bel.size (fun b hb=>by have:=hb5 b hb; have:=N.w0; omega)) ks (Nat.le_trans h.bel.size hk.size) (fun b hb=>by have:=N.w0; omega)
 ·exact aM ((hk.block _ (aN h.blk) (fun hb=>xY)).trans h.blk)
 ·exact(h.own.kept hk (fun hb=>xY)).kept ks (fun e=>N.wo e.symm)
 ·exact(h.els.kept hk (fun hb=>xY)).kept ks (fun e=>N.we e.symm)
 ·exact(h.flr.kept hk (fun hb=>xY)).kept ks (fun e=>N.wf e.symm)
 exact hL.kept ks (fun b hb e=>by have:=(LSr.block hL hb).1; omega)
variable {fl':NIz}
theorem Tb.step{pc:Nat}(h:Tb g w v1 EB ec FB fc base v5 fl sh wr)(N:Tn g w EB FB base)(hp:pc<g.cn)(hS:StW FB pc fl fl' wr W):Tb g w v1 EB ec FB fc base v5 fl' sh W:=by
 rcases hS with ⟨hb,rfl⟩ | ⟨V,v,hb,rfl,rfl⟩
 ·exact h.later hb
 have h:=h.later hb;have P:=h.flr.put (g:=fun i=>if i=pc then v else fl i) pc v (fun i hi=>rfl);have ks:=P.2;have n4:=N.f1;exact⟨bw h.bel ks h.bel.size (fun b hb=>by have:=N.f0; omega),(ks.block _ (aN h.blk) N.wf).trans h.blk,h.own.kept ks (fun e=>N.fo e.symm),h.els.kept ks (fun e=>N.fe e.symm),P.1,h.shp.kept ks (fun b hb e=>by have:=(LSr.block h.shp hb).1; omega),Nat.le_trans h.big ks.size⟩
variable {SB sc:Nat}
theorem Tb.ws(h:Tb g w v1 EB ec FB fc base (.slice (some ⟨SB,0,none⟩) sh.length sc) fl sh wr)(hl:sh.length<=2048):Ws g FB fc SB sc fl sh wr:=by
 refine⟨ai h.blk,fun j hj=>h.flr.cell j hj,ai h.blk,fun j b hj=>?_,hl⟩;obtain⟨_,hc⟩:=h.shp.cell;have hlt:=az hj;obtain⟨B,e,hc⟩:=hc.resolve_left ae
 obtain rfl:SB=B:=by injection e with e; injection e
 have:=hc j hlt;rw[this];simp[List.getD,hj]
end
variable {W:World}{TB:Nat}{tmps:AVz}
theorem vg{t0 t1 t2 t3 t4 E pc:Value}(bT:W.heap[TB]? =some (.cells #[t0,t1,t2,t3,t4] 74))(h4:tmps[4]? =some (.pointer (some ⟨TB,0,none⟩)))(h5:tmps[5]? =some E)(h6:tmps[6]? =some pc) :
  (results Tryz.f20 tmps).run prog W=.ok (.tuple #[.agg #[t0,t1,t2,t3,t4],E,pc]) W:=by
 have c0:=iz0 bT;have c1:=iz1 bT;have c2:=iz2 bT;have c3:=iz3 bT;have c4:=iz4 bT;simp[results,results20,go_sem,h4,h5,h6,c0,c1,c2,c3,c4]
def gW(m:MM)(k:Nat)(x:FuM)(t:Nat)(P Q:BAz)(fb fof tb tof cb coff:Nat)(xs:List Inx)(WB OB oc:Nat):Wg:=⟨WB,m,k,t,x.2.1,cb,coff,x.2.2.1.2.1,x.2.2.1.2.2,xs,P,Q,tb,tof,fb,fof,OB,oc,owF (opF xs) x.2.2.1.2.1⟩
def U9(m:MM)(x:FuM)(lo:LIz)(xs:List Inx)(Q:BAz)(w:World)(e:Ending)(w':World):Prop :=
 Below w.heap.size w w'/\∃a0 a1 a2 a3 n0 n1 n2 n3 c0 c1 c2 c3 hi E pc,e=.returned (.tuple #[.agg #[.slice a0 n0 c0,.slice a1 n1 c1,.slice a2 n2 c2,.slice a3 n3 c3,.int .i64 hi],.int .i64 E,.int .i64 pc]) /\
  (Good (opF xs) x.2.2.1.2.1->(∀i,i<x.2.2.1.2.1->erA m lo xs Q x.2.2.1.2.1 i=0)->E=0)
variable {T:Nat}{a:AVz}
theorem OV(h:w.heap[T]? =some (.cells a 74))(hs:a.size=5)(t0 t1 t2 t3 t4:Value) :
  (((((w.setCell ⟨T,0,none⟩ t0).setCell ⟨T,1,none⟩ t1).setCell ⟨T,2,none⟩ t2).setCell ⟨T,3,none⟩ t3).setCell ⟨T,4,none⟩ t4).heap[T]? =some (.cells #[t0,t1,t2,t3,t4] 74):=by
 obtain⟨l⟩:=a
 match l,hs with
 | [b0,b1,b2,b3,b4],_=>exact aM (aM (aM (aM (aM h))))
theorem Ep(w:World)(T:Nat)(t0 t1 t2 t3 t4:Value):Kept (fun b=>b=T) w (((((w.setCell ⟨T,0,none⟩ t0).setCell ⟨T,1,none⟩ t1).setCell ⟨T,2,none⟩ t2).setCell ⟨T,3,none⟩ t3).setCell ⟨T,4,none⟩ t4) :=
 ((((ax w T _ t0).trans (ax _ T _ t1)).trans (ax _ T _ t2)).trans (ax _ T _ t3)).trans (ax _ T _ t4)
variable {sh:List ByteArray}{i:Nat}
theorem Hs{lo:LIz}{fl:NIz}(X:Wx g w)(J:Jw g sh fl (i+1))(hj:i+1<g.cn)(HG:Good (opF g.xs) g.cn)(ha:awy (opF g.xs i)) :
  OpO g (g.ow (i+1)) (dTy g.m g.xs g.Q (top (stk (opF g.xs) (i+1))))/\(dBs g sh fl (top (stk (opF g.xs) (i+1)))).size<=256/\(dTy g.m g.xs g.Q (top (stk (opF g.xs) (i+1)))).2.size<=1000 /\
  Js g fl (i+1) (dBs g sh fl (top (stk (opF g.xs) (i+1)))++(dTy g.m g.xs g.Q (top (stk (opF g.xs) (i+1)))).2) /\
  ((∀q,q<g.cn->erA g.m lo g.xs g.Q g.cn q=0)->Rl g lo sh fl (i+1)->dBs g sh fl (top (stk (opF g.xs) (i+1)))++(dTy g.m g.xs g.Q (top (stk (opF g.xs) (i+1)))).2=(stA g.m lo g.xs g.Q g.cn (i+1)).st) /\
  ((∀q,q<g.cn->erA g.m lo g.xs g.Q g.cn q=0)->opF g.xs (i+1)=5\/opF g.xs (i+1)=6):=by
 have hokp:Okp (opF g.xs) (i+1):=yj HG hj
 have HO:OpO g (g.ow (i+1)) (dTy g.m g.xs g.Q (top (stk (opF g.xs) (i+1)))):=by rw[X.ow (i+1) hj]; exact rh hj J.opt _ (fun _ x=>x)
 have hT:=wu X HO
 have hB:(dBs g sh fl (top (stk (opF g.xs) (i+1)))).size<=256:=by
  rcases hs:stk (opF g.xs) (i+1) with _ | ⟨t,r⟩
  ·have:=Gy (g:=g) (sh:=sh) (fl:=fl) hs
   rw[hs]at this;rw[this]; exact Nat.zero_le _
  have:=lj J hs;rw[hs]at this;exact this.2
 refine⟨HO,hB,hT.2,⟨fun t r e=>?_,?_⟩,fun he R=>?_,fun he=>I0 ha (he (i+1) hj)⟩
 ·have:=(lj J e).1
  rw[cV]; omega
 ·rw[cV]; omega
 rw[R.base hokp,Rl.ty (lo:=lo) hokp];exact(OJ hokp ha (he i ae)).symm
theorem O1(m:MM)(k:Nat)(x:FuM)(t:Nat)(P Q:BAz)(fb fof tb tof cb coff:Nat)(xs:List Inx)(lo:LIz)(w:World)(hfa:m.fa=some ⟨fb,fof,none⟩)(hta:m.ta=some ⟨tb,tof,none⟩)(hk:k<m.fn)(hfn:m.fn<=1000)(ht:x.1=(t:Int))(htn:t<m.tn)(htn2:m.tn<=1000)
  (c0:w.cell? ⟨fb,fof+k*3,none⟩=some (.int .i64 x.1)) (c1:w.cell? ⟨fb,fof+k*3+1,none⟩=some (.string x.2.1)) (c2:w.cell? ⟨fb,fof+k*3+2,none⟩=some (.slice x.2.2.1.1 x.2.2.1.2.1 x.2.2.1.2.2))
  (d0:w.cell? ⟨tb,tof+t*2,none⟩=some (.string P)) (hc:ui w x.2.2.1.1 x.2.2.1.2.1 xs) (hn2:x.2.2.1.2.1<=2048) (hcap:x.2.2.1.2.1<=x.2.2.1.2.2) (hP:P.size<=1000) (hX:x.2.1.size<=1000)
  (hca:Good (opF xs) x.2.2.1.2.1->x.2.2.1.1=some ⟨cb,coff,none⟩) (HX:Good (opF xs) x.2.2.1.2.1->∀WB OB oc,WxB (gW m k x t P Q fb fof tb tof cb coff xs WB OB oc) w) (HL:Good (opF xs) x.2.2.1.2.1->∀WB OB oc,Wl (gW m k x t P Q fb fof tb tof cb coff xs WB OB oc) lo) :
  Calls prog 20 #[.agg (mV m),.int .i64 k] w (U9 m x lo xs Q w):=by
 have b1:=aj w (.cells (mV m) 29);have b2:=b1.trans ((aj (w.alloc (.cells (mV m) 29)) (eO bi bi bi bi 0)).mono b1.size);have k1:((w.alloc (.cells (mV m) 29)).alloc (eO bi bi bi bi 0)).heap[w.heap.size]? =some (bF m.ta m.tn m.tc m.ha m.hn m.hc m.ga m.gn m.gc m.fi m.mo m.fa m.fn m.fc m.da m.dn m.dc m.ea m.en m.ec):=ak (aj (w.alloc (.cells (mV m) 29)) (eO bi bi bi bi 0)) (hZn w (.cells (mV m) 29));have hs2:((w.alloc (.cells (mV m) 29)).alloc (eO bi bi bi bi 0)).heap.size=w.heap.size+2:=aw
 have k2:((w.alloc (.cells (mV m) 29)).alloc (eO bi bi bi bi 0)).heap[w.heap.size+1]? =some (eO bi bi bi bi 0):=by
  rw[show w.heap.size+1=(w.alloc (.cells (mV m) 29)).heap.size by simp]; exact hZn _ _
 have HNN:=hid (show Calls prog 29 #[.agg #[.slice m.ta m.tn m.tc,.slice m.ha m.hn m.hc,.slice m.ga m.gn m.gc,.int .i64 m.fi,.int .i64 m.mo,.slice m.fa m.fn m.fc,.slice m.da m.dn m.dc,.slice m.ea m.en m.ec],.int .i64 k] ((w.alloc (.cells (mV m) 29)).alloc (eO bi bi bi bi 0)) _ from Pz m k x t P Q fb fof tb tof ((w.alloc (.cells (mV m) 29)).alloc (eO bi bi bi bi 0)) hfa hta hk hfn ht htn htn2 (ag b2 c0) (ag b2 c1) (ag b2 c2) (ag b2 d0) xs (hc.later b2 lRn) ae hcap hP hX);have HB2:=hid b2;have HMV:(w.alloc (bF m.ta m.tn m.tc m.ha m.hn m.hc m.ga m.gn m.gc m.fi m.mo m.fa m.fn m.fc m.da m.dn m.dc m.ea m.en m.ec))=w.alloc (.cells (mV m) 29):=rfl;have HK1:=hid k1;have HK2:=hid k2;have m0:=iz0 k1;have m1:=iz1 k1;have m2:=iz2 k1;have m3:=iz3 k1;have m4:=iz4 k1;have m5:=iz5 k1;have m6:=iz6 k1;have m7:=iz7 k1;have HXX:=hid HX;have HLL:=hid HL;have HCA:=hid hca;have HFT:=hid (And.intro hfa hta);clear b1 b2 k1 k2 c0 c1 c2 d0 hc hP hX hfa hta ht htn htn2 hk hfn HX HL hca;show Calls prog 20 #[.agg #[.slice m.ta m.tn m.tc,.slice m.ha m.hn m.hc,.slice m.ga m.gn m.gc,.int .i64 m.fi,.int .i64 m.mo,.slice m.fa m.fn m.fc,.slice m.da m.dn m.dc,.slice m.ea m.en m.ec],.int .i64 k] w _;go_enter func20,ntmps20
 go_wp2_with fail;clear HMV m0 m1 m2 m3 m4 m5 m6 m7;generalize ((w.alloc (.cells (mV m) 29)).alloc (eO bi bi bi bi 0))=W2 at *;refine HNN.out.mono ?_;rintro e w3⟨hb3,rfl,v1,v2,v3,v4,hwk,hml,hfl,ap1,ap2,ap3⟩;rw[hs2]at hwk hml hfl;have B3:=hid (HB2.out.trans (hb3.mono HB2.out.size));have KT:=hid (ak hb3 HK2.out);have z0:=iz0 KT.out;have z1:=iz1 KT.out;have z2:=iz2 KT.out;have z3:=iz3 KT.out;have z4:=iz4 KT.out;have g0:w3.frozen? ⟨w.heap.size+1,0,none⟩=false:=dm KT.out;have g1:w3.frozen? ⟨w.heap.size+1,1,none⟩=false:=dm KT.out;have g2:w3.frozen? ⟨w.heap.size+1,2,none⟩=false:=dm KT.out;have g3:w3.frozen? ⟨w.heap.size+1,3,none⟩=false:=dm KT.out;have g4:w3.frozen? ⟨w.heap.size+1,4,none⟩=false:=dm KT.out
 by_cases hE:(res (opF xs) x.2.2.1.2.1 0).1=0
 rotate_left
 ·have hE':((res (opF xs) x.2.2.1.2.1 0).1 != 0)=true:=oY;have hE2:((res (opF xs) x.2.2.1.2.1 0).1==0)=false:=oY
  have HNG:=hid (fun(hG:Good (opF xs) x.2.2.1.2.1)=>hE (by rw[fN hG]));clear hwk hml hfl ap1 ap2 ap3 hE;go_wp2_with fail;refine bodyPost_ret (v:=.tuple #[.agg #[bi,bi,bi,bi,.int .i64 0],_,_]) (vg (OV KT.out rfl bi bi bi bi (.int .i64 0)) rfl rfl rfl) rfl ?_;refine⟨bw B3.out (Ep w3 (w.heap.size+1) _ _ _ _ _) B3.out.size (fun b hb=>ae),_,_,_,_,_,_,_,_,_,_,_,_,_,_,_,rfl,fun hG=>(HNG.out hG).elim⟩
 have hG:=yO hE;have hE1:res (opF xs) x.2.2.1.2.1 0=(0,0):=fN hG
 rcases hml with ⟨h,_⟩ | ⟨_,l1,l2,l3⟩
 ·exact absurd hE h
 have hpos:0<x.2.2.1.2.1:=hG.1;obtain⟨A1,q1,rfl⟩:=l1.slice;obtain⟨A2,ec,rfl⟩:=l2.slice;obtain⟨A3,oc,rfl⟩:=l3.slice;obtain⟨A4,fc,rfl⟩:=hfl.slice;simp only[List.length_map,List.length_range,List.length_replicate]at l1 l2 l3 hfl ap1 ap2 ap3 hwk;obtain⟨EB,rfl,_⟩:=l2.cell.2.resolve_left ae;obtain⟨OB,rfl,_⟩:=l3.cell.2.resolve_left ae;obtain⟨FB,rfl,_⟩:=hfl.cell.2.resolve_left ae;have HBX:=hid ((HXX.out hG (w.heap.size+4) OB oc).later HB2.out);have HWL:=hid (HLL.out hG (w.heap.size+4) OB oc);obtain⟨g,hg⟩:∃g,g=gW m k x t P Q fb fof tb tof cb coff xs (w.heap.size+4) OB oc:=⟨_,rfl⟩
 have hT0:Tb g W2 (.slice A1 x.2.2.1.2.1 q1) EB ec FB fc w3.heap.size bi (fun _=>-1) [] w3:=by
  subst hg;refine⟨hb3,?_,l3.rc rfl,l2.rc rfl,hfl.rc ?_,⟨rfl,.inl ⟨rfl,rfl⟩⟩,Nat.le_refl _⟩
  ·have hfa:=HFT.out.1;have hca:=HCA.out hG;refine hwk.trans ?_
   show some (Obj.cells #[_,_,_,_,_,.slice m.fa m.fn m.fc,_,_,_,.slice x.2.2.1.1 _ _,_,_,_,_,_,_] 94)=some (Obj.cells #[_,_,_,_,_,.slice (some ⟨fb,fof,none⟩) m.fn m.fc,_,_,_,.slice (some ⟨cb,coff,none⟩) _ _,_,_,_,_,_,_] 94);rw[hfa,hca];rfl
  apply List.ext_getElem aw; intro i h1 h2; simp
 have hTN:Tn g W2 EB FB w3.heap.size:=by
  subst hg;have a2:=LI.block (b:=EB) l2 rfl;have a3:=LI.block (b:=OB) l3 rfl;have a4:=LI.block (b:=FB) hfl rfl;have a5:=aN hwk;refine⟨by show _<=w.heap.size+4; omega,a5,by show _<=OB; omega,a3.2,ae,a2.2,ae,a4.2,by show w.heap.size+4≠OB; omega,by show w.heap.size+4≠EB; omega,by show w.heap.size+4≠FB; omega,fun e=>ap3 FB rfl (by show some OB=some FB; rw[e]; rfl),fun e=>ap2 FB rfl (by show some EB=some FB; rw[e])⟩
 rw[<- hg]at HBX HWL
 have hWB:W2.heap.size+2=g.WB:=by rw[hg,hs2]; rfl
 have HGn:=hid (show g.cn<=2048 by rw[hg]; exact hn2);have HPR:=hid (show(∀i,i<x.2.2.1.2.1->erA m lo xs Q x.2.2.1.2.1 i=0)->∀i,i<g.cn->erA g.m lo g.xs g.Q g.cn i=0 by rw[hg]; exact fun h=>h);have HFIN:=hid (fun(V:World) (hV:Below W2.heap.size W2 V)=>(HB2.out.trans (hV.mono HB2.out.size):Below w.heap.size w V));have HHG:=hid (show Good (opF g.xs) g.cn by rw[hg]; exact hG);have HTN:=hid hTN;have HT0:=hid hT0;have HS2:=hid hs2;rw[hE1,hWB];generalize hbs:w3.heap.size=base at *;have HBW:=hid (show base<=w3.heap.size by omega);clear hT0 hTN hg hG hE hE1 hpos l1 l2 l3 hfl ap1 ap2 ap3 hwk hWB HXX HLL HCA HFT HNN KT z0 z1 z2 z3 z4 g0 g1 g2 g3 g4 hn2 hcap HK1;go_wp2_with fail
 go_loopw [10,11,12] (fun sv hv pv wr=>∃(j:Nat)(s:BAz)(hi:Int)(fl:NIz)(sh:List ByteArray)(v5:Value),j<=g.cn/\sv=.string s/\hv=.int .i64 hi/\pv=.int .i64 j/\Tb g W2 (.slice A1 x.2.2.1.2.1 q1) EB ec FB fc base v5 fl sh wr/\Jw g sh fl j/\(j=0\/¬awy (opF g.xs (j-1))->Js g fl j s)/\((∀i,i<g.cn->erA g.m lo g.xs g.Q g.cn i=0)->Rl g lo sh fl j/\(j=0\/¬awy (opF g.xs (j-1))->s=(stA g.m lo g.xs g.Q g.cn j).st))) (fun _ _ pv _=>g.cn-(intOf pv).toNat)
 case atStart =>
  exact⟨0,⟨#[]⟩,0,fun _=>-1,[],bi,Nat.zero_le _,rfl,rfl,rfl,HT0.out,⟨rfl,fun t ht=>(by cases ht),fun t ht=>(by cases ht)⟩,fun _=>⟨fun t r e=>iT,Nat.zero_le _⟩,fun _=>⟨⟨fun i hi=>absurd hi ae,fun t ht=>(by cases ht)⟩,fun _=>rfl⟩⟩
 case round =>
  obtain⟨j,s,hi,fl,sh,v5,hj,rfl,rfl,rfl,T,J,Hjs,Hpg⟩:=hrel;have X:=T.wx HBX.out;have x9:=X.wf.c9;have HBR:=hid T.big
  by_cases hlt:j<g.cn
  ·have hjc:(j:Int)<(g.cn:Int):=ae
   have HW64:=hid (show wrap64 ((j:Int)+1)=(j:Int)+1 by have:=HGn.out; unfold wrap64; omega);have op0:=X.wf.cod.op hlt;have HT:=hid T;have HJ:=hid J;have HJS:=hid Hjs;have HPG:=hid Hpg;clear T J Hjs Hpg;obtain⟨AW,hAW⟩:∃AW,AW=(0<j/\awy (opF g.xs (j-1))):=⟨_,rfl⟩;obtain⟨tb,htb⟩:∃tb:Bool,(tb=true↔AW):=⟨@decide AW (Classical.propDecidable AW),aw⟩;have HAWE:=hid hAW;have HTB:=hid htb;clear hAW htb
   go_upto_region 10 with fail
   go_cut [59] from 29 to 108 (fun tv wx=>tv=.bool tb/\wx=wr)
   case first =>
    rcases Nat.eq_zero_or_pos j with hj0 | hjp
    ·as_aux_lemma =>
      have hnp:¬(0:Int)<(j:Int):=ae
      have hf:tb=false:=by
       rw[<- Bool.not_eq_true,HTB.out,HAWE.out]; exact fun h=>ae
      subst hf;clear X hj0;go_wp2_with fail
      go_meet
      exact⟨rfl,rfl⟩
    as_aux_lemma =>
     obtain⟨i,hji⟩:∃i,j=i+1:=⟨j-1,ae⟩
     have hsub:IntKind.i64.wrap ((j:Int)-1)=(i:Int):=by
      rw[i64_in _ ae (by have:=HGn.out; omega)]; omega
     have hp0:(0:Int)<(j:Int):=ae;have hic:(i:Int)<(g.cn:Int):=ae;have op1:=X.wf.cod.op (show i<g.cn by omega);have HAW:=hid (fun(W:World)=>SU (opF g.xs i) W)
     have ht:decide (opF g.xs i=7\/opF g.xs i=9\/opF g.xs i=10\/opF g.xs i=0)=tb:=by
      have h1:=HTB.out;rw[HAWE.out,hji]at h1;have h2:(i+1-1)=i:=ae;rw[h2]at h1
      by_cases ha:awy (opF g.xs i)
      ·rw[h1.2 ⟨ae,ha⟩]; exact decide_eq_true ha
      rw[Bool.eq_false_iff.2 (fun h=>ha (h1.1 h).2)]; exact decide_eq_false ha
     rw[ht]at HAW;clear X hji hjp ht
     go_wp2_with (first
      | (go_at_call 30; refine(HAW.out _).mono ?_; rintro e w' ⟨rfl,hw'⟩; obtain rfl:=hw'.symm))
     go_meet
     exact⟨rfl,rfl⟩
   case rest =>
   obtain⟨rfl,rfl⟩:=hcut
   go_upto_if 59 with fail
   go_cut [10,14] from 29 to 108 (fun sv ov wx=>∃s',sv=.string s'/\Hid (Below wc.heap.size wc wx)/\Hid (Js g fl j s')/\Hid ((∀i,i<g.cn->erA g.m lo g.xs g.Q g.cn i=0)->s'=(stA g.m lo g.xs g.Q g.cn j).st))
   case first =>
    by_cases ha:AW
    rotate_left
    ·as_aux_lemma =>
      have hf:tb=false:=by rw[<- Bool.not_eq_true,HTB.out]; exact ha
      have HNA:Hid (j=0\/¬awy (opF g.xs (j-1))):=hid (by
       by_cases hj0:j=0
       ·exact .inl hj0
       exact .inr (fun h=>ha (HAWE.out ▸ ⟨ae,h⟩)))
      subst hf;clear X ha;go_wp2_with fail
      go_meet
      exact⟨_,rfl,hid (Below.refl _ _),hid (HJS.out HNA.out),hid (fun hp=>(HPG.out hp).2 HNA.out)⟩
    have ht:tb=true:=HTB.out.2 ha;rw[HAWE.out]at ha;obtain⟨hjp,ha⟩:=ha;obtain⟨i,hji⟩:∃i,j=i+1:=⟨j-1,ae⟩;have hii:j-1=i:=ae;rw[hii]at ha;subst ht
    as_aux_lemma =>
     have DF:=Hs (lo:=lo) (i:=i) X (by rw[<- hji]; exact HJ.out) (by rw[<- hji]; exact hlt) HHG.out ha;rw[<- hji]at DF
     have hshp:0<sh.length:=by rw[HJ.out.len]; omega
     obtain⟨p5',q5',e5'⟩:=HT.out.shp.slice
     have HBS:Hid (gw g wc (g.ow j) (dBs g sh fl (top (stk (opF g.xs) j)))):=by
      have h:=HT.out;rw[e5']at h;obtain⟨_,hc⟩:=h.shp.cell;obtain⟨SB,e,_⟩:=hc.resolve_left ae;rw[e]at h;exact hid (rH X (h.ws (by rw[HJ.out.len]; have:=HGn.out; omega)) (fun _ _ h=>h) hlt HJ.out)
     generalize hS0:dBs g sh fl (top (stk (opF g.xs) j))=S0 at *;generalize hpT:dTy g.m g.xs g.Q (top (stk (opF g.xs) j))=pT at *;obtain⟨HO,hB,hT,hjs,hpg,hdd⟩:=DF;have x13:=X.wf.c13;have ow0:=X.wf.ow j hlt;have HTY:=hid (fun(W:World) (hb:Below wc.heap.size wc W)=>mj g W (X.wf.later hb) HO);have HDD:=hid hdd;have HJ5:=hid hjs;have HPJ:=hid hpg;clear hii ha hji hjp hjs hpg hdd HO X e5' hS0 hpT hshp
     by_cases h56:opF g.xs j=5\/opF g.xs j=6
     rotate_left
     ·have h5:(opF g.xs j==5)=false:=aK;have h6:(opF g.xs j==6)=false:=aK;have h5':(opF g.xs j != 5)=true:=aK;have h6':(opF g.xs j != 6)=true:=aK;have HN:=hid h56;have KT5:=hid (ak HT.out.bel HK2.out);clear h56 x13 ow0;have z0:=iz0 KT5.out;have g0:wc.frozen? ⟨w.heap.size+1,0,none⟩=false:=dm KT5.out;have z1:=iz1 KT5.out;have g1:wc.frozen? ⟨w.heap.size+1,1,none⟩=false:=dm KT5.out;have z2:=iz2 KT5.out;have g2:wc.frozen? ⟨w.heap.size+1,2,none⟩=false:=dm KT5.out;have z3:=iz3 KT5.out;have g3:wc.frozen? ⟨w.heap.size+1,3,none⟩=false:=dm KT5.out;have z4:=iz4 KT5.out;have g4:wc.frozen? ⟨w.heap.size+1,4,none⟩=false:=dm KT5.out;go_wp2_with fail;refine bodyPost_ret (v:=.tuple #[.agg #[bi,bi,bi,bi,.int .i64 0],_,_]) (vg (OV KT5.out rfl bi bi bi bi (.int .i64 0)) rfl rfl rfl) rfl ?_
      refine⟨bw (HFIN.out _ HT.out.bel) (Ep wc (w.heap.size+1) _ _ _ _ _) (HFIN.out _ HT.out.bel).size (fun b hb=>ae),_,_,_,_,_,_,_,_,_,_,_,_,_,_,_,rfl,fun _ hp=>?_⟩;exact absurd (HDD.out (HPR.out hp)) HN.out
     have fld1:∀(a b:Value)(W:World),(Instr.field 55 (.agg #[a,b]) 1).run prog W=.ok b W:=fun _ _ _=>rfl;have hv1:¬(9223372036854775807<S0.size+pT.2.size):=ae;clear hB hT HDD;obtain⟨b5,h5⟩:∃b5,(opF g.xs j != 5)=b5:=⟨_,rfl⟩
     have h6:b5=true->(opF g.xs j != 6)=false:=fun h=>by
      rw[h]at h5;have:opF g.xs j≠5:=sy;simp; omega
     clear h56
     cases b5
     rotate_left;have h6:=h6 rfl
     all_goals
      go_wp2_with fail;refine(HBS.out _ (Below.refl _ _)).mono ?_;rintro e w31⟨rfl,hb31⟩;go_wp2_with fail;refine(HTY.out _ hb31).mono ?_;rintro e w32⟨rfl,hb32⟩;have HB32:=hid (hb31.trans (hb32.mono hb31.size));clear hb31 hb32;go_wp2_with fail
      go_meet
      exact⟨_,rfl,HB32,HJ5,hid (fun hp=>HPJ.out hp (HPG.out hp).1)⟩
   case rest =>
    obtain⟨s',rfl,HBw,JS,PG⟩:=hcut;have TC:=HT.out.later HBw.out;clear X op0 x9 HBR HT HJS HBw;obtain⟨p5,q5,e5⟩:=TC.shp.slice;have c15:=iz15 TC.blk;rw[e5]at c15;have ob:=aj wc (iy s');have TA:=hid (TC.later ob);have HLE:=hid (show base<=(wc.alloc (iy s')).heap.size from Nat.le_trans TC.big ob.size)
    have hlen:sh.length<=1073741824:=by rw[HJ.out.len]; have:=HGn.out; omega
    have E5:=hid e5;have HLS:=hid (show LSr (wc.alloc (iy s')) base (.slice p5 sh.length q5) sh by rw[<- e5]; exact TA.out.shp);have hjl:=hid HJ.out.len;clear ob e5 TC
    go_wp2_with (first
     | (at_builtin; refine LD _ rfl (.tmp 87) (.tmp 89) rfl base _ sh rfl HLS.out HLE.out ⟨wc.heap.size,0,none⟩ s' rfl kQ hlen ?_; intro B1 C1 j1 w1 hj1 l1 o1 p1; have P1:=hid (show Kept (fun b=>v5.ownBlock=some b) (wc.alloc (iy s')) w1 by rw[E5.out]; exact p1); have TS:=hid (TA.out.push HTN.out l1 P1.out); have BK1:=hid ((P1.out.block _ (aN TA.out.blk) (fun hb=>by have:=(LSr.block TA.out.shp hb).1; have:=HTN.out.w1; omega)).trans TA.out.blk); have c151:=iz15 BK1.out; have f151:w1.frozen? ⟨g.WB,15,none⟩=false:=dm BK1.out; have HJ1:=hid hj1; clear l1 p1 hj1))
    all_goals
     as_aux_lemma =>
      generalize w1.setCell ⟨g.WB,15,none⟩ (.slice (some ⟨B1,0,none⟩) j1 C1)=wS at *;have HST:=hid (Oi (TS.out.wx HBX.out) HWL.out (SB:=B1) (sc:=C1) (by have h:=TS.out; rw[HJ1.out]at h; exact h.ws (by simp only[List.length_append,List.length_cons,List.length_nil]; have:=HGn.out; have:=hjl.out; omega)) TS.out.we hlt HJ.out JS.out (TS.out.flr.free _));refine HST.out.mono ?_;rintro e w5⟨next,er,fl',rfl,hS,hJ,hR⟩;have T5:=hid (TS.out.step HTN.out hlt hS);have HJN:=hid hJ;have HRN:=hid hR;clear hS hJ hR HST;have KT5:=hid (ak T5.out.bel HK2.out)
      by_cases her:er=0
      rotate_left
      ·have her1:(er != 0)=true:=by simpa using her
       have her2:(er==0)=false:=by simpa using her
       have HER:=hid her;clear her;have z0:=iz0 KT5.out;have g0:w5.frozen? ⟨w.heap.size+1,0,none⟩=false:=dm KT5.out;have z1:=iz1 KT5.out;have g1:w5.frozen? ⟨w.heap.size+1,1,none⟩=false:=dm KT5.out;have z2:=iz2 KT5.out;have g2:w5.frozen? ⟨w.heap.size+1,2,none⟩=false:=dm KT5.out;have z3:=iz3 KT5.out;have g3:w5.frozen? ⟨w.heap.size+1,3,none⟩=false:=dm KT5.out;have z4:=iz4 KT5.out;have g4:w5.frozen? ⟨w.heap.size+1,4,none⟩=false:=dm KT5.out;go_wp2_with fail;refine bodyPost_ret (v:=.tuple #[.agg #[bi,bi,bi,bi,.int .i64 0],_,_]) (vg (OV KT5.out rfl bi bi bi bi (.int .i64 0)) rfl rfl rfl) rfl ?_;refine⟨bw (HFIN.out _ T5.out.bel) (Ep w5 (w.heap.size+1) _ _ _ _ _) (HFIN.out _ T5.out.bel).size (fun b hb=>ae),_,_,_,_,_,_,_,_,_,_,_,_,_,_,_,rfl,fun _ hp=>?_⟩;exact absurd (HRN.out (HPR.out hp) (HPG.out (HPR.out hp)).1 (PG.out (HPR.out hp))).1 HER.out
      subst her;go_wp2_with fail;have hgn:=HGn.out
      refine⟨⟨_,next,_,fl',sh++[s'],_,hlt,rfl,rfl,by first | (rw[HW64.out]; rfl) | go_num,T5.out,(HJN.out (by trivial)).1,fun h=>(HJN.out (by trivial)).2 (h.resolve_left ae),fun hp=>⟨(HRN.out hp (HPG.out hp).1 (PG.out hp)).2.1,fun h=>(HRN.out hp (HPG.out hp).1 (PG.out hp)).2.2 (h.resolve_left ae)⟩⟩,Et⟩
  as_aux_lemma =>
   have hjc:¬(j:Int)<(g.cn:Int):=ae;have KT5:=hid (ak T.bel HK2.out);obtain⟨p5,q5,e5⟩:=T.shp.slice;have y11:=iz11 T.blk;have y12:=iz12 T.blk;have y14:=iz14 T.blk;have y15:=iz15 T.blk;rw[e5]at y15;have z0:=iz0 KT5.out;have g0:wr.frozen? ⟨w.heap.size+1,0,none⟩=false:=dm KT5.out;have z1:=iz1 KT5.out;have g1:wr.frozen? ⟨w.heap.size+1,1,none⟩=false:=dm KT5.out;have z2:=iz2 KT5.out;have g2:wr.frozen? ⟨w.heap.size+1,2,none⟩=false:=dm KT5.out;have z3:=iz3 KT5.out;have g3:wr.frozen? ⟨w.heap.size+1,3,none⟩=false:=dm KT5.out;have z4:=iz4 KT5.out;have g4:wr.frozen? ⟨w.heap.size+1,4,none⟩=false:=dm KT5.out;have HT:=hid (HFIN.out _ T.bel);have KT6:=KT5;clear T X J Hjs Hpg e5;go_wp2_with fail
   go_region
   go_wp2_with fail;refine bodyPost_ret (v:=.tuple #[.agg #[.slice p5 sh.length q5,.slice A1 x.2.2.1.2.1 q1,.slice (some ⟨EB,0,none⟩) g.cn ec,.slice (some ⟨FB,0,none⟩) g.cn fc,.int .i64 hi],.int .i64 0,.int .i64 0]) (vg (ak (below_drewN _ 1) (OV KT6.out rfl (.slice p5 sh.length q5) (.slice A1 x.2.2.1.2.1 q1) (.slice (some ⟨EB,0,none⟩) g.cn ec) (.slice (some ⟨FB,0,none⟩) g.cn fc) (.int .i64 hi))) rfl rfl rfl) rfl ?_;have KP:=Ep wr (w.heap.size+1) (.slice p5 sh.length q5) (.slice A1 x.2.2.1.2.1 q1) (.slice (some ⟨EB,0,none⟩) g.cn ec) (.slice (some ⟨FB,0,none⟩) g.cn fc) (.int .i64 hi)
   refine⟨(bw HT.out KP HT.out.size (fun b hb=>ae)).trans ((below_drewN _ 1).mono (Nat.le_trans HT.out.size KP.size)),_,_,_,_,_,_,_,_,_,_,_,_,_,_,_,rfl,fun _ _=>rfl⟩
variable {m:MM}
theorem Mv{lo:LIz}(h:EvW w m)(h64:lo.length<=64)(hl:∀x∈lo,x=119\/x=108):∃v w1,EvM v w1 m lo:=by
 have b:=aj w (.cells (lo.map (Value.int .u8)).toArray 5);have k:=hZn w (.cells (lo.map (Value.int .u8)).toArray 5);refine⟨⟨w.heap.size+1,w.heap.size+1,w.heap.size+1,w.heap.size+1,0,0,0,mV m,.slice (some ⟨w.heap.size,0,none⟩) lo.length lo.length⟩,_,h.evm b (fun k hk=>?_) rfl (L:=w.heap.size) (lc:=lo.length) rfl lRn (.inr fun hk=>?_) h64 (fun j x hj=>?_) hl⟩
 ·rcases hk with hk | hk | hk | hk <;> (simp only at hk; omega)
 ·rcases hk with hk | hk | hk | hk <;> (simp only at hk; omega)
 rw[ai k]; simp[hj]
variable {y:FuM}{j:Nat}{z:InM}
theorem RN(h0:bO m=0)(hy:m.fns[k]? =some y)(hz:y.2.2.2[j]? =some z):(ofV z.1).2=true/\(z.1=9->0<z.2.2.2.length):=by
 have hf:=(kG ((cK (jY h0).2.2.2).2 k y hy)).2.2.2.2.2 j z hz;have hc:=Aa hf;refine⟨?_,fun e=>hc.2.2.2 (by rw[e]; exact tk9)⟩
 by_cases ht:tkV z.1=-1
 ·unfold dH chk at hf;rw[if_pos ht]at hf
  cases hf
 exact(yE ht).1
theorem Uw(h0:bO m=0)(hm:MOk w w.heap.size w.heap.size m)(hk:bg w)(hp:0<w.heap.size)(hy:m.fns[k]? =some y)(hcap:y.2.2.1.2.1<=y.2.2.1.2.2) :
  Calls prog 20 #[.agg (mV m),.int .i64 k] w fun e w'=>Below w.heap.size w w'/\∃a0 a1 a2 a3 n0 n1 n2 n3 c0 c1 c2 c3 hi E pc,e=.returned (.tuple #[.agg #[.slice a0 n0 c0,.slice a1 n1 c1,.slice a2 n2 c2,.slice a3 n3 c3,.int .i64 hi],.int .i64 E,.int .i64 pc])/\(Pt m y->E=0):=by
 obtain⟨t,P,Q,ht,htp,hPl,hll,hcn,hcod,hbr⟩:=Hm h0 hm hy;have hW:=Bj h0 hm hk hp
 have hkl:k<m.fn:=by have:=az hy; rw[hm.pf.1]at this; exact this
 have htl:t<m.tn:=by have:=az htp; rw[hm.pt.1]at this; exact this
 obtain⟨fb,fo,hfa,hfc⟩:=hm.pf.2.resolve_left ae;obtain⟨tb,to_,hta,htc⟩:=hm.pt.2.resolve_left ae;obtain⟨p0,p1,p2⟩:=hfc k y hy
 obtain⟨cb,coff,hcc⟩:∃cb coff,0<y.2.2.1.2.1->y.2.2.1.1=some ⟨cb,coff,none⟩/\Cod w cb coff y.2.2.1.2.1 (y.2.2.2.map inx):=by
  rcases hcod.2 with h | ⟨cb,coff,h1,h2⟩
  ·exact⟨0,0,fun h'=>ae⟩
  exact⟨cb,coff,fun _=>⟨h1,h2⟩⟩
 have hlen:(y.2.2.2.map inx).length=y.2.2.1.2.1:=hcod.1
 have hyl:y.2.2.2.length=y.2.2.1.2.1:=by rw[<- hlen,List.length_map]
 have t64:=hW.t64;have f128:=hW.f128;have h32:=hW.h32;have g64:=hW.g64
 have hINS:∀j,j<y.2.2.1.2.1->(ofV (opF (y.2.2.2.map inx) j)).2=true/\(opF (y.2.2.2.map inx) j=9->0<((y.2.2.2.map inx).getD j dx).l.length):=fun j hj=>by
  obtain⟨z,hz⟩:∃z,y.2.2.2[j]? =some z:=⟨_,aY ae⟩;have:=RN h0 hy hz;have e:=tD hz;show(ofV ((y.2.2.2.map inx).getD j dx).c).2=true/\(((y.2.2.2.map inx).getD j dx).c=9->_);rw[e];exact this
 have HT:=O1 m k y t P Q fb fo tb to_ cb coff (y.2.2.2.map inx) (aC (P++y.2.1)) w hfa hta hkl ae ht htl ae p0 p1 p2 (htc t _ htp).1 hcod hcn hcap ae ae
  (fun hG=>(hcc hG.1).1)
  (fun hG WB OB oc=>⟨(hcc hG.1).2,htc,hm.pt.1,fun j x hx=>(hfc j x hx).1,hm.pf.1,hkl,⟨y.2.2.1,y.2.2.2,by show m.fns[k]? =some ((t:Int),y.2.1,y.2.2.1,y.2.2.2); rw[hy,<- ht]⟩,htp,hcn,t64,f128,hW.ph,by show m.hn<=1000000; omega,
   fun a z hz=>by
    obtain⟨h1,h2⟩:=hW.hT z (List.mem_of_getElem? hz);obtain⟨q,rfl⟩:∃q:Nat,z=(q:Int):=⟨z.toNat,ae⟩;exact⟨q,_,rfl,aY (by show q<m.types.length; rw[hm.pt.1]; omega)⟩,
   fun a fu hfu=>by
    obtain⟨h1,h2⟩:=hW.fT fu (List.mem_of_getElem? hfu);exact⟨fu.1.toNat,_,ae,aY (by show fu.1.toNat<m.types.length; rw[hm.pt.1]; omega)⟩,
   hW.pg,by show m.gn<=1000000; omega,
   fun a x hx=>by have:=hW.gL x (List.mem_of_getElem? hx); omega,
   fun q p hq=>by have:=hW.tL p (List.mem_of_getElem? hq); omega,
   by show(P++y.2.1).size<=1000000; rw[ByteArray.size_append]; omega,
   fun j hj=>if_pos hj,fun j hj=>(hINS j hj).1,hbr⟩)
  (fun hG WB OB oc=>⟨hG,rfl,hll,fun q hq=>by
    obtain⟨x,hx⟩:∃x,m.globals[q]? =some x:=⟨_,aY (by rw[hm.pg.1]; exact hq)⟩;have:=hW.gL x (List.mem_of_getElem? hx);show glC m (q:Int)=119\/glC m (q:Int)=108;unfold glC;rw[Int.toNat_natCast,hx];exact this,
   fun he j hj=>by
    obtain⟨v,w1,hM⟩:=Mv hW (lo:=aC (P++y.2.1)) (by rw[dz,ByteArray.size_append]; omega) hll;exact Oa hM hG (hW.tL (P,Q) (List.mem_of_getElem? htp)).2 hG.1 (fun j hj=>(hcc hG.1).2.range hj) he j hj,
   fun j hj=>(hINS j hj).2⟩)
 refine HT.mono (fun e w' hO=>?_);obtain⟨hb,a0,a1,a2,a3,n0,n1,n2,n3,c0,c1,c2,c3,hi,E,pc,he,hE⟩:=hO;refine⟨hb,a0,a1,a2,a3,n0,n1,n2,n3,c0,c1,c2,c3,hi,E,pc,he,fun hF=>?_⟩;obtain⟨hG,P',Q',hP',hz⟩:=hF;rw[ht,Int.toNat_natCast,htp]at hP';injection hP' with hP';injection hP' with e1 e2;subst e1 e2;exact hE hG hz
theorem Ta(m:MM)(w:World)(hb:SzC w m)(pt:iX w m.ta m.tn m.types)(pf:od w m.fa m.fn m.fns)(pd:pS w m.da m.dn m.data)(pe:qJ w m.ea m.en m.exps) :
  Calls prog 6 #[.agg (mV m)] w fun e w'=>∃s:Nat,e=.returned (.int .i64 s)/\Below w.heap.size w w'/\(s<=20000->m.tn+m.hn+m.gn+m.fn+m.dn+m.en+(tu m.types+ke m.fns+pF m.data+mR m.exps)<=20000):=by
 have B0:=aj w (.cells (mV m) 29);have b0:=hZn w (.cells (mV m) 29);have hk:Kept (fun _=>False) w (w.alloc (.cells (mV m) 29)):=aP B0;have PT:=hid (pt.kept hk (fun _ _ _ _=>id));have PF:=hid (pf.kept hk (fun _ _ _ _=>id));have PD:=hid (pd.kept hk (fun _ _ _ _=>id));have PE:=hid (pe.kept hk (fun _ _ _ _=>id));have PI:=hid (fun(j:Nat) x (hj:m.fns[j]? =some x)=>(hb.f j x hj).2.2.1.kept hk (fun _ _ _ _=>id));obtain⟨u1,u2,u3,u4,u5,u6,ut,uf,ud,ue⟩:=hb;have UT:=hid ut;have UF:=hid uf;have UD:=hid ud;have UE:=hid ue;have BW:=hid B0;have BW2:=hid (fun(q:Nat)=>(below_drewN (w.alloc (.cells (mV m) 29)) q).mono (show w.heap.size<=(w.alloc (.cells (mV m) 29)).heap.size by simp));clear pt pf pd pe hk ut uf ud ue B0;have m0:=iz0 b0;have m1:=iz1 b0;have m2:=iz2 b0;have m3:=iz3 b0;have m4:=iz4 b0;have m5:=iz5 b0;have m6:=iz6 b0;have m7:=iz7 b0;have HW:w.alloc (bF m.ta m.tn m.tc m.ha m.hn m.hc m.ga m.gn m.gc m.fi m.mo m.fa m.fn m.fc m.da m.dn m.dc m.ea m.en m.ec)=w.alloc (.cells (mV m) 29):=rfl;generalize w.alloc (.cells (mV m) 29)=W0 at *;show Calls prog 6 #[.agg #[.slice m.ta m.tn m.tc,.slice m.ha m.hn m.hc,.slice m.ga m.gn m.gc,.int .i64 m.fi,.int .i64 m.mo,.slice m.fa m.fn m.fc,.slice m.da m.dn m.dc,.slice m.ea m.en m.ec]] w _;clear b0;go_enter func6,ntmps6;go_wp2_with fail
 go_loopw [3,4] (fun s i wr=>∃k z:Nat,k<=m.tn/\s=.int .i64 (z:Nat)/\i=.int .i64 k/\(∃q,wr=W0.drewN q)/\z<=1125899906842624/\Hid (m.tn+m.hn+m.gn+m.fn+m.dn+m.en+tu (m.types.take k)<=z)) (fun _ i _=>m.tn-(intOf i).toNat)
 case atStart=>exact⟨0,(m.tn+m.hn+m.gn+m.fn+m.dn+m.en),ae,bH,rfl,⟨0,rfl⟩,ae,hid (by simp[tu])⟩
 case round =>
  obtain⟨k,z1,hk,rfl,rfl,⟨q1,rfl⟩,hz1,HF1⟩:=hrel
  by_cases hlt:k<m.tn
  ·have hlt':(k:Int)<(m.tn:Int):=ae
   by_cases hbd:z1<=2147483647
   ·obtain⟨x,hxk⟩:∃x,m.types[k]? =some x:=⟨_,aY (by rw[PT.out.1]; exact hlt)⟩
    obtain⟨b,off,hfa,hat⟩:=PT.out.2.resolve_left ae;have hat:=hat k x hxk;have hu:=UT.out k x hxk;have hk0:(0:Int)<=(k:Int):=ae;have hbd':(z1:Int)<=2147483647:=ae;have hbq:decide ((z1:Int)<=2147483647)=true:=decide_eq_true hbd';rw[hfa]at m0;obtain⟨g0,g1⟩:=hat;rw[hfa];go_wp2_with fail
    go_quiet (fail)
    go_wp2_with fail;exact⟨⟨k+1,z1+x.1.size+x.2.size,ae,bH,bH,⟨_,rfl⟩,ae,hid (by have:=HF1.out; rw[IX hxk]; omega)⟩,bI⟩
   have hbd':¬(z1:Int)<=2147483647:=ae;have hbq:decide ((z1:Int)<=2147483647)=false:=decide_eq_false hbd';exact Qx
  obtain rfl:k=m.tn:=ae;exact Qx
theorem Jf(s:BAz)(most:Nat)(w:World)(hs:s.size<=281474976710656)(hm:most<=1073741824) :
  Calls prog 130 #[.string s,.int .i64 most] w fun e w'=>e=.returned (.bool (cC s most))/\w'=w:=by
 by_cases hbig:most<s.size
 ·exact Mr
 exact JO s most w ae hm
def ltE(s:BAz)(most:Nat):Int:=if most<s.size then 13 else if cC s most=false then 15 else 0
theorem mK(s:BAz)(most:Nat)(w:World)(hs:s.size<=281474976710656)(hm:most<=1073741824) :
  Calls prog 88 #[.string s,.int .i64 most] w fun e w'=>e=.returned (.int .i64 (ltE s most))/\w'=w:=by
 by_cases hbig:most<s.size
 ·have h':(most:Int)<s.size:=ae
  have HV:=hid (show ltE s most=13 by unfold ltE; rw[if_pos hbig]);go_enter func88,ntmps88
  go_wp2;go_ret;exact⟨cP,rfl⟩
 have h':¬(most:Int)<s.size:=ae;have he:=Jf s most w hs hm
 cases hb:cC s most with
 | false =>
  rw[hb]at he;have HE:=hid he;have HV:=hid (show ltE s most=15 by unfold ltE; rw[if_neg hbig,if_pos hb]);exact Mq
 | true =>
  rw[hb]at he;have HE:=hid he;have HV:=hid (show ltE s most=0 by unfold ltE; rw[if_neg hbig,if_neg (by rw[hb]; simp)]);exact Mq
theorem Pi(v c:Int)(w:World):Calls prog 90 #[.int .u64 v,.int .u8 c] w fun e w'=>e=.returned (.bool (dI v c))/\w'=w:=by
 rcases jx c with ⟨rfl,h⟩ | ⟨rfl,h⟩ | ⟨h1,h2,h⟩
 all_goals
  go_enter func90,ntmps90
  go_wp2;go_ret
  first | exact⟨rfl,rfl⟩ | (simp_all [dI])
theorem rM(s:BAz):jX s=true↔0<s.size/\∀i,i<s.size->33<=dB s i/\dB s i<=126:=by
 unfold jX aC;rw[Bool.and_eq_true,List.all_eq_true,ia]
 constructor
 ·intro ⟨h1,h2⟩
  have h3:s.data.toList≠[]:=by intro e; rw[e]at h2; simp at h2
  refine⟨by rw[dQ]; exact List.length_pos_iff.2 h3,fun i hi=>?_⟩
  have hi':i<s.data.toList.length:=by rw[dQ]at hi; exact hi
  have:=h1 ((s.data.toList[i]'hi').toNat:Int) (List.mem_map.2 ⟨_,List.getElem_mem hi',rfl⟩);rw[dB,aY hi',Option.getD_some];exact cF
 intro ⟨h1,h2⟩;refine⟨fun b hb=>?_,?_⟩
 ·obtain⟨c,hc,rfl⟩:=List.mem_map.1 hb;obtain⟨i,hi,rfl⟩:=List.getElem_of_mem hc
  have:=h2 i (by rw[dQ]; exact hi);rw[dB,aY hi,Option.getD_some]at this;exact cF
 rw[dQ]at h1
 cases h:s.data.toList with
 | nil=>rw[h]at h1; simp at h1
 | cons a r=>rfl
def nmE(s ahead:BAz)(first:Bool):Int:=if 32<s.size then 13 else if jX s=false then 23 else if first=false/\sGt s ahead=false then 18 else 0
theorem IH(s ahead:BAz)(first:Bool)(w:World)(hs:s.size<=281474976710656) :
  Calls prog 92 #[.string s,.string ahead,.bool first] w fun e w'=>e=.returned (.int .i64 (nmE s ahead first))/\w'=w:=by
 by_cases hbig:32<s.size
 ·have h':(32:Int)<s.size:=ae
  have HV:=hid (show nmE s ahead first=13 by unfold nmE; rw[if_pos hbig])
  exact Hc
 have h':¬(32:Int)<s.size:=ae
 by_cases h0:s.size=0
 ·have HV:=hid (show nmE s ahead first=23 by
   unfold nmE;rw[if_neg hbig,if_pos]
   cases hb:jX s with
   | false=>rfl
   | true=>have:=((rM s).1 hb).1; omega)
  have hl:(s.toList==[])=true:=by
   rw[ia];have:s.data.toList=[]:=List.eq_nil_of_length_eq_zero (by rw[<- dQ]; exact h0);rw[this]; rfl
  exact Hc
 have hl:(s.toList==[])=false:=by
  rw[ia]
  cases h:s.data.toList with
  | nil=>rw[dQ,h]at h0; exact absurd rfl h0
  | cons a r=>rfl
 have HL:=hid hl;go_enter func92,ntmps92;go_wp2_with fail
 go_loop [7] (fun i=>∃k:Nat,k<=s.size/\i=.int .i64 k/\∀i,i<k->33<=dB s i/\dB s i<=126) (fun i=>s.size-(intOf i).toNat)
 case atStart=>exact⟨0,Nat.zero_le _,rfl,fun i h=>ae⟩
 case round =>
  obtain⟨k,hk,rfl,hall⟩:=hrel;have HA:=hid hall;clear hall
  by_cases hlt:k<s.size
  ·have hlt':(k:Int)<s.size:=ae;have hbk:=iu s k hlt
   by_cases hc:33<=dB s k/\dB s k<=126
   ·have c1:decide (((s[k]'hlt).toNat:Int)<33)=false:=xA;have c2:decide ((126:Int)<((s[k]'hlt).toNat:Int))=false:=xA;go_wp2_with fail
    refine⟨⟨k+1,ae,aw,fun i hi=>?_⟩,bI⟩
    rcases Nat.lt_or_ge i k with h | h
    ·exact HA.out i h
    obtain rfl:i=k:=ae;exact hc
   have HV:=hid (show nmE s ahead first=23 by
    unfold nmE;rw[if_neg hbig,if_pos]
    cases hb:jX s with
    | false=>rfl
    | true=>exact absurd (((rM s).1 hb).2 k hlt) hc)
   by_cases hc1:dB s k<33
   ·have c1:decide (((s[k]'hlt).toNat:Int)<33)=true:=by rw[hbk]; simpa using hc1
    exact oD
   have c1:decide (((s[k]'hlt).toNat:Int)<33)=false:=by rw[hbk]; simpa using hc1
   have c2:decide ((126:Int)<((s[k]'hlt).toNat:Int))=true:=xA;exact oD
  have hlt':¬(k:Int)<s.size:=ae;have hnm:jX s=true:=(rM s).2 ⟨ae,fun i hi=>HA.out i ae⟩
  cases first with
  | true =>
   have HV:=hid (show nmE s ahead true=0 by unfold nmE; rw[if_neg hbig,if_neg (by rw[hnm]; simp),if_neg aw]);exact oD
  | false =>
   cases hg:(Op.bytesLess s.toList ahead.toList || s.toList==ahead.toList) with
   | true =>
    have HV:=hid (show nmE s ahead false=18 by
     unfold nmE;rw[if_neg hbig,if_neg (by rw[hnm]; simp),if_pos];refine⟨rfl,?_⟩;unfold sGt
     cases h1:Op.bytesLess s.toList ahead.toList with
     | true=>rfl
     | false =>
      rw[h1,Bool.false_or]at hg
      rw[hg]; rfl)
    exact oD
   | false =>
    have HV:=hid (show nmE s ahead false=0 by
     unfold nmE;rw[if_neg hbig,if_neg (by rw[hnm]; simp),if_neg];intro hx;obtain⟨h1,h2⟩:=Bool.or_eq_false_iff.1 hg;have h3:=hx.2;unfold sGt at h3;rw[h1,h2]at h3
     cases h3)
    exact oD
variable {n:Nat}
theorem i4{α:Type}{l:List α}(h:l.length=n):l.take n=l:=List.take_of_length_le ae
theorem JA(ah:List Sg)(x:Sg):cI ah x=orE (ltE x.1 8) (orE (ltE x.2 8) (if gu ah x=true then 16 else 0)):=by
 unfold cI ltE orE
 by_cases h1:8<x.1.size
 ·simp[h1]
 by_cases h2:cC x.1 8=false
 ·simp[h1,h2]
 by_cases h3:8<x.2.size
 ·simp[h1,h2,h3]
 by_cases h4:cC x.2 8=false <;> simp[h1,h2,h3,h4]
variable {x y:Sg}
theorem JM{ah:List Sg}(hk:ah[k]? =some y)(h:((y.1.toList==x.1.toList)&&(y.2.toList==x.2.toList))=true):gu ah x=true:=by
 unfold gu;rw[List.any_eq_true];exact⟨y,List.mem_of_getElem? hk,h⟩
theorem uj(m:MM)(w:World)(pt:iX w m.ta m.tn m.types)(ph:m9 w m.ha m.hn m.hosts)(hr:∀(j:Nat)x,m.hosts[j]? =some x->-9223372036854775808<=x/\x<9223372036854775808)(hs:∀(j:Nat)x,m.types[j]? =some x->x.1.size<=281474976710656/\x.2.size<=281474976710656)(htn:m.tn<=281474976710656)(hhn:m.hn<=281474976710656) :
  Calls prog 67 #[.agg (mV m)] w fun e w'=>e=.returned (.int .i64 (orE (e1 m) (e2 m)))/\Below w.heap.size w w':=by
 have HPT:=hid (fun(W:World) (hb:Below w.heap.size w W)=>pt.kept (aP hb) (fun _ _ _ _=>id));have HPH:=hid (fun(W:World) (hb:Below w.heap.size w W)=>ph.kept (aP hb) (fun _ _ _ _=>id));have HR:=hid hr;have HS:=hid hs;have tl:=pt.1;have hl:=ph.1;clear pt ph hr hs;have B0:=aj w (.cells (mV m) 29);have b0:=hZn w (.cells (mV m) 29);have HW:w.alloc (bF m.ta m.tn m.tc m.ha m.hn m.hc m.ga m.gn m.gc m.fi m.mo m.fa m.fn m.fc m.da m.dn m.dc m.ea m.en m.ec)=w.alloc (.cells (mV m) 29):=rfl;generalize w.alloc (.cells (mV m) 29)=W0 at *;have HB0:=hid B0;have HX:=hid (fun(W:World) (hb:Below W0.heap.size W0 W)=>(⟨ag hb (ai b0),ag hb (ai b0)⟩:W.cell? ⟨w.heap.size,0,none⟩=some (.slice m.ta m.tn m.tc)/\W.cell? ⟨w.heap.size,1,none⟩=some (.slice m.ha m.hn m.hc)));obtain⟨m0,m1⟩:=HX.out W0 (Below.refl _ _);clear B0 b0;show Calls prog 67 #[.agg #[.slice m.ta m.tn m.tc,.slice m.ha m.hn m.hc,.slice m.ga m.gn m.gc,.int .i64 m.fi,.int .i64 m.mo,.slice m.fa m.fn m.fc,.slice m.da m.dn m.dc,.slice m.ea m.en m.ec]] w _
 by_cases ht:64<m.tn
 ·have HV:=hid (show orE (e1 m) (e2 m)=20 by
   have:e1 m=20:=by unfold e1 bK; rw[if_pos ae]
   rw[this]; rfl)
  have ht':(64:Int)<(m.tn:Int):=ae;go_enter func67,ntmps67;exact rE
 have ht':¬(64:Int)<(m.tn:Int):=ae;have HE1:=hid (show e1 m=bB cI [] m.types by unfold e1 bK; rw[if_neg ae]);go_enter func67,ntmps67
 go_wp2_with fail;clear m0 m1 HW
 go_loopw [3,4,5] (fun i _ _ wr=>∃t:Nat,t<=m.tn/\i=.int .i64 t/\Hid (bB cI [] (m.types.take t)=0)/\Hid (Below W0.heap.size W0 wr)) (fun i _ _ _=>m.tn-(intOf i).toNat)
 case atStart=>exact⟨0,Nat.zero_le _,rfl,hid rfl,hid (Below.refl _ _)⟩
 case round =>
  obtain⟨t,htn,rfl,HF,HB⟩:=hrel;obtain⟨m0,m1⟩:=HX.out wr HB.out
  by_cases hlt:t<m.tn
  ·have hlt':(t:Int)<(m.tn:Int):=ae;obtain⟨x,hx⟩:∃x,m.types[t]? =some x:=⟨_,aY ae⟩;obtain⟨tb,tof,hta,hat⟩:=(HPT.out wr (HB0.out.trans (HB.out.mono HB0.out.size))).2.resolve_left ae;obtain⟨g0,g1⟩:=hat t x hx;obtain⟨s0,s1⟩:=HS.out t x hx;have HL0:=hid (mK x.1 8 wr s0 ae);have HL1:=hid (mK x.2 8 wr s1 ae);have HC:=hid (JA (m.types.take t) x)
   have HH:=hid (fun hne=>eY cI m.types t x hx HF.out hne);have HT:=hid (fun hz=>fh cI m.types t x hx HF.out hz);have HAT:=hid hat;have hk0:(0:Int)<=(t:Int):=ae;clear hat;rw[hta]at m0
   try rw[hta]
   by_cases z0:ltE x.1 8=0
   ·rw[z0]at HL0
    by_cases z1:ltE x.2 8=0
    ·rw[z1]at HL1;go_wp2_with fail;refine HL0.out.mono ?_;rintro e w1⟨rfl,hw⟩;have hw2:=hw.symm;subst hw2;go_wp2_with fail;refine HL1.out.mono ?_;rintro e w1⟨rfl,hw⟩;have hw2:=hw.symm;subst hw2;go_wp2_with fail;have HXT:=hid hx;clear HL0 HL1 m0 m1 g0 g1 hw hx
     go_loopw [5] (fun k wq=>∃q:Nat,q<=t/\k=.int .i64 q/\Hid (gu (m.types.take q) x=false)/\Hid (Below W0.heap.size W0 wq)) (fun k _=>t-(intOf k).toNat)
     case atStart=>exact⟨0,Nat.zero_le _,rfl,hid rfl,HB⟩
     case round =>
      obtain⟨q,hq,rfl,HTW,HB⟩:=hrel;obtain⟨m0,m1⟩:=HX.out _ HB.out;rw[hta]at m0
      by_cases hqt:q<t
      ·have hqt':(q:Int)<(t:Int):=ae;obtain⟨y,hy⟩:∃y,m.types[q]? =some y:=⟨_,aY ae⟩;obtain⟨tb2,tof2,hta2,hat2⟩:=(HPT.out _ (HB0.out.trans (HB.out.mono HB0.out.size))).2.resolve_left ae;rw[hta]at hta2
       injection hta2 with hta2;injection hta2 with h1 h2;subst h1 h2;obtain⟨g0,g1⟩:=hat2 t x HXT.out;obtain⟨g2,g3⟩:=hat2 q y hy;have HBD:=hid (fun(n:Nat)=>(show Below W0.heap.size W0 (wr.drewN n) from bw HB.out (Kept.drewN (fun _=>False) _ n) HB.out.size (fun _ x=>x.elim)));have hqn:(q:Int)<(m.tn:Int):=ae
       have hyt:(m.types.take t)[q]? =some y:=by rw[List.getElem?_take,if_pos hqt]; exact hy
       have HYT:=hid hyt;clear hat2 hy hyt
       by_cases hcc:y.1.toList=x.1.toList/\y.2.toList=x.2.toList
       ·obtain⟨c1,c2⟩:=hcc
        have HV:=hid (show orE (e1 m) (e2 m)=16 by
         have hc:cI (m.types.take t) x=16:=by rw[HC.out,aX z0,aX z1,if_pos (JM HYT.out (by simp[c1,c2]))]
         rw[HE1.out,HH.out iz,hc]; rfl)
        exact qL
       have HN:=hid (show gu (m.types.take (q+1)) x=false by
        have hqx:m.types[q]? =some y:=by have:=HYT.out; rwa [List.getElem?_take,if_pos hqt]at this
        rw[List.take_add_one,hqx];have h1:=HTW.out;unfold gu at h1 ⊢;rw[List.any_append,h1];simp only[Option.toList_some,List.any_cons,List.any_nil,Bool.or_false,Bool.false_or]
        cases hcm:((y.1.toList==x.1.toList)&&(y.2.toList==x.2.toList)) with
        | false=>rfl
        | true=>exact absurd (by simpa using hcm) hcc)
       by_cases c1:y.1.toList=x.1.toList
       ·have c2:¬y.2.toList=x.2.toList:=fun c=>hcc ⟨c1,c⟩
        exact Fw
       exact Fw
      obtain rfl:q=t:=ae;have HN:=hid (HT.out (by rw[HC.out,aX z0,aX z1,HTW.out]; rfl))
      go_wp2_with fail;exact⟨⟨q+1,ae,bH,HN,HB⟩,bI⟩
    have HV:=hid (show orE (e1 m) (e2 m)=ltE x.2 8 by
     have hc:cI (m.types.take t) x=ltE x.2 8:=by rw[HC.out,aX z0,dE z1]
     rw[HE1.out,HH.out (by rw[hc]; exact z1),hc,dE z1])
    generalize ltE x.2 8=E at *
    have hE:(E != 0)=true:=by simpa using z1
    go_wp2_with fail;refine HL0.out.mono ?_;rintro e w1⟨rfl,hw⟩;have hw2:=hw.symm;subst hw2;go_wp2_with fail;refine HL1.out.mono ?_;exact rI
   have HV:=hid (show orE (e1 m) (e2 m)=ltE x.1 8 by
    have hc:cI (m.types.take t) x=ltE x.1 8:=by rw[HC.out,dE z0]
    rw[HE1.out,HH.out (by rw[hc]; exact z0),hc,dE z0])
   generalize ltE x.1 8=E at *;have hE:(E != 0)=true:=wU;go_wp2_with fail;refine HL0.out.mono ?_;exact rI
  obtain rfl:t=m.tn:=ae
  have hE0:e1 m=0:=by rw[HE1.out]; have:=HF.out; rwa [i4 tl]at this
  by_cases hh:32<m.hn
  ·have HV:=hid (show orE (e1 m) (e2 m)=20 by
    have:e2 m=20:=by unfold e2 bK; rw[if_pos ae]
    rw[aX hE0,this])
   have hh':(32:Int)<(m.hn:Int):=ae;exact GW
  have hh':¬(32:Int)<(m.hn:Int):=ae;have HE2:=hid (show orE (e1 m) (e2 m)=bB (fun(_:LIz) x=>bD m.tn x) [] m.hosts by rw[aX hE0]; unfold e2 bK; rw[if_neg ae]);clear hE0 HE1 HF;go_wp2_with fail;clear m0 m1
  go_loopw [6] (fun i wr=>∃t:Nat,t<=m.hn/\i=.int .i64 t/\Hid (bB (fun(_:LIz) x=>bD m.tn x) [] (m.hosts.take t)=0)/\Hid (Below W0.heap.size W0 wr)) (fun i _=>m.hn-(intOf i).toNat)
  case atStart=>exact⟨0,Nat.zero_le _,rfl,hid rfl,HB⟩
  case round =>
   obtain⟨t,hth,rfl,HF,HB⟩:=hrel;obtain⟨m0,m1⟩:=HX.out _ HB.out
   by_cases hlt:t<m.hn
   ·have hlt':(t:Int)<(m.hn:Int):=ae;obtain⟨x,hx⟩:∃x,m.hosts[t]? =some x:=⟨_,aY ae⟩;obtain⟨tb,tof,hha,hat⟩:=(HPH.out _ (HB0.out.trans (HB.out.mono HB0.out.size))).2.resolve_left ae;have g0:=hat t x hx;have hr:=HR.out t x hx
    have HH:=hid (fun hne=>eY (fun(_:LIz) x=>bD m.tn x) m.hosts t x hx HF.out hne);have HT:=hid (fun hz=>fh (fun(_:LIz) x=>bD m.tn x) m.hosts t x hx HF.out hz);have HBD:=hid (fun(n:Nat)=>(show Below W0.heap.size W0 (wr.drewN n) from bw HB.out (Kept.drewN (fun _=>False) _ n) HB.out.size (fun _ x=>x.elim)));rw[hha]at m1
    try rw[hha]
    clear hat hx
    by_cases hb:x<0\/(m.tn:Int)<=x
    ·have HV:=hid (show orE (e1 m) (e2 m)=30 by
      have hc:bD m.tn x=30:=by unfold bD; rw[if_pos hb]
      rw[HE2.out,HH.out iz]; exact hc)
     by_cases h0:x<0
     ·have d0:decide (x<0)=true:=gX;exact qL
     have d0:decide (x<0)=false:=gX;have d1:decide ((m.tn:Int)<=x)=true:=aK;exact qL
    have HN:=hid (HT.out (show bD m.tn x=0 by unfold bD; rw[if_neg hb]));have d0:decide (x<0)=false:=aK;have d1:decide ((m.tn:Int)<=x)=false:=aK;go_wp2_with fail
    go_quiet (fail)
    exact FK
   obtain rfl:t=m.hn:=ae;have HV:=hid (show orE (e1 m) (e2 m)=0 by rw[HE2.out]; have:=HF.out; rwa [i4 hl]at this);exact iN
theorem qH(m:MM)(w:World)(pg:kq w m.ga m.gn m.globals)(hr:∀(j:Nat)x,m.globals[j]? =some x->0<=x.1/\x.1<=255/\0<=x.2.2/\x.2.2<18446744073709551616)(i0:-9223372036854775808<=m.fi)(i1:m.fi<9223372036854775808)(o0:-9223372036854775808<=m.mo)(o1:m.mo<9223372036854775808)(hgn:m.gn<=281474976710656) :
  Calls prog 68 #[.agg (mV m)] w fun e w'=>e=.returned (.int .i64 (orE (e3 m) (orE (e4 m) (e5 m))))/\Below w.heap.size w w':=by
 have HPG:=hid (fun(W:World) (hb:Below w.heap.size w W)=>pg.kept (aP hb) (fun _ _ _ _=>id));have HR:=hid hr;have gl:=pg.1;clear pg hr;have B0:=aj w (.cells (mV m) 29);have b0:=hZn w (.cells (mV m) 29);have HW:w.alloc (bF m.ta m.tn m.tc m.ha m.hn m.hc m.ga m.gn m.gc m.fi m.mo m.fa m.fn m.fc m.da m.dn m.dc m.ea m.en m.ec)=w.alloc (.cells (mV m) 29):=rfl;generalize w.alloc (.cells (mV m) 29)=W0 at *;have HB0:=hid B0;have HX:=hid (fun(W:World) (hb:Below W0.heap.size W0 W)=>(⟨ag hb (ai b0),ag hb (ai b0),ag hb (ai b0)⟩:W.cell? ⟨w.heap.size,2,none⟩=some (.slice m.ga m.gn m.gc)/\W.cell? ⟨w.heap.size,3,none⟩=some (.int .i64 m.fi)/\W.cell? ⟨w.heap.size,4,none⟩=some (.int .i64 m.mo)));obtain⟨m2,m3,m4⟩:=HX.out W0 (Below.refl _ _);clear B0 b0;show Calls prog 68 #[.agg #[.slice m.ta m.tn m.tc,.slice m.ha m.hn m.hc,.slice m.ga m.gn m.gc,.int .i64 m.fi,.int .i64 m.mo,.slice m.fa m.fn m.fc,.slice m.da m.dn m.dc,.slice m.ea m.en m.ec]] w _
 by_cases ht:64<m.gn
 ·have HV:=hid (show orE (e3 m) (orE (e4 m) (e5 m))=20 by
   have:e3 m=20:=by unfold e3 bK; rw[if_pos ae]
   rw[this]; rfl)
  have ht':(64:Int)<(m.gn:Int):=ae;go_enter func68,ntmps68;exact rE
 have ht':¬(64:Int)<(m.gn:Int):=ae;have HE3:=hid (show e3 m=bB (fun(_:List Gl) x=>eu x) [] m.globals by unfold e3 bK; rw[if_neg ae]);go_enter func68,ntmps68
 go_wp2_with fail;clear m2 m3 m4 HW
 go_loopw [3] (fun i wr=>∃t:Nat,t<=m.gn/\i=.int .i64 t/\Hid (bB (fun(_:List Gl) x=>eu x) [] (m.globals.take t)=0)/\Hid (Below W0.heap.size W0 wr)) (fun i _=>m.gn-(intOf i).toNat)
 case atStart=>exact⟨0,Nat.zero_le _,rfl,hid rfl,hid (Below.refl _ _)⟩
 case round =>
  obtain⟨t,htn,rfl,HF,HB⟩:=hrel;obtain⟨m2,m3,m4⟩:=HX.out wr HB.out
  by_cases hlt:t<m.gn
  ·have hlt':(t:Int)<(m.gn:Int):=ae;obtain⟨x,hx⟩:∃x,m.globals[t]? =some x:=⟨_,aY ae⟩;obtain⟨gb,gof,hga,hat⟩:=(HPG.out wr (HB0.out.trans (HB.out.mono HB0.out.size))).2.resolve_left ae;obtain⟨g0,g1,g2⟩:=hat t x hx;obtain⟨r0,r1,r2,r3⟩:=HR.out t x hx
   have HH:=hid (fun hne=>eY (fun(_:List Gl) x=>eu x) m.globals t x hx HF.out hne);have HT:=hid (fun hz=>fh (fun(_:List Gl) x=>eu x) m.globals t x hx HF.out hz);have HBD:=hid (fun(n:Nat)=>(show Below W0.heap.size W0 (wr.drewN n) from bw HB.out (Kept.drewN (fun _=>False) _ n) HB.out.size (fun _ x=>x.elim)));clear hat hx;rw[hga]at m2
   try rw[hga]
   obtain⟨xl,xm,xv⟩:=x;dsimp only at *;have hk0:(0:Int)<=(t:Int):=ae
   cases hl:isL xl with
   | false =>
    have HV:=hid (show orE (e3 m) (orE (e4 m) (e5 m))=15 by
     have hc:eu (xl,xm,xv)=15:=by unfold eu; rw[if_pos hl]
     rw[HE3.out,HH.out iz,hc]; rfl)
    have HL:=nI xl wr;rw[hl]at HL;have HL:=hid HL;go_wp2_with fail;refine HL.out.mono ?_;exact rI
   | true =>
    have HL:=nI xl wr;rw[hl]at HL;have HL:=hid HL;have HFI:=hid (fun(W:World)=>Pi xv xl W)
    cases hf:dI xv xl with
    | false =>
     have HV:=hid (show orE (e3 m) (orE (e4 m) (e5 m))=17 by
      have hc:eu (xl,xm,xv)=17:=by unfold eu; rw[if_neg (by rw[hl]; simp),if_pos hf]
      rw[HE3.out,HH.out iz,hc]; rfl)
     rw[hf]at HFI;go_wp2_with fail;refine HL.out.mono ?_;rintro e w1⟨rfl,hw⟩;have hw2:=hw.symm;subst hw2;go_wp2_with fail
     go_quiet ((go_at_call 90; exact Calls.quiet_of_same (HFI.out _)))
     go_wp2_with fail;go_ret;exact⟨cP,HB0.out.trans ((HBD.out _).mono HB0.out.size)⟩
    | true =>
     have HN:=hid (HT.out (show eu (xl,xm,xv)=0 by unfold eu; rw[if_neg (by rw[hl]; simp),if_neg (by rw[hf]; simp)]));rw[hf]at HFI;go_wp2_with fail;refine HL.out.mono ?_;rintro e w1⟨rfl,hw⟩;have hw2:=hw.symm;subst hw2;go_wp2_with fail
     go_quiet ((go_at_call 90; exact Calls.quiet_of_same (HFI.out _)))
     exact FK
  obtain rfl:t=m.gn:=ae
  have hE0:e3 m=0:=by rw[HE3.out]; have:=HF.out; rwa [i4 gl]at this
  by_cases hb:(m.fi<0\/64<m.fi)\/(m.mo<m.fi\/64<m.mo)
  ·have HV:=hid (show orE (e3 m) (orE (e4 m) (e5 m))=17 by
    rw[aX hE0];unfold e4 e5 iV
    by_cases h1:m.fi<0\/64<m.fi
    ·rw[if_pos h1]; rfl
    rw[if_neg h1,if_pos (hb.resolve_left h1)]; rfl)
   clear hE0
   by_cases q1:m.fi<0
   ·have d1:decide (m.fi<0)=true:=by simpa using q1
    exact iN
   have d1:decide (m.fi<0)=false:=by simpa using q1
   by_cases q2:64<m.fi
   ·have d2:decide ((64:Int)<m.fi)=true:=by simpa using q2
    exact iN
   have d2:decide ((64:Int)<m.fi)=false:=by simpa using q2
   by_cases q3:m.mo<m.fi
   ·have d3:decide (m.mo<m.fi)=true:=by simpa using q3
    exact iN
   have d3:decide (m.mo<m.fi)=false:=by simpa using q3
   have d4:decide ((64:Int)<m.mo)=true:=aK;exact iN
  have HV:=hid (show orE (e3 m) (orE (e4 m) (e5 m))=0 by
   rw[aX hE0];unfold e4 e5 iV
   rw[if_neg ae,if_neg ae]; rfl)
  clear hE0;have d1:decide (m.fi<0)=false:=aK;have d2:decide ((64:Int)<m.fi)=false:=aK;have d3:decide (m.mo<m.fi)=false:=aK;have d4:decide ((64:Int)<m.mo)=false:=aK;exact iN
end Go.Proofs.YtepcmfegggdjfaaGreatDoor
