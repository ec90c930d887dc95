/-
  Texts Wz Vh Vi Vj.
-/
import Derived.Test.YtepcmfegggdjfaaGreatDoorM00
import Derived.Test.YtepcmfegggdjfaaGreatDoorM02
import Derived.Test.YtepcmfegggdjfaaGreatDoorM03
import Derived.Test.YtepcmfegggdjfaaGreatDoorM04
import Derived.Test.YtepcmfegggdjfaaGreatDoorM05
set_option linter.unusedVariables false
set_option maxRecDepth 100000
set_option maxHeartbeats 16000000
namespace Go.Proofs.YtepcmfegggdjfaaGreatDoor
open Go.Proofs.Tryz
open Go.RowKit
structure MM where
 ta:Option Addr
 tn:Nat
 tc:Nat
 types:List Sg
 ha:Option Addr
 hn:Nat
 hc:Nat
 hosts:List Int
 ga:Option Addr
 gn:Nat
 gc:Nat
 globals:List Gl
 fi:Int
 mo:Int
 fa:Option Addr
 fn:Nat
 fc:Nat
 fns:List FuM
 da:Option Addr
 dn:Nat
 dc:Nat
 data:List DaM
 ea:Option Addr
 en:Nat
 ec:Nat
 exps:List Ex
def Far(w:World)(R g:Nat)(a:OAz):Prop:=∀b off c,a=some ⟨b,off,c⟩->b≠R/\b≠g/\b<w.heap.size
variable {w:World}{R g:Nat}{a:OAz}
theorem Far.nz(h:Far w R g a)(n:Nat):Far w R g (nz n a):=fun b off c hb=>h b off c (EC hb)
variable {W:World}{g1:Nat}
theorem Far.at(h:Far w R g a)(hs:Stp R g g1 w W):∀b off c,a=some ⟨b,off,c⟩->b≠R/\b≠g1:=fun b off c hb=>⟨(h b off c hb).1,hs.ne (h b off c hb).2.2 (h b off c hb).2.1⟩
theorem Far.not(h:Far w R g a):∀b off c,a=some ⟨b,off,c⟩->¬(b=R\/b=g):=fun b off c hb=>by have:=h b off c hb; omega
structure MOk(w:World)(R g:Nat)(m:MM):Prop where
 pt:iX w m.ta m.tn m.types
 tf:Far w R g m.ta
 ph:m9 w m.ha m.hn m.hosts
 hf:Far w R g m.ha
 hr:∀(j:Nat)x,m.hosts[j]? =some x->-9223372036854775808<=x/\x<9223372036854775808
 pg:kq w m.ga m.gn m.globals
 gf:Far w R g m.ga
 gr:∀(j:Nat)x,m.globals[j]? =some x->0<=x.1/\x.1<=255/\0<=x.2.2/\x.2.2<18446744073709551616
 i0:-9223372036854775808<=m.fi
 i1:m.fi<9223372036854775808
 o0:-9223372036854775808<=m.mo
 o1:m.mo<9223372036854775808
 pf:od w m.fa m.fn m.fns
 ff:Far w R g m.fa
 fr:∀(j:Nat)x,m.fns[j]? =some x->(-9223372036854775808<=x.1/\x.1<9223372036854775808)/\AtIn w x.2.2.1.1 x.2.2.1.2.1 x.2.2.2/\Far w R g (nz x.2.2.1.2.1 x.2.2.1.1)/\∀(i:Nat)y,x.2.2.2[i]? =some y->0<=y.1/\y.1<=255/\gU w y.2.2.1.1 y.2.2.1.2.1 y.2.2.1.2.2 y.2.2.2/\Far w R g (nz y.2.2.1.2.1 y.2.2.1.1)
 pd:pS w m.da m.dn m.data
 df:Far w R g m.da
 dr:∀(j:Nat)x,m.data[j]? =some x->(-9223372036854775808<=x.1/\x.1<9223372036854775808)/\Seg w x.2.1.1 x.2.1.2.1 x.2.1.2.2 x.2.2/\Far w R g (nz x.2.1.2.1 x.2.1.1)
 pe:qJ w m.ea m.en m.exps
 ef:Far w R g m.ea
 er:∀(j:Nat)x,m.exps[j]? =some x->-9223372036854775808<=x.2/\x.2<9223372036854775808
def e1(m:MM):Int:=bK cI 64 m.types
def e2(m:MM):Int:=bK (fun(_:LIz) x=>bD m.tn x) 32 m.hosts
def e3(m:MM):Int:=bK (fun(_:List Gl) x=>eu x) 64 m.globals
def e4(m:MM):Int:=iV 0 m.fi
def e5(m:MM):Int:=iV m.fi m.mo
def e6(m:MM):Int:=bK (dY m.types) 128 m.fns
def e7(m:MM):Int:=bK (fun(ah:List DaM) x=>cD (m.fi*4096) ah x) 64 m.data
def e8(m:MM):Int:=bK (fun(ah:List Ex) x=>dO m.fn ah x) 64 m.exps
def fw(m:MM):Int:=orE (e1 m) (orE (e2 m) (orE (e3 m) (orE (e4 m) (orE (e5 m) (orE (e6 m) (orE (e7 m) (e8 m)))))))
def qG(m:MM):List Int:=(ay m.tn++m.types.flatMap bN)++((ay m.hn++m.hosts.flatMap (fun x=>ay x))++((ay m.gn++m.globals.flatMap cR)++(ay m.fi++(ay m.mo++((ay m.fn++m.fns.flatMap cQ)++((ay m.dn++m.data.flatMap cU)++(ay m.en++m.exps.flatMap dP)))))))
def mV(m:MM):Array Value:=#[.slice m.ta m.tn m.tc,.slice m.ha m.hn m.hc,.slice m.ga m.gn m.gc,.int .i64 m.fi,.int .i64 m.mo,.slice m.fa m.fn m.fc,.slice m.da m.dn m.dc,.slice m.ea m.en m.ec]
def zV:Array Value:=#[.slice none 0 0,.slice none 0 0,.slice none 0 0,.int .i64 0,.int .i64 0,.slice none 0 0,.slice none 0 0,.slice none 0 0]
variable {a b:Int}
theorem dE(h:a≠0):orE a b=a:=by simp[orE,h]
theorem aX(h:a=0):orE a b=b:=by simp[orE,h]
structure Sta(w W:World)(R g g1:Nat)(mv ov:AVz):Prop where
 s:Stp R g g1 w W
 z:w.heap.size+1+1+1<W.heap.size
 c0:W.cell? ⟨w.heap.size,0,none⟩=some (cW R)
 mb:W.heap[w.heap.size+1]? =some (.cells mv 29)
 rb:W.heap[w.heap.size+1+1]? =some (.cells zV 29)
 ob:W.heap[w.heap.size+1+1+1]? =some (.cells ov 29)
 n0:w.heap.size≠g1
 n1:w.heap.size+1≠g1
 n2:w.heap.size+1+1≠g1
 n3:w.heap.size+1+1+1≠g1
variable {W':World}{g2:Nat}{mv ov:AVz}
theorem Sta.step(h:Sta w W R g g1 mv ov)(hR:R<w.heap.size)(hs:Stp R g1 g2 W W'):Sta w W' R g g2 mv ov:=by
 have hz:=h.z;exact⟨h.s.trans hs,Nat.lt_of_lt_of_le hz hs.size,hs.cell h.c0 ae h.n0,(hs.block ae ae h.n1).trans h.mb,(hs.block ae ae h.n2).trans h.rb,(hs.block ae ae h.n3).trans h.ob,hs.ne ae h.n0,hs.ne ae h.n1,hs.ne ae h.n2,hs.ne ae h.n3⟩
variable {i:Nat}{v:Value}
theorem Sta.set(h:Sta w W R g g1 mv ov)(hi:i<ov.size):Sta w (W.setCell ⟨w.heap.size+1+1+1,i,none⟩ v) R g g1 mv (ov.setIfInBounds i v):=by
 have hk:=ax W (w.heap.size+1+1+1) i v;have hz:=h.z;exact⟨h.s.set ae,Nat.lt_of_lt_of_le hz hk.size,hk.cell h.c0 ae,(hk.block _ ae ae).trans h.mb,(hk.block _ ae ae).trans h.rb,I3 h.ob hi,h.n0,h.n1,h.n2,h.n3⟩
def W86(w:World)(R:Nat)(m:MM):World:=(((w.alloc (fH (cW R))).alloc (.cells (mV m) 29)).alloc (.cells zV 29)).alloc (.cells zV 29)
theorem Po(w:World)(R g cap:Nat)(bs:LIz)(m:MM)(h:Wr w R g cap bs):Sta w (W86 w R m) R g g (mV m) zV/\Below w.heap.size w (W86 w R m):=by
 have hgl:=h.g_lt;have B:Below w.heap.size w (W86 w R m):=((((Below.refl _ w).alloc lRn _).alloc aw _).alloc dC _).alloc dC _;refine⟨⟨Stp.of_below B,by simp[W86],?_,?_,?_,?_,ae,ae,ae,ae⟩,B⟩
 ·simp[W86,go_sem]
 ·unfold W86;rw[(aj (((w.alloc (fH (cW R))).alloc (.cells (mV m) 29)).alloc (.cells zV 29)) _).block (w.heap.size+1) dC,(aj ((w.alloc (fH (cW R))).alloc (.cells (mV m) 29)) _).block (w.heap.size+1) aw]
  have:=(MapKept.heap_alloc (w.alloc (fH (cW R))) (.cells (mV m) 29)).1;exact cF
 ·unfold W86;rw[(aj (((w.alloc (fH (cW R))).alloc (.cells (mV m) 29)).alloc (.cells zV 29)) _).block (w.heap.size+1+1) aw]
  have:=(MapKept.heap_alloc ((w.alloc (fH (cW R))).alloc (.cells (mV m) 29)) (.cells zV 29)).1;exact cF
 unfold W86;have:=(MapKept.heap_alloc (((w.alloc (fH (cW R))).alloc (.cells (mV m) 29)).alloc (.cells zV 29)) (.cells zV 29)).1;exact cF
variable {most:Int}{M:Nat}
theorem dZ{α:Type}{f:List α->α->Int}{xs:List α}{enc:α->List Int}(h:bK f most xs=0)(hM:∀ah x,f ah x=0->(enc x).length<=M):(xs.length:Int)<=most/\(xs.flatMap enc).length<=xs.length*M:=by
 unfold bK at h
 split at h
 ·cases h
 exact⟨ae,cH enc M xs (fun j x hj=>hM _ x (bC f xs [] h j x hj))⟩
variable {L:Nat}
theorem Stp.transL(h:Stp R g g1 w W)(h':fG R L g1 g2 W W')(hL:w.heap.size<=L):Stp R g g2 w W':=by
 refine⟨h.k.then h'.k (fun k hk ht=>?_),?_⟩
 ·rcases ht with rfl | rfl | rfl
  ·exact .inl rfl
  ·exact rF
  omega
 exact vp
theorem Sta.stepL(h:Sta w W R g g1 mv ov)(hR:R<w.heap.size)(hs:fG R L g1 g2 W W')(hL:w.heap.size+1+1+1<L):Sta w W' R g g2 mv ov:=by
 have hz:=h.z;exact⟨h.s.transL hs ae,Nat.lt_of_lt_of_le hz hs.size,hs.cell h.c0 ae h.n0 ae,(hs.block ae ae h.n1 ae).trans h.mb,(hs.block ae ae h.n2 ae).trans h.rb,(hs.block ae ae h.n3 ae).trans h.ob,hs.ne ae h.n0,hs.ne ae h.n1,hs.ne ae h.n2,hs.ne ae h.n3⟩
variable {w5:World}
theorem Stp.throwL(h:Stp R g g1 w W)(hk:Kept (fun k=>k=R\/k=g1\/k=L) W w5)(hL:w.heap.size<=L):Kept (fun k=>k=R\/k=g) w w5:=by
 refine h.k.then hk (fun k hkl hh=>?_)
 rcases hh with rfl | rfl | rfl
 ·exact .inl rfl
 ·exact rF
 omega
theorem Tf(R g cap:Nat)(bs:LIz)(m:MM)(w:World)(h:Wr w R g cap bs)(hb:bs.length<=1000)(hR0:R≠0)(hg0:g≠0)(hk:bg w)(hm:MOk w R g m) :
  Calls prog 82 #[cW R,.agg (mV m)] w fun e w'=>(fw m=0->∃v,e=.returned v/\∃g' cap',Wr w' R g' cap' (bs++qG m)/\Kept (fun k=>k=R\/k=g) w w')/\(fw m≠0->(∃p,e=thr (fw m) p)/\Kept (fun k=>k=R\/k=g) w w'):=by
 have hRl:=h.lt;have hgl:=h.g_lt;obtain⟨T1,B1⟩:=Po w R g cap bs m h;have HW:(((w.alloc (fH (cW R))).alloc (.cells (mV m) 29)).alloc (.cells zV 29)).alloc (.cells zV 29)=W86 w R m:=rfl;have V1:=hid (h.later B1);generalize W86 w R m=W1 at *;have TT:=hid T1;have HM:=hid hm;have HK:=hid hk;obtain⟨⟨m0,m1,m2,m3,m4,m5,m6,m7⟩,_⟩:=aQ T1.mb;have c0:=T1.c0;clear h hm hk T1;unfold mV zV at HW;show Calls prog 82 #[cW R,.agg #[.slice m.ta m.tn m.tc,.slice m.ha m.hn m.hc,.slice m.ga m.gn m.gc,.int .i64 m.fi,.int .i64 m.mo,.slice m.fa m.fn m.fc,.slice m.da m.dn m.dc,.slice m.ea m.en m.ec]] w _;go_enter func82,ntmps82;go_wp2_with fail
 by_cases E1:e1 m=0
 rotate_left
 ·have hcw:fw m=e1 m:=by unfold fw; exact dE E1
  refine(J7 R g cap bs m.ta m.tn m.tc w.heap.size W1 m.types V1.out ae c0 ae ae (HM.out.pt.kept TT.out.s.k HM.out.tf.not) (HM.out.tf.at TT.out.s) E1).mono ?_;rintro e w' ⟨⟨q,rfl⟩,hk'⟩;refine⟨rfl,fun h0=>absurd (hcw.symm.trans h0) E1,fun _=>⟨⟨q,?_⟩,TT.out.s.throw hk'⟩⟩;rw[hcw];rfl
 have L1:=dZ (enc:=bN) (M:=36) E1 (fun ah x hx=>by have:=dW hx; exact ib x this.1 this.2.2.1);have l1:=HM.out.pt.1
 have hp8:Hid (∀(t:Nat)p r,m.types[t]? =some (p,r)->p.size<=8):=fun t p r ht=>by
  have h1:bB cI [] m.types=0:=by
   have:=E1;unfold e1 bK at this
   split at this
   ·cases this
   exact this
  exact(dW (bC cI m.types [] h1 t (p,r) ht)).1
 have u1:=aF (m.tn:Int);refine(Jp R g cap bs m.ta m.tn m.tc w.heap.size W1 m.types V1.out ae c0 ae ae (HM.out.pt.kept TT.out.s.k HM.out.tf.not) (HM.out.tf.at TT.out.s) E1).mono ?_;rintro e w2⟨ta',tc',rfl,hsig,g2,cap2,hab2,hw2,hs2⟩;have T1:=TT;have Tq:=T1.out.step hRl hs2;obtain⟨⟨o0,o1,o2,o3,o4,o5,o6,o7⟩,⟨f0,f1,f2,f3,f4,f5,f6,f7⟩⟩:=aQ Tq.ob;obtain⟨⟨m0',m1',m2',m3',m4',m5',m6',m7'⟩,_⟩:=aQ Tq.mb;have hzq:=Tq.z;obtain⟨W2,hW2⟩:∃W',w2.setCell ⟨w.heap.size+1+1+1,0,none⟩ (.slice ta' m.tn tc')=W':=⟨_,rfl⟩;have T2:=hid (show Sta w W2 R g g2 (mV m) #[.slice ta' m.tn tc',.slice none 0 0,.slice none 0 0,.int .i64 0,.int .i64 0,.slice none 0 0,.slice none 0 0,.slice none 0 0] by rw[<- hW2]; exact Tq.set (i:=0) (v:=.slice ta' m.tn tc') (by simp[zV]));have V2:=hid (show Wr W2 R g2 cap2 (bs++(ay m.tn++m.types.flatMap bN)) by rw[<- hW2]; exact hw2.set ae Tq.n3);have hlt2:(bs++(ay m.tn++m.types.flatMap bN)).length<=4000:=jl;have G2:=hid (show cO W2 ta' m.tn m.types by rw[<- hW2]; exact hsig.kept (ax _ _ _ _) (fun b off c hb'=>by have q1:=(hab2 _ hb').1; have q2:=TT.out.z; simp only at q1; omega))
 have F2:=hid (show ∀b off c,ta'=some ⟨b,off,c⟩->w.heap.size+1+1+1<b/\b≠g2/\b<W2.heap.size from fun b off c hb'=>by
  have q1:=(hab2 _ hb').1;have q2:=(hab2 _ hb').2;have q3:=TT.out.z;have q4:=(ax w2 (w.heap.size+1+1+1) 0 (.slice ta' m.tn tc')).size;rw[hW2]at q4;simp only at q1 q2
  exact⟨ae,q2.1,ae⟩)
 clear hsig hab2;clear m0 m1 m2 m3 m4 m5 m6 m7 hw2 hs2 c0;obtain⟨⟨m0,m1,m2,m3,m4,m5,m6,m7⟩,_⟩:=aQ T2.out.mb;have c0:=T2.out.c0;have p0:=(aQ T2.out.ob).1;obtain⟨p0,p1,p2,p3,p4,p5,p6,p7⟩:=p0;go_wp2_with fail;clear Tq o0 o1 o2 o3 o4 o5 o6 o7 f0 f1 f2 f3 f4 f5 f6 f7 m0' m1' m2' m3' m4' m5' m6' m7' hzq hW2
 by_cases E2:e2 m=0
 rotate_left
 ·have hcw:fw m=e2 m:=by unfold fw; rw[aX E1]; exact dE E2
  refine(MV R g2 cap2 _ m.ha m.hn m.hc w.heap.size W2 (w.heap.size+1+1+1) ta' m.tn tc' m.hosts V2.out ae c0 ae T2.out.n0 p0 ae T2.out.n3 ae HM.out.hr (HM.out.ph.kept T2.out.s.k HM.out.hf.not) (HM.out.hf.at T2.out.s) E2).mono ?_;rintro e w' ⟨⟨q,rfl⟩,hk'⟩;refine⟨rfl,fun h0=>absurd (hcw.symm.trans h0) E2,fun _=>⟨⟨q,?_⟩,T2.out.s.throw hk'⟩⟩;rw[hcw];rfl
 have L2:=dZ (enc:=fun x=>ay x) (M:=10) E2 (fun ah x hx=>(aF x).2);have l2:=HM.out.ph.1;have u2:=aF (m.hn:Int);refine(IA R g2 cap2 _ m.ha m.hn m.hc w.heap.size W2 (w.heap.size+1+1+1) ta' m.tn tc' m.hosts V2.out ae c0 ae T2.out.n0 p0 ae T2.out.n3 ae HM.out.hr (HM.out.ph.kept T2.out.s.k HM.out.hf.not) (HM.out.hf.at T2.out.s) E2).mono ?_;rintro e w3⟨ha',hc',ys3,rfl,_,_,g3,cap3,hw3,hs3⟩;have Tq:=T2.out.step hRl hs3;obtain⟨⟨o0,o1,o2,o3,o4,o5,o6,o7⟩,⟨f0,f1,f2,f3,f4,f5,f6,f7⟩⟩:=aQ Tq.ob;obtain⟨⟨m0',m1',m2',m3',m4',m5',m6',m7'⟩,_⟩:=aQ Tq.mb;have hzq:=Tq.z;obtain⟨W3,hW3⟩:∃W',w3.setCell ⟨w.heap.size+1+1+1,1,none⟩ (.slice ha' m.hn hc')=W':=⟨_,rfl⟩;have T3:=hid (show Sta w W3 R g g3 (mV m) #[.slice ta' m.tn tc',.slice ha' m.hn hc',.slice none 0 0,.int .i64 0,.int .i64 0,.slice none 0 0,.slice none 0 0,.slice none 0 0] by rw[<- hW3]; exact Tq.set (i:=1) (v:=.slice ha' m.hn hc') aw);have V3:=hid (show Wr W3 R g3 cap3 (bs++(ay m.tn++m.types.flatMap bN)++(ay m.hn++m.hosts.flatMap (fun x=>ay x))) by rw[<- hW3]; exact hw3.set ae Tq.n3);have hlt3:(bs++(ay m.tn++m.types.flatMap bN)++(ay m.hn++m.hosts.flatMap (fun x=>ay x))).length<=5000:=jl
 have G3:=hid (show cO W3 ta' m.tn m.types by
  have q:=G2.out.kept hs3.k (fun b off c hb'=>by have:=F2.out b off c hb'; have:=hRl; simp; omega);rw[<- hW3]
  exact q.kept (ax _ _ _ _) (fun b off c hb'=>by have:=F2.out b off c hb'; omega))
 have F3:=hid (show ∀b off c,ta'=some ⟨b,off,c⟩->w.heap.size+1+1+1<b/\b≠g3/\b<W3.heap.size from fun b off c hb'=>by
  have q:=F2.out b off c hb';have q1:=hs3.size;have q4:=(ax w3 (w.heap.size+1+1+1) 1 (.slice ha' m.hn hc')).size;rw[hW3]at q4;exact⟨q.1,hs3.ne q.2.2 q.2.1,ae⟩)
 clear m0 m1 m2 m3 m4 m5 m6 m7 hw3 hs3 c0;obtain⟨⟨m0,m1,m2,m3,m4,m5,m6,m7⟩,_⟩:=aQ T3.out.mb;have c0:=T3.out.c0;have p0:=(aQ T3.out.ob).1;obtain⟨p0,p1,p2,p3,p4,p5,p6,p7⟩:=p0;go_wp2_with fail;clear Tq o0 o1 o2 o3 o4 o5 o6 o7 f0 f1 f2 f3 f4 f5 f6 f7 m0' m1' m2' m3' m4' m5' m6' m7' hzq hW3
 by_cases E3:e3 m=0
 rotate_left
 ·have hcw:fw m=e3 m:=by unfold fw; rw[aX E1]; rw[aX E2]; exact dE E3
  refine(A7 R g3 cap3 _ m.ga m.gn m.gc w.heap.size W3 m.globals V3.out ae c0 ae T3.out.n0 HM.out.gr (HM.out.pg.kept T3.out.s.k HM.out.gf.not) (HM.out.gf.at T3.out.s) E3).mono ?_;rintro e w' ⟨⟨q,rfl⟩,hk'⟩;refine⟨rfl,fun h0=>absurd (hcw.symm.trans h0) E3,fun _=>⟨⟨q,?_⟩,T3.out.s.throw hk'⟩⟩;rw[hcw];rfl
 have L3:=dZ (enc:=cR) (M:=12) E3 (fun ah x hx=>jz x);have l3:=HM.out.pg.1;have u3:=aF (m.gn:Int);refine(zX R g3 cap3 _ m.ga m.gn m.gc w.heap.size W3 m.globals V3.out ae c0 ae T3.out.n0 HM.out.gr (HM.out.pg.kept T3.out.s.k HM.out.gf.not) (HM.out.gf.at T3.out.s) E3).mono ?_;rintro e w4⟨ga',gc',ys4,rfl,_,_,g4,cap4,hw4,hs4⟩;have Tq:=T3.out.step hRl hs4;obtain⟨⟨o0,o1,o2,o3,o4,o5,o6,o7⟩,⟨f0,f1,f2,f3,f4,f5,f6,f7⟩⟩:=aQ Tq.ob;obtain⟨⟨m0',m1',m2',m3',m4',m5',m6',m7'⟩,_⟩:=aQ Tq.mb;have hzq:=Tq.z;obtain⟨W4,hW4⟩:∃W',w4.setCell ⟨w.heap.size+1+1+1,2,none⟩ (.slice ga' m.gn gc')=W':=⟨_,rfl⟩;have T4:=hid (show Sta w W4 R g g4 (mV m) #[.slice ta' m.tn tc',.slice ha' m.hn hc',.slice ga' m.gn gc',.int .i64 0,.int .i64 0,.slice none 0 0,.slice none 0 0,.slice none 0 0] by rw[<- hW4]; exact Tq.set (i:=2) (v:=.slice ga' m.gn gc') aw);have V4:=hid (show Wr W4 R g4 cap4 (bs++(ay m.tn++m.types.flatMap bN)++(ay m.hn++m.hosts.flatMap (fun x=>ay x))++(ay m.gn++m.globals.flatMap cR)) by rw[<- hW4]; exact hw4.set ae Tq.n3);have hlt4:(bs++(ay m.tn++m.types.flatMap bN)++(ay m.hn++m.hosts.flatMap (fun x=>ay x))++(ay m.gn++m.globals.flatMap cR)).length<=6000:=jl
 have G4:=hid (show cO W4 ta' m.tn m.types by
  have q:=G3.out.kept hs4.k (fun b off c hb'=>by have:=F3.out b off c hb'; have:=hRl; simp; omega);rw[<- hW4]
  exact q.kept (ax _ _ _ _) (fun b off c hb'=>by have:=F3.out b off c hb'; omega))
 have F4:=hid (show ∀b off c,ta'=some ⟨b,off,c⟩->w.heap.size+1+1+1<b/\b≠g4/\b<W4.heap.size from fun b off c hb'=>by
  have q:=F3.out b off c hb';have q1:=hs4.size;have q4:=(ax w4 (w.heap.size+1+1+1) 2 (.slice ga' m.gn gc')).size;rw[hW4]at q4;exact⟨q.1,hs4.ne q.2.2 q.2.1,ae⟩)
 clear m0 m1 m2 m3 m4 m5 m6 m7 hw4 hs4 c0;obtain⟨⟨m0,m1,m2,m3,m4,m5,m6,m7⟩,_⟩:=aQ T4.out.mb;have c0:=T4.out.c0;have p0:=(aQ T4.out.ob).1;obtain⟨p0,p1,p2,p3,p4,p5,p6,p7⟩:=p0;go_wp2_with fail;clear Tq o0 o1 o2 o3 o4 o5 o6 o7 f0 f1 f2 f3 f4 f5 f6 f7 m0' m1' m2' m3' m4' m5' m6' m7' hzq hW4
 by_cases E4:e4 m=0
 rotate_left
 ·have hcw:fw m=e4 m:=by unfold fw; rw[aX E1]; rw[aX E2]; rw[aX E3]; exact dE E4
  have hbad:m.fi<0\/64<m.fi:=by
   apply Classical.byContradiction;intro hq;exact E4 (by unfold e4 iV; exact if_neg hq)
  have h17:e4 m=17:=by unfold e4 iV; exact if_pos hbad
  refine(qa R g4 cap4 _ m.fi 0 W4 V4.out HM.out.i0 HM.out.i1 hbad ae ae).mono ?_;rintro e w' ⟨⟨q,rfl⟩,hk'⟩;refine⟨rfl,fun h0=>absurd (hcw.symm.trans h0) E4,fun _=>⟨⟨q,?_⟩,T4.out.s.throw hk'⟩⟩;rw[hcw,h17];rfl
 have R4:0<=m.fi/\m.fi<=64:=by
  have hq:=E4;unfold e4 iV at hq
  split at hq
  ·cases hq
  omega
 have u4:=aF (m.fi);refine(nr R g4 cap4 _ m.fi 0 W4 V4.out ae ae R4.1 R4.2).mono ?_;rintro e w5⟨rfl,g5,cap5,hw5,hs5⟩;have Tq:=T4.out.step hRl hs5;obtain⟨⟨o0,o1,o2,o3,o4,o5,o6,o7⟩,⟨f0,f1,f2,f3,f4,f5,f6,f7⟩⟩:=aQ Tq.ob;obtain⟨⟨m0',m1',m2',m3',m4',m5',m6',m7'⟩,_⟩:=aQ Tq.mb;have hzq:=Tq.z;obtain⟨W5,hW5⟩:∃W',w5.setCell ⟨w.heap.size+1+1+1,3,none⟩ (.int .i64 m.fi)=W':=⟨_,rfl⟩;have T5:=hid (show Sta w W5 R g g5 (mV m) #[.slice ta' m.tn tc',.slice ha' m.hn hc',.slice ga' m.gn gc',.int .i64 m.fi,.int .i64 0,.slice none 0 0,.slice none 0 0,.slice none 0 0] by rw[<- hW5]; exact Tq.set (i:=3) (v:=.int .i64 m.fi) aw);have V5:=hid (show Wr W5 R g5 cap5 (bs++(ay m.tn++m.types.flatMap bN)++(ay m.hn++m.hosts.flatMap (fun x=>ay x))++(ay m.gn++m.globals.flatMap cR)++ay m.fi) by rw[<- hW5]; exact hw5.set ae Tq.n3);have hlt5:(bs++(ay m.tn++m.types.flatMap bN)++(ay m.hn++m.hosts.flatMap (fun x=>ay x))++(ay m.gn++m.globals.flatMap cR)++ay m.fi).length<=6100:=jl
 have G5:=hid (show cO W5 ta' m.tn m.types by
  have q:=G4.out.kept hs5.k (fun b off c hb'=>by have:=F4.out b off c hb'; have:=hRl; simp; omega);rw[<- hW5]
  exact q.kept (ax _ _ _ _) (fun b off c hb'=>by have:=F4.out b off c hb'; omega))
 have F5:=hid (show ∀b off c,ta'=some ⟨b,off,c⟩->w.heap.size+1+1+1<b/\b≠g5/\b<W5.heap.size from fun b off c hb'=>by
  have q:=F4.out b off c hb';have q1:=hs5.size;have q4:=(ax w5 (w.heap.size+1+1+1) 3 (.int .i64 m.fi)).size;rw[hW5]at q4;exact⟨q.1,hs5.ne q.2.2 q.2.1,ae⟩)
 clear m0 m1 m2 m3 m4 m5 m6 m7 hw5 hs5 c0;obtain⟨⟨m0,m1,m2,m3,m4,m5,m6,m7⟩,_⟩:=aQ T5.out.mb;have c0:=T5.out.c0;have p0:=(aQ T5.out.ob).1;obtain⟨p0,p1,p2,p3,p4,p5,p6,p7⟩:=p0;go_wp2_with fail;clear Tq o0 o1 o2 o3 o4 o5 o6 o7 f0 f1 f2 f3 f4 f5 f6 f7 m0' m1' m2' m3' m4' m5' m6' m7' hzq hW5
 by_cases E5:e5 m=0
 rotate_left
 ·have hcw:fw m=e5 m:=by unfold fw; rw[aX E1]; rw[aX E2]; rw[aX E3]; rw[aX E4]; exact dE E5
  have hbad:m.mo<m.fi\/64<m.mo:=by
   apply Classical.byContradiction;intro hq;exact E5 (by unfold e5 iV; exact if_neg hq)
  have h17:e5 m=17:=by unfold e5 iV; exact if_pos hbad
  refine(qa R g5 cap5 _ m.mo m.fi W5 V5.out HM.out.o0 HM.out.o1 hbad ae ae).mono ?_;rintro e w' ⟨⟨q,rfl⟩,hk'⟩;refine⟨rfl,fun h0=>absurd (hcw.symm.trans h0) E5,fun _=>⟨⟨q,?_⟩,T5.out.s.throw hk'⟩⟩;rw[hcw,h17];rfl
 have R5:m.fi<=m.mo/\m.mo<=64:=by
  have hq:=E5;unfold e5 iV at hq
  split at hq
  ·cases hq
  omega
 have u5:=aF (m.mo);refine(nr R g5 cap5 _ m.mo m.fi W5 V5.out ae ae R5.1 R5.2).mono ?_;rintro e w6⟨rfl,g6,cap6,hw6,hs6⟩;have Tq:=T5.out.step hRl hs6;obtain⟨⟨o0,o1,o2,o3,o4,o5,o6,o7⟩,⟨f0,f1,f2,f3,f4,f5,f6,f7⟩⟩:=aQ Tq.ob;obtain⟨⟨m0',m1',m2',m3',m4',m5',m6',m7'⟩,_⟩:=aQ Tq.mb;have hzq:=Tq.z;obtain⟨W6,hW6⟩:∃W',w6.setCell ⟨w.heap.size+1+1+1,4,none⟩ (.int .i64 m.mo)=W':=⟨_,rfl⟩;have T6:=hid (show Sta w W6 R g g6 (mV m) #[.slice ta' m.tn tc',.slice ha' m.hn hc',.slice ga' m.gn gc',.int .i64 m.fi,.int .i64 m.mo,.slice none 0 0,.slice none 0 0,.slice none 0 0] by rw[<- hW6]; exact Tq.set (i:=4) (v:=.int .i64 m.mo) aw);have V6:=hid (show Wr W6 R g6 cap6 (bs++(ay m.tn++m.types.flatMap bN)++(ay m.hn++m.hosts.flatMap (fun x=>ay x))++(ay m.gn++m.globals.flatMap cR)++ay m.fi++ay m.mo) by rw[<- hW6]; exact hw6.set ae Tq.n3);have hlt6:(bs++(ay m.tn++m.types.flatMap bN)++(ay m.hn++m.hosts.flatMap (fun x=>ay x))++(ay m.gn++m.globals.flatMap cR)++ay m.fi++ay m.mo).length<=6200:=jl
 have G6:=hid (show cO W6 ta' m.tn m.types by
  have q:=G5.out.kept hs6.k (fun b off c hb'=>by have:=F5.out b off c hb'; have:=hRl; simp; omega);rw[<- hW6]
  exact q.kept (ax _ _ _ _) (fun b off c hb'=>by have:=F5.out b off c hb'; omega))
 have F6:=hid (show ∀b off c,ta'=some ⟨b,off,c⟩->w.heap.size+1+1+1<b/\b≠g6/\b<W6.heap.size from fun b off c hb'=>by
  have q:=F5.out b off c hb';have q1:=hs6.size;have q4:=(ax w6 (w.heap.size+1+1+1) 4 (.int .i64 m.mo)).size;rw[hW6]at q4;exact⟨q.1,hs6.ne q.2.2 q.2.1,ae⟩)
 obtain⟨WL,hWL⟩:∃WL,W6.alloc (bM 16384)=WL:=⟨_,rfl⟩
 have BL:Below W6.heap.size W6 WL:=by rw[<- hWL]; exact aj _ _
 have zL:WL.heap.size=W6.heap.size+1:=by rw[<- hWL]; simp
 have TL:=hid (T6.out.step hRl (Stp.of_below BL));have VL:=hid (V6.out.later BL);have GL:=hid (G6.out.later BL);have LL:=hid (show LAt WL W6.heap.size 16384 by rw[<- hWL]; exact⟨gK _ _ _,aG⟩);have z6:=T6.out.z;clear m0 m1 m2 m3 m4 m5 m6 m7 hw6 hs6 c0;obtain⟨⟨m0,m1,m2,m3,m4,m5,m6,m7⟩,_⟩:=aQ TL.out.mb;have c0:=TL.out.c0;have p0:=(aQ TL.out.ob).1;obtain⟨p0,p1,p2,p3,p4,p5,p6,p7⟩:=p0;go_wp2_with fail;clear Tq o0 o1 o2 o3 o4 o5 o6 o7 f0 f1 f2 f3 f4 f5 f6 f7 m0' m1' m2' m3' m4' m5' m6' m7' hzq hW6 hWL BL;have hgg:g6≠0:=Ne.symm (TL.out.s.ne ae (Ne.symm hg0));have hkL:=hid (HK.out.kept TL.out.s.k aK)
 have hokL:Hid (∀(j:Nat)x,m.fns[j]? =some x->OE WL R g6 W6.heap.size x):=fun j x hj=>by
  obtain⟨⟨r0,r1⟩,hmem,hfar,hins⟩:=HM.out.fr j x hj;have hz:=TL.out.s.size;refine⟨r0,r1,hmem.kept TL.out.s.k hfar.not,fun b off c hb'=>?_,fun b off c hb'=>?_,fun i y hi=>?_,fun i y hi b off c hb'=>?_⟩
  ·have q:=hfar b off c hb';have q2:=hfar.at TL.out.s b off c hb';exact⟨q2.1,q2.2,ae⟩
  ·have q:=hfar b off c hb';omega
  ·obtain⟨y0,y1,ysg,yfar⟩:=hins i y hi;exact⟨y0,y1,ysg.kept' TL.out.s.k yfar.not,yfar.at TL.out.s⟩
  obtain⟨y0,y1,ysg,yfar⟩:=hins i y hi;have q:=yfar b off c hb';omega
 by_cases E6:e6 m=0
 rotate_left
 ·have hcw:fw m=e6 m:=by unfold fw; rw[aX E1]; rw[aX E2]; rw[aX E3]; rw[aX E4]; rw[aX E5]; exact dE E6
  by_cases hfn:m.fn<=1000
  ·refine(R9 R g6 cap6 _ m.fn w.heap.size (w.heap.size+1+1+1) W6.heap.size ta' m.tn tc' m.types WL m.fns VL.out ae hfn hR0 hgg hkL.out ae c0 ae TL.out.n0 ae p0 ae TL.out.n3 ae ae GL.out (fun b off c hb'=>GI) (fun b off c hb'=>by have q:=F6.out b off c hb'; omega) hp8.out ae Ef hokL.out HM.out.pf.1 m.fa m.fc LL.out (HM.out.pf.kept TL.out.s.k HM.out.ff.not) (fun b off c hb'=>F8) E6).mono ?_
   rintro e w' ⟨⟨q,rfl⟩,hk'⟩;refine⟨rfl,fun h0=>absurd (hcw.symm.trans h0) E6,fun _=>⟨⟨q,?_⟩,TL.out.s.throwL hk' ae⟩⟩;rw[hcw];rfl
  have hmany:e6 m=20:=by
   unfold e6 bK;have:=HM.out.pf.1;exact if_pos ae
  refine(nX R g6 cap6 _ m.fa m.fn m.fc 128 _ WL VL.out ae).mono ?_;rintro e w' ⟨⟨q,rfl⟩,hk'⟩;refine⟨rfl,fun h0=>absurd (hcw.symm.trans h0) E6,fun _=>⟨⟨q,?_⟩,TL.out.s.throw hk'⟩⟩;rw[hcw,hmany];rfl
 have L6:=dZ (enc:=cQ) (M:=400000) E6 (fun ah x hx=>iP hx);have l6:=HM.out.pf.1;have u6:=aF (m.fn:Int);refine(Pw R g6 cap6 _ m.fn w.heap.size (w.heap.size+1+1+1) W6.heap.size ta' m.tn tc' m.types WL m.fns VL.out ae ae hR0 hgg hkL.out ae c0 ae TL.out.n0 ae p0 ae TL.out.n3 ae ae GL.out (fun b off c hb'=>GI) (fun b off c hb'=>by have q:=F6.out b off c hb'; omega) hp8.out ae Ef hokL.out HM.out.pf.1 m.fa m.fc LL.out (HM.out.pf.kept TL.out.s.k HM.out.ff.not) (fun b off c hb'=>F8) E6).mono ?_;rintro e w7⟨fa',fc',rfl,g7,cap7,hw7,hs7⟩;have Tq:=TL.out.stepL hRl hs7 ae;obtain⟨⟨o0,o1,o2,o3,o4,o5,o6,o7⟩,⟨f0,f1,f2,f3,f4,f5,f6,f7⟩⟩:=aQ Tq.ob;obtain⟨⟨m0',m1',m2',m3',m4',m5',m6',m7'⟩,_⟩:=aQ Tq.mb;have hzq:=Tq.z;obtain⟨W7,hW7⟩:∃W',w7.setCell ⟨w.heap.size+1+1+1,5,none⟩ (.slice fa' m.fn fc')=W':=⟨_,rfl⟩;have T7:=hid (show Sta w W7 R g g7 (mV m) #[.slice ta' m.tn tc',.slice ha' m.hn hc',.slice ga' m.gn gc',.int .i64 m.fi,.int .i64 m.mo,.slice fa' m.fn fc',.slice none 0 0,.slice none 0 0] by rw[<- hW7]; exact Tq.set (i:=5) (v:=.slice fa' m.fn fc') aw);have V7:=hid (show Wr W7 R g7 cap7 (bs++(ay m.tn++m.types.flatMap bN)++(ay m.hn++m.hosts.flatMap (fun x=>ay x))++(ay m.gn++m.globals.flatMap cR)++ay m.fi++ay m.mo++(ay m.fn++m.fns.flatMap cQ)) by rw[<- hW7]; exact hw7.set ae Tq.n3);have hlt7:(bs++(ay m.tn++m.types.flatMap bN)++(ay m.hn++m.hosts.flatMap (fun x=>ay x))++(ay m.gn++m.globals.flatMap cR)++ay m.fi++ay m.mo++(ay m.fn++m.fns.flatMap cQ)).length<=60000000:=jl;clear m0 m1 m2 m3 m4 m5 m6 m7 hw7 hs7 c0;obtain⟨⟨m0,m1,m2,m3,m4,m5,m6,m7⟩,_⟩:=aQ T7.out.mb;have c0:=T7.out.c0;have p0:=(aQ T7.out.ob).1;obtain⟨p0,p1,p2,p3,p4,p5,p6,p7⟩:=p0;go_wp2_with fail;clear Tq o0 o1 o2 o3 o4 o5 o6 o7 f0 f1 f2 f3 f4 f5 f6 f7 m0' m1' m2' m3' m4' m5' m6' m7' hzq hW7
 have hrD:Hid (∀(j:Nat)x,m.data[j]? =some x->PL W7 R g7 x):=fun j x hj=>by
  obtain⟨⟨r0,r1⟩,hsg,hfar⟩:=HM.out.dr j x hj;have hz:=T7.out.s.size;exact⟨r0,r1,hsg.kept' T7.out.s.k hfar.not,hfar.at T7.out.s,fun b off c hb'=>by have q:=hfar b off c hb'; omega⟩
 by_cases E7:e7 m=0
 rotate_left
 ·have hcw:fw m=e7 m:=by unfold fw; rw[aX E1]; rw[aX E2]; rw[aX E3]; rw[aX E4]; rw[aX E5]; rw[aX E6]; exact dE E7
  refine(O9 R g7 cap7 _ m.da m.dn m.dc w.heap.size W7 (w.heap.size+1+1+1) m.fi m.data V7.out ae c0 ae T7.out.n0 p3 ae T7.out.n3 R4.1 R4.2 hrD.out (HM.out.pd.kept T7.out.s.k HM.out.df.not) (HM.out.df.at T7.out.s) E7).mono ?_;rintro e w' ⟨⟨q,rfl⟩,hk'⟩;refine⟨rfl,fun h0=>absurd (hcw.symm.trans h0) E7,fun _=>⟨⟨q,?_⟩,T7.out.s.throw hk'⟩⟩;rw[hcw];rfl
 have L7:=dZ (enc:=cU) (M:=300000) E7 (fun ah x hx=>iO ae hx);have l7:=HM.out.pd.1;have u7:=aF (m.dn:Int);refine(KU R g7 cap7 _ m.da m.dn m.dc w.heap.size W7 (w.heap.size+1+1+1) m.fi m.data V7.out ae c0 ae T7.out.n0 p3 ae T7.out.n3 R4.1 R4.2 hrD.out (HM.out.pd.kept T7.out.s.k HM.out.df.not) (HM.out.df.at T7.out.s) E7).mono ?_;rintro e w8⟨da',dc',ys8,rfl,_,_,g8,cap8,hw8,hs8⟩;have Tq:=T7.out.step hRl hs8;obtain⟨⟨o0,o1,o2,o3,o4,o5,o6,o7⟩,⟨f0,f1,f2,f3,f4,f5,f6,f7⟩⟩:=aQ Tq.ob;obtain⟨⟨m0',m1',m2',m3',m4',m5',m6',m7'⟩,_⟩:=aQ Tq.mb;have hzq:=Tq.z;obtain⟨W8,hW8⟩:∃W',w8.setCell ⟨w.heap.size+1+1+1,6,none⟩ (.slice da' m.dn dc')=W':=⟨_,rfl⟩;have T8:=hid (show Sta w W8 R g g8 (mV m) #[.slice ta' m.tn tc',.slice ha' m.hn hc',.slice ga' m.gn gc',.int .i64 m.fi,.int .i64 m.mo,.slice fa' m.fn fc',.slice da' m.dn dc',.slice none 0 0] by rw[<- hW8]; exact Tq.set (i:=6) (v:=.slice da' m.dn dc') aw);have V8:=hid (show Wr W8 R g8 cap8 (bs++(ay m.tn++m.types.flatMap bN)++(ay m.hn++m.hosts.flatMap (fun x=>ay x))++(ay m.gn++m.globals.flatMap cR)++ay m.fi++ay m.mo++(ay m.fn++m.fns.flatMap cQ)++(ay m.dn++m.data.flatMap cU)) by rw[<- hW8]; exact hw8.set ae Tq.n3);have hlt8:(bs++(ay m.tn++m.types.flatMap bN)++(ay m.hn++m.hosts.flatMap (fun x=>ay x))++(ay m.gn++m.globals.flatMap cR)++ay m.fi++ay m.mo++(ay m.fn++m.fns.flatMap cQ)++(ay m.dn++m.data.flatMap cU)).length<=90000000:=jl;clear m0 m1 m2 m3 m4 m5 m6 m7 hw8 hs8 c0;obtain⟨⟨m0,m1,m2,m3,m4,m5,m6,m7⟩,_⟩:=aQ T8.out.mb;have c0:=T8.out.c0;have p0:=(aQ T8.out.ob).1;obtain⟨p0,p1,p2,p3,p4,p5,p6,p7⟩:=p0;go_wp2_with fail;clear Tq o0 o1 o2 o3 o4 o5 o6 o7 f0 f1 f2 f3 f4 f5 f6 f7 m0' m1' m2' m3' m4' m5' m6' m7' hzq hW8
 by_cases E8:e8 m=0
 rotate_left
 ·have hcw:fw m=e8 m:=by unfold fw; rw[aX E1]; rw[aX E2]; rw[aX E3]; rw[aX E4]; rw[aX E5]; rw[aX E6]; rw[aX E7]; skip
  refine(BV R g8 cap8 _ m.ea m.en m.ec w.heap.size W8 (w.heap.size+1+1+1) fa' m.fn fc' m.exps V8.out ae c0 ae T8.out.n0 p5 ae T8.out.n3 ae HM.out.er (HM.out.pe.kept T8.out.s.k HM.out.ef.not) (HM.out.ef.at T8.out.s) E8).mono ?_;rintro e w' ⟨⟨q,rfl⟩,hk'⟩;refine⟨rfl,fun h0=>absurd (hcw.symm.trans h0) E8,fun _=>⟨⟨q,?_⟩,T8.out.s.throw hk'⟩⟩;rw[hcw];rfl
 refine(Af R g8 cap8 _ m.ea m.en m.ec w.heap.size W8 (w.heap.size+1+1+1) fa' m.fn fc' m.exps V8.out ae c0 ae T8.out.n0 p5 ae T8.out.n3 ae HM.out.er (HM.out.pe.kept T8.out.s.k HM.out.ef.not) (HM.out.ef.at T8.out.s) E8).mono ?_;rintro e w9⟨ea',ec',ys9,rfl,_,_,g9,cap9,hw9,hs9⟩;have Tq:=T8.out.step hRl hs9;obtain⟨⟨o0,o1,o2,o3,o4,o5,o6,o7⟩,⟨f0,f1,f2,f3,f4,f5,f6,f7⟩⟩:=aQ Tq.ob;obtain⟨⟨m0',m1',m2',m3',m4',m5',m6',m7'⟩,_⟩:=aQ Tq.mb;have hzq:=Tq.z;obtain⟨W9,hW9⟩:∃W',w9.setCell ⟨w.heap.size+1+1+1,7,none⟩ (.slice ea' m.en ec')=W':=⟨_,rfl⟩;have T9:=hid (show Sta w W9 R g g9 (mV m) #[.slice ta' m.tn tc',.slice ha' m.hn hc',.slice ga' m.gn gc',.int .i64 m.fi,.int .i64 m.mo,.slice fa' m.fn fc',.slice da' m.dn dc',.slice ea' m.en ec'] by rw[<- hW9]; exact Tq.set (i:=7) (v:=.slice ea' m.en ec') aw);have V9:=hid (show Wr W9 R g9 cap9 (bs++(ay m.tn++m.types.flatMap bN)++(ay m.hn++m.hosts.flatMap (fun x=>ay x))++(ay m.gn++m.globals.flatMap cR)++ay m.fi++ay m.mo++(ay m.fn++m.fns.flatMap cQ)++(ay m.dn++m.data.flatMap cU)++(ay m.en++m.exps.flatMap dP)) by rw[<- hW9]; exact hw9.set ae Tq.n3);clear m0 m1 m2 m3 m4 m5 m6 m7 hw9 hs9 c0;obtain⟨p0,p1,p2,p3,p4,p5,p6,p7⟩:=(aQ T9.out.ob).1;have rbb:=T9.out.rb;unfold zV at rbb;obtain⟨⟨r0,r1,r2,r3,r4,r5,r6,r7⟩,⟨s0,s1,s2,s3,s4,s5,s6,s7⟩⟩:=aQ rbb;clear rbb;have z9:=T9.out.z;go_wp2_with fail
 have hcw:fw m=0:=by unfold fw; rw[aX E1]; rw[aX E2]; rw[aX E3]; rw[aX E4]; rw[aX E5]; rw[aX E6]; rw[aX E7]; exact E8
 refine bodyPost_ret (v:=.agg #[.slice ta' m.tn tc',.slice ha' m.hn hc',.slice ga' m.gn gc',.int .i64 m.fi,.int .i64 m.mo,.slice fa' m.fn fc',.slice da' m.dn dc',.slice ea' m.en ec']) ?_ rfl ⟨fun _=>⟨_,rfl,g9,cap9,?_,?_⟩,fun h0=>absurd hcw h0⟩
 ·exact dF
 ·have hcast:bs++qG m=bs++(ay m.tn++m.types.flatMap bN)++(ay m.hn++m.hosts.flatMap (fun x=>ay x))++(ay m.gn++m.globals.flatMap cR)++ay m.fi++ay m.mo++(ay m.fn++m.fns.flatMap cQ)++(ay m.dn++m.data.flatMap cU)++(ay m.en++m.exps.flatMap dP):=by simp[qG,List.append_assoc]
  rw[hcast];exact((((((((V9.out.set (b:=w.heap.size+1+1) ae T9.out.n2).set (b:=w.heap.size+1+1) ae T9.out.n2).set (b:=w.heap.size+1+1) ae T9.out.n2).set (b:=w.heap.size+1+1) ae T9.out.n2).set (b:=w.heap.size+1+1) ae T9.out.n2).set (b:=w.heap.size+1+1) ae T9.out.n2).set (b:=w.heap.size+1+1) ae T9.out.n2).set (b:=w.heap.size+1+1) ae T9.out.n2)
 exact((((((((T9.out.s.set ae).set ae).set ae).set ae).set ae).set ae).set ae).set ae).k
structure EvM(v:Ev)(w1:World)(m:MM)(lo:LIz):Prop where
 mv:v.mv=mV m
 pt:iX w1 m.ta m.tn m.types
 tS:∀b off c,m.ta=some ⟨b,off,c⟩->¬v.S b
 t64:m.tn<=64
 ph:m9 w1 m.ha m.hn m.hosts
 hS:∀b off c,m.ha=some ⟨b,off,c⟩->¬v.S b
 h32:m.hn<=32
 pg:kq w1 m.ga m.gn m.globals
 gS:∀b off c,m.ga=some ⟨b,off,c⟩->¬v.S b
 g64:m.gn<=64
 pf:od w1 m.fa m.fn m.fns
 fS:∀b off c,m.fa=some ⟨b,off,c⟩->¬v.S b
 f128:m.fn<=128
 lv:∃a n cap,v.lv=.slice a n cap/\lo.length=n/\n<=64/\(n=0\/∃b off,a=some ⟨b,off,none⟩/\¬v.S b/\∀(j:Nat)x,lo[j]? =some x->w1.cell? ⟨b,off+j,none⟩=some (.int .u8 x))
 lL:∀x∈lo,x=119\/x=108
 gL:∀x∈m.globals,x.1=119\/x.1=108
 tL:∀x∈m.types,x.1.size<=8/\x.2.size<=8
 hT:∀x∈m.hosts,0<=x/\x<m.tn
 fT:∀x∈m.fns,0<=x.1/\x.1<m.tn
 kinds:bg w1
 kS:∀k,v.S k->1<=k
section
variable {v:Ev} {w1 w:World} {s:Cs} {m:MM} {lo:LIz}
variable {b o Y:Nat}{u x:Value}
theorem aU(h:W.cell? ⟨b,o,none⟩=some u)(hne:b≠Y):(W.setCell ⟨Y,i,none⟩ x).cell? ⟨b,o,none⟩=some u:=by
 rw[World.cell?_setCell_other _ _ _ _ aw]; exact h
theorem aH(hb:Below W.heap.size W W')(h:W.cell? ⟨b,o,none⟩=some u)(hf:W.frozen? ⟨b,o,none⟩=false):W'.frozen? ⟨b,o,none⟩=false:=(hb.frozen (by exact block_lt_of_cell h)).trans hf
abbrev sgS(C X:Nat)(i:Nat)(tv lv:Value)(q:Int)(tb tq0:Nat)(P R:BAz)(w:World)(W:World):Prop :=
 W.cell? ⟨C,0,none⟩=some tv/\W.cell? ⟨C,i,none⟩=some lv/\W.cell? ⟨X,1,none⟩=some (.int .i64 q)/\W.cell? ⟨tb,tq0,none⟩=some (.string P)/\W.cell? ⟨tb,tq0+1,none⟩=some (.string R)/\Below w.heap.size w W
variable {C X tb tq0:Nat}{tv lv:Value}{q:Int}{P R:BAz}
theorem sgS.later{w W W':World}(h:sgS C X i tv lv q tb tq0 P R w W)(hb:Below W.heap.size W W'):sgS C X i tv lv q tb tq0 P R w W' :=
 ⟨ag hb h.1,ag hb h.2.1,ag hb h.2.2.1,ag hb h.2.2.2.1,ag hb h.2.2.2.2.1,h.2.2.2.2.2.trans (hb.mono h.2.2.2.2.2.size)⟩
variable {j:Nat}
theorem sgS.put{w W:World}(h:sgS C X i tv lv q tb tq0 P R w W)(hC:C<w.heap.size)(ht:tb<w.heap.size)(hX:X=w.heap.size):sgS C X i tv lv q tb tq0 P R w (W.setCell ⟨w.heap.size+1,j,none⟩ u) :=
 ⟨aU h.1 ae,aU h.2.1 ae,aU h.2.2.1 ae,aU h.2.2.2.1 ae,aU h.2.2.2.2.1 ae,bA h.2.2.2.2.2 ae h.2.2.2.2.2.size⟩
variable {q t:Nat}
theorem rR(hA:EvA v w1)(hM:EvM v w1 m lo)(h:CI v w1 w s){fu:FuM}(L:Value)(hq:m.fns[q]? =some fu)(ht:fu.1=t)(hP:m.types[t]? =some (P,R)) :
  Calls prog 128 #[.pointer (some ⟨v.C,0,none⟩),.agg #[.int .u8 11,.int .i64 q,L]] w (Rdz w 0 (.agg #[.string P,.string R])):=by
 obtain⟨c0,c1,c2,c5⟩:=h.mc;rw[hM.mv]at c0 c1 c2 c5;have HC:=hid h;have pt:=hM.pt.kept h.kept hM.tS;have pf:=hM.pf.kept h.kept hM.fS
 have hqn:q<m.fn:=by rw[<- pf.1]; exact az hq
 have htn:t<m.tn:=xB
 obtain⟨tb,toff,hta,htc⟩:∃b off,m.ta=some ⟨b,off,none⟩/\∀(j:Nat)x,m.types[j]? =some x->w.cell? ⟨b,off+j*2,none⟩=some (.string x.1)/\w.cell? ⟨b,off+j*2+1,none⟩=some (.string x.2):=by
  exact qO
 obtain⟨fb,foff,hfa,hfc⟩:∃b off,m.fa=some ⟨b,off,none⟩/\∀(j:Nat)x,m.fns[j]? =some x->w.cell? ⟨b,off+j*3,none⟩=some (.int .i64 x.1)/\w.cell? ⟨b,off+j*3+1,none⟩=some (.string x.2.1)/\w.cell? ⟨b,off+j*3+2,none⟩=some (.slice x.2.2.1.1 x.2.2.1.2.1 x.2.2.1.2.2):=by
  rcases pf.2 with h0 | hx
  ·omega
  exact hx
 obtain⟨t0,t1⟩:=htc t _ hP;obtain⟨f0,f1,f2⟩:=hfc q _ hq;have HF:=hid (fun W (hb:Below w.heap.size w W)=>zQ (w:=W) (cap:=m.fc) hqn (by have:=hM.f128; omega) (ag hb f0) (ag hb f1) (ag hb f2));rw[ht]at HF
 change w.cell? ⟨v.C,0,none⟩=some (.slice m.ta m.tn m.tc) at c0
 change w.cell? ⟨v.C,5,none⟩=some (.slice m.fa m.fn m.fc) at c5
 rw[hta]at c0;rw[hfa]at c5;simp only at t0 t1;have hCl:v.C<w.heap.size:=block_lt_of_cell c0;have htl:tb<w.heap.size:=block_lt_of_cell t0;have g0:(0:Int)<=(t:Int):=ae;have g1:(t:Int)<(m.tn:Int):=ae;have BW:Below w.heap.size w ((w.alloc (au 11 q L)).alloc (aO ⟨#[]⟩ ⟨#[]⟩)):=((Below.refl _ _).alloc lRn _).alloc aw _;have x1:((w.alloc (au 11 q L)).alloc (aO ⟨#[]⟩ ⟨#[]⟩)).cell? ⟨w.heap.size,1,none⟩=some (.int .i64 q):=aG;have y0:((w.alloc (au 11 q L)).alloc (aO ⟨#[]⟩ ⟨#[]⟩)).cell? ⟨w.heap.size+1,0,none⟩=some (.string ⟨#[]⟩):=aG;have y1:((w.alloc (au 11 q L)).alloc (aO ⟨#[]⟩ ⟨#[]⟩)).cell? ⟨w.heap.size+1,1,none⟩=some (.string ⟨#[]⟩):=aG;have z0:((w.alloc (au 11 q L)).alloc (aO ⟨#[]⟩ ⟨#[]⟩)).frozen? ⟨w.heap.size+1,0,none⟩=false:=aG;have z1:((w.alloc (au 11 q L)).alloc (aO ⟨#[]⟩ ⟨#[]⟩)).frozen? ⟨w.heap.size+1,1,none⟩=false:=aG;have d0:=ag BW c0;have d5:=ag BW c5;have e0:=ag BW t0;have e1:=ag BW t1;have HB:=hid BW;have hfld:∀(a b c:Value)(W:World),(Instr.field 61 (.agg #[a,b,c]) 0).run prog W=.ok a W:=fun _ _ _ _=>rfl;clear htc hfc hP hq ht pt pf c1 c2 h c0 c5 t0 t1 f0 f1 f2;go_enter func128,ntmps128
 go_wp2_with fail;generalize (w.alloc (au 11 q L)).alloc (aO ⟨#[]⟩ ⟨#[]⟩)=W0 at *
 go_region_held3 (sgS v.C w.heap.size 5 (.slice (some ⟨tb,toff,none⟩) m.tn m.tc) (.slice (some ⟨fb,foff,none⟩) m.fn m.fc) q tb (toff+t*2) P R w)
  (first | assumption | exact sgS.put (sgS.put bJ hCl htl rfl) hCl htl rfl | exact(sgS.put (sgS.put bJ hCl htl rfl) hCl htl rfl).later (below_drewN _ 1) | exact⟨d0,d5,x1,e0,e1,HB.out.drew⟩)
  (first
   | (go_at_call 155; refine(HF.out _ (And.right (And.right (And.right (And.right (And.right bJ)))))).mono ?_; rintro e w' ⟨rfl,hbx⟩; have hS':=sgS.later bJ hbx; have k0:=ag hbx (show World.cell? _ _=_ from y0); have k1:=ag hbx (show World.cell? _ _=_ from y1); have j0:=aH hbx (show World.cell? _ _=_ from y0) (show World.frozen? _ _=_ from z0); have j1:=aH hbx (show World.cell? _ _=_ from y1) (show World.frozen? _ _=_ from z1); clear hbx))
 exact MG
end
section
variable {v:Ev} {w1 w:World} {s:Cs} {m:MM} {lo:LIz}
variable {q t:Nat}{P R:BAz}
theorem rY(hA:EvA v w1)(hM:EvM v w1 m lo)(h:CI v w1 w s)(L:Value)(hq:m.hosts[q]? =some (t:Int))(hP:m.types[t]? =some (P,R)) :
  Calls prog 128 #[.pointer (some ⟨v.C,0,none⟩),.agg #[.int .u8 12,.int .i64 q,L]] w (Rdz w 0 (.agg #[.string P,.string R])):=by
 obtain⟨c0,c1,c2,c5⟩:=h.mc;rw[hM.mv]at c0 c1 c2 c5;have HC:=hid h;have pt:=hM.pt.kept h.kept hM.tS;have pf:=hM.ph.kept h.kept hM.hS
 have hqn:q<m.hn:=by rw[<- pf.1]; exact az hq
 have htn:t<m.tn:=xB
 obtain⟨tb,toff,hta,htc⟩:∃b off,m.ta=some ⟨b,off,none⟩/\∀(j:Nat)x,m.types[j]? =some x->w.cell? ⟨b,off+j*2,none⟩=some (.string x.1)/\w.cell? ⟨b,off+j*2+1,none⟩=some (.string x.2):=by
  exact qO
 obtain⟨fb,foff,hfa,hfc⟩:∃b off,m.ha=some ⟨b,off,none⟩/\∀(j:Nat)x,m.hosts[j]? =some x->w.cell? ⟨b,off+j,none⟩=some (.int .i64 x):=by
  rcases pf.2 with h0 | hx
  ·omega
  exact hx
 obtain⟨t0,t1⟩:=htc t _ hP;have f0:=hfc q _ hq;have HF:=hid (fun W (hb:Below w.heap.size w W)=>zU (w:=W) (cap:=m.hc) hqn (by have:=hM.h32; omega) (ag hb f0))
 change w.cell? ⟨v.C,0,none⟩=some (.slice m.ta m.tn m.tc) at c0
 change w.cell? ⟨v.C,1,none⟩=some (.slice m.ha m.hn m.hc) at c1
 rw[hta]at c0;rw[hfa]at c1;simp only at t0 t1;have hCl:v.C<w.heap.size:=block_lt_of_cell c0;have htl:tb<w.heap.size:=block_lt_of_cell t0;have g0:(0:Int)<=(t:Int):=ae;have g1:(t:Int)<(m.tn:Int):=ae;have BW:Below w.heap.size w ((w.alloc (au 12 q L)).alloc (aO ⟨#[]⟩ ⟨#[]⟩)):=((Below.refl _ _).alloc lRn _).alloc aw _;have x1:((w.alloc (au 12 q L)).alloc (aO ⟨#[]⟩ ⟨#[]⟩)).cell? ⟨w.heap.size,1,none⟩=some (.int .i64 q):=aG;have y0:((w.alloc (au 12 q L)).alloc (aO ⟨#[]⟩ ⟨#[]⟩)).cell? ⟨w.heap.size+1,0,none⟩=some (.string ⟨#[]⟩):=aG;have y1:((w.alloc (au 12 q L)).alloc (aO ⟨#[]⟩ ⟨#[]⟩)).cell? ⟨w.heap.size+1,1,none⟩=some (.string ⟨#[]⟩):=aG;have z0:((w.alloc (au 12 q L)).alloc (aO ⟨#[]⟩ ⟨#[]⟩)).frozen? ⟨w.heap.size+1,0,none⟩=false:=aG;have z1:((w.alloc (au 12 q L)).alloc (aO ⟨#[]⟩ ⟨#[]⟩)).frozen? ⟨w.heap.size+1,1,none⟩=false:=aG;have d0:=ag BW c0;have d5:=ag BW c1;have e0:=ag BW t0;have e1:=ag BW t1;have HB:=hid BW;clear htc hfc hP hq pt pf c1 c2 h c0 c5 t0 t1 f0;go_enter func128,ntmps128
 go_wp2_with fail;generalize (w.alloc (au 12 q L)).alloc (aO ⟨#[]⟩ ⟨#[]⟩)=W0 at *
 go_region_held3 (sgS v.C w.heap.size 1 (.slice (some ⟨tb,toff,none⟩) m.tn m.tc) (.slice (some ⟨fb,foff,none⟩) m.hn m.hc) q tb (toff+t*2) P R w)
  (first | assumption | exact sgS.put (sgS.put bJ hCl htl rfl) hCl htl rfl | exact(sgS.put (sgS.put bJ hCl htl rfl) hCl htl rfl).later (below_drewN _ 1) | exact⟨d0,d5,x1,e0,e1,HB.out.drew⟩)
  (first
   | (go_at_call 156; refine(HF.out _ (And.right (And.right (And.right (And.right (And.right bJ)))))).mono ?_; rintro e w' ⟨rfl,hbx⟩; have hS':=sgS.later bJ hbx; have k0:=ag hbx (show World.cell? _ _=_ from y0); have k1:=ag hbx (show World.cell? _ _=_ from y1); have j0:=aH hbx (show World.cell? _ _=_ from y0) (show World.frozen? _ _=_ from z0); have j1:=aH hbx (show World.cell? _ _=_ from y1) (show World.frozen? _ _=_ from z1); clear hbx))
 exact MG
variable {z:Int}
theorem nG(hA:EvA v w1)(hM:EvM v w1 m lo)(h:CI v w1 w s)(L:Value)(hz:z<0\/(m.fn:Int)<=z) :
  Calls prog 128 #[.pointer (some ⟨v.C,0,none⟩),.agg #[.int .u8 11,.int .i64 z,L]] w (Rdz w 30 (.agg #[.string ⟨#[]⟩,.string ⟨#[]⟩])):=by
 obtain⟨c0,c1,c2,c5⟩:=h.mc;rw[hM.mv]at c0 c1 c2 c5;have HC:=hid h;have HF:=hid (fun W=>Cm (w:=W) (a:=m.fa) (cap:=m.fc) hz (by have:=hM.f128; omega))
 change w.cell? ⟨v.C,0,none⟩=some (.slice m.ta m.tn m.tc) at c0
 change w.cell? ⟨v.C,5,none⟩=some (.slice m.fa m.fn m.fc) at c5
 have BW:Below w.heap.size w ((w.alloc (au 11 z L)).alloc (aO ⟨#[]⟩ ⟨#[]⟩)):=((Below.refl _ _).alloc lRn _).alloc aw _;have x1:((w.alloc (au 11 z L)).alloc (aO ⟨#[]⟩ ⟨#[]⟩)).cell? ⟨w.heap.size,1,none⟩=some (.int .i64 z):=aG;have d0:=ag BW c0;have d5:=ag BW c5;have HB:=hid BW;clear c0 c1 c2 c5 h;go_enter func128,ntmps128
 go_wp2_with fail;generalize (w.alloc (au 11 z L)).alloc (aO ⟨#[]⟩ ⟨#[]⟩)=W0 at *
 refine wp_region_held_drew (S:=(fun W=>W.cell? ⟨v.C,0,none⟩=some (.slice m.ta m.tn m.tc)/\W.cell? ⟨v.C,5,none⟩=some (.slice m.fa m.fn m.fc)/\W.cell? ⟨w.heap.size,1,none⟩=some (.int .i64 z))) ar ⟨d0,d5,x1⟩ (fun hHeld=>?_)
 refine tkC (i:=0) rfl ?_;(try simp only[Act.put,sIB]);refine tkC (i:=1) rfl ?_;(try simp only[Act.put]);refine tkC (i:=2) rfl ?_;(try simp only[Act.put]);refine tkC (i:=3) rfl ?_;(try simp only[Act.put]);refine tkC (i:=4) rfl ?_;(try simp only[Act.put]);refine tkC (i:=5) rfl ?_;(try simp only[Act.put]);refine tkC (i:=6) rfl ?_;(try simp only[Act.put]);refine tkC (i:=7) rfl ?_;(try simp only[Act.put]);refine tkC (i:=8) rfl ?_;(try simp only[Act.put]);refine tkC (i:=9) rfl ?_;(try simp only[Act.put]);refine tkC (i:=10) rfl ?_;(try simp only[Act.put]);refine tkC (i:=11) rfl ?_;(try simp only[Act.put]);refine rdY (rs:=[12]) ?_
 refine AllReadyH.cons rfl (fun K hK=>?_) rN;go_simp;refine(HF.out _).mono ?_;rintro e w5⟨rfl,hb⟩;exact⟨rfl,.inr ⟨aA,rfl,HB.out.drew.trans (hb.mono HB.out.size)⟩⟩
theorem nj(hA:EvA v w1)(hM:EvM v w1 m lo)(h:CI v w1 w s)(L:Value)(hz:z<0\/(m.hn:Int)<=z) :
  Calls prog 128 #[.pointer (some ⟨v.C,0,none⟩),.agg #[.int .u8 12,.int .i64 z,L]] w (Rdz w 30 (.agg #[.string ⟨#[]⟩,.string ⟨#[]⟩])):=by
 obtain⟨c0,c1,c2,c5⟩:=h.mc;rw[hM.mv]at c0 c1 c2 c5;have HC:=hid h;have HF:=hid (fun W=>Dz (w:=W) (a:=m.ha) (cap:=m.hc) hz (by have:=hM.h32; omega))
 change w.cell? ⟨v.C,0,none⟩=some (.slice m.ta m.tn m.tc) at c0
 change w.cell? ⟨v.C,1,none⟩=some (.slice m.ha m.hn m.hc) at c1
 have BW:Below w.heap.size w ((w.alloc (au 12 z L)).alloc (aO ⟨#[]⟩ ⟨#[]⟩)):=((Below.refl _ _).alloc lRn _).alloc aw _;have x1:((w.alloc (au 12 z L)).alloc (aO ⟨#[]⟩ ⟨#[]⟩)).cell? ⟨w.heap.size,1,none⟩=some (.int .i64 z):=aG;have d0:=ag BW c0;have d5:=ag BW c1;have HB:=hid BW;clear c0 c1 c2 c5 h;go_enter func128,ntmps128
 go_wp2_with fail;generalize (w.alloc (au 12 z L)).alloc (aO ⟨#[]⟩ ⟨#[]⟩)=W0 at *
 refine wp_region_held_drew (S:=(fun W=>W.cell? ⟨v.C,0,none⟩=some (.slice m.ta m.tn m.tc)/\W.cell? ⟨v.C,1,none⟩=some (.slice m.ha m.hn m.hc)/\W.cell? ⟨w.heap.size,1,none⟩=some (.int .i64 z))) ar ⟨d0,d5,x1⟩ (fun hHeld=>?_)
 refine tkC (i:=0) rfl ?_;(try simp only[Act.put,sIB]);refine tkC (i:=1) rfl ?_;(try simp only[Act.put]);refine tkC (i:=2) rfl ?_;(try simp only[Act.put]);refine tkC (i:=3) rfl ?_;(try simp only[Act.put]);refine tkC (i:=4) rfl ?_;(try simp only[Act.put]);refine tkC (i:=5) rfl ?_;(try simp only[Act.put]);refine tkC (i:=6) rfl ?_;(try simp only[Act.put]);refine tkC (i:=7) rfl ?_;(try simp only[Act.put]);refine tkC (i:=8) rfl ?_;(try simp only[Act.put]);refine tkC (i:=9) rfl ?_;(try simp only[Act.put]);refine tkC (i:=10) rfl ?_;(try simp only[Act.put]);refine tkC (i:=11) rfl ?_;(try simp only[Act.put]);refine rdY (rs:=[12]) ?_
 refine AllReadyH.cons rfl (fun K hK=>?_) rN;go_simp;refine(HF.out _).mono ?_;rintro e w5⟨rfl,hb⟩;exact⟨rfl,.inr ⟨aA,rfl,HB.out.drew.trans (hb ▸ Below.refl _ _)⟩⟩
end
variable {B j:Nat}{u x:Value}
theorem iW(h:Below B w W)(hB:B<=g)(hs:B<=W.heap.size):Below B w ((W.setCell ⟨g,i,none⟩ u).setCell ⟨g,j,none⟩ x) :=
 bA (bA h hB hs) hB (by simpa[World.setCell] using hs)
abbrev loS(C X i:Nat)(lv:Value)(op q:Int)(w W:World):Prop :=
 W.cell? ⟨C,i,none⟩=some lv/\W.cell? ⟨X,0,none⟩=some (.int .u8 op)/\W.cell? ⟨X,1,none⟩=some (.int .i64 q)/\Below w.heap.size w W
variable {C X:Nat}{lv:Value}
theorem loS.later{op q:Int}(h:loS C X i lv op q w W)(hb:Below W.heap.size W W'):loS C X i lv op q w W' :=
 ⟨ag hb h.1,ag hb h.2.1,ag hb h.2.2.1,h.2.2.2.trans (hb.mono h.2.2.2.size)⟩
theorem loS.put{op q:Int}(h:loS C X i lv op q w W)(hC:C<w.heap.size)(hX:X=w.heap.size):loS C X i lv op q w (W.setCell ⟨w.heap.size+1,j,none⟩ u) :=
 ⟨aU h.1 ae,aU h.2.1 ae,aU h.2.2.1 ae,bA h.2.2.2 ae h.2.2.2.size⟩
section
variable {v:Ev} {w1 w:World} {s:Cs} {m:MM} {lo:LIz}
variable {k:Nat}{o:Opn}
theorem sI(hA:EvA v w1)(h:CI v w1 w s)(hw:CW s k o)(a:Int)(L:Value) :
  Calls prog 128 #[.pointer (some ⟨v.C,0,none⟩),.agg #[.int .u8 16,.int .i64 a,L]] w (Rdz w (ko s o 0) (.agg #[.string (gG s o 0),.string ⟨#[]⟩])):=by
 have BW:Below w.heap.size w ((w.alloc (au 16 a L)).alloc (aO ⟨#[]⟩ ⟨#[]⟩)):=((Below.refl _ _).alloc lRn _).alloc aw _;have x1:((w.alloc (au 16 a L)).alloc (aO ⟨#[]⟩ ⟨#[]⟩)).cell? ⟨w.heap.size,1,none⟩=some (.int .i64 a):=aG;have x0:((w.alloc (au 16 a L)).alloc (aO ⟨#[]⟩ ⟨#[]⟩)).cell? ⟨w.heap.size,0,none⟩=some (.int .u8 16):=aG;have y0:((w.alloc (au 16 a L)).alloc (aO ⟨#[]⟩ ⟨#[]⟩)).cell? ⟨w.heap.size+1,0,none⟩=some (.string ⟨#[]⟩):=aG;have y1:((w.alloc (au 16 a L)).alloc (aO ⟨#[]⟩ ⟨#[]⟩)).cell? ⟨w.heap.size+1,1,none⟩=some (.string ⟨#[]⟩):=aG;have z0:((w.alloc (au 16 a L)).alloc (aO ⟨#[]⟩ ⟨#[]⟩)).frozen? ⟨w.heap.size+1,0,none⟩=false:=aG;have z1:((w.alloc (au 16 a L)).alloc (aO ⟨#[]⟩ ⟨#[]⟩)).frozen? ⟨w.heap.size+1,1,none⟩=false:=aG;have HL:=hid (uu hA (h.later hA BW) hw 0 ae);have HB:=hid BW;generalize ko s o 0=E at *;generalize gG s o 0=V at *;clear h hw BW;go_enter func128,ntmps128
 go_wp2_with fail;generalize (w.alloc (au 16 a L)).alloc (aO ⟨#[]⟩ ⟨#[]⟩)=W0 at *;refine HL.out.mono ?_
 rintro e w2 (⟨h0,rfl,hb⟩ | ⟨h0,rfl,hb⟩)
 ·have k0:=ag hb y0;have k1:=ag hb y1;have j0:=aH hb y0 z0;have j1:=aH hb y1 z1;have HB2:=hid (HB.out.trans (hb.mono HB.out.size));clear hb;go_wp2_with fail;refine bodyPost_ret (v:=.agg #[.string V,.string ⟨#[]⟩]) ?_ rfl (.inl ⟨h0,rfl,iW HB2.out ae HB2.out.size⟩);exact dF
 exact⟨rfl,.inr ⟨h0,rfl,HB.out.trans (hb.mono HB.out.size)⟩⟩
theorem oU(hA:EvA v w1)(h:CI v w1 w s)(hw:CW s k o)(a:Int)(L:Value) :
  Calls prog 128 #[.pointer (some ⟨v.C,0,none⟩),.agg #[.int .u8 17,.int .i64 a,L]] w (Rdz w (ko s o 1) (.agg #[.string (gG s o 1++gG s o 1++⟨#[119]⟩),.string (gG s o 1)])):=by
 have BW:Below w.heap.size w ((w.alloc (au 17 a L)).alloc (aO ⟨#[]⟩ ⟨#[]⟩)):=((Below.refl _ _).alloc lRn _).alloc aw _;have x1:((w.alloc (au 17 a L)).alloc (aO ⟨#[]⟩ ⟨#[]⟩)).cell? ⟨w.heap.size,1,none⟩=some (.int .i64 a):=aG;have x0:((w.alloc (au 17 a L)).alloc (aO ⟨#[]⟩ ⟨#[]⟩)).cell? ⟨w.heap.size,0,none⟩=some (.int .u8 17):=aG;have y0:((w.alloc (au 17 a L)).alloc (aO ⟨#[]⟩ ⟨#[]⟩)).cell? ⟨w.heap.size+1,0,none⟩=some (.string ⟨#[]⟩):=aG;have y1:((w.alloc (au 17 a L)).alloc (aO ⟨#[]⟩ ⟨#[]⟩)).cell? ⟨w.heap.size+1,1,none⟩=some (.string ⟨#[]⟩):=aG;have z0:((w.alloc (au 17 a L)).alloc (aO ⟨#[]⟩ ⟨#[]⟩)).frozen? ⟨w.heap.size+1,0,none⟩=false:=aG;have z1:((w.alloc (au 17 a L)).alloc (aO ⟨#[]⟩ ⟨#[]⟩)).frozen? ⟨w.heap.size+1,1,none⟩=false:=aG;have HL:=hid (uu hA (h.later hA BW) hw 1 ae);have HB:=hid BW
 have hV:(gG s o 1).size<=1:=by simp[gG]; omega
 generalize ko s o 1=E at *;generalize gG s o 1=V at *;clear h hw BW;go_enter func128,ntmps128
 go_wp2_with fail;generalize (w.alloc (au 17 a L)).alloc (aO ⟨#[]⟩ ⟨#[]⟩)=W0 at *;refine HL.out.mono ?_
 rintro e w2 (⟨h0,rfl,hb⟩ | ⟨h0,rfl,hb⟩)
 ·have k0:=ag hb y0;have k1:=ag hb y1;have j0:=aH hb y0 z0;have j1:=aH hb y1 z1;have HB2:=hid (HB.out.trans (hb.mono HB.out.size));clear hb;go_wp2_with fail;refine bodyPost_ret (v:=.agg #[.string (V++V++⟨#[119]⟩),.string V]) ?_ rfl (.inl ⟨h0,rfl,iW HB2.out ae HB2.out.size⟩);exact dF
 exact⟨rfl,.inr ⟨h0,rfl,HB.out.trans (hb.mono HB.out.size)⟩⟩
variable {q:Nat}{c:Int}
theorem ou(hA:EvA v w1)(hM:EvM v w1 m lo)(h:CI v w1 w s)(L:Value)(hq:lo[q]? =some c) :
  Calls prog 128 #[.pointer (some ⟨v.C,0,none⟩),.agg #[.int .u8 18,.int .i64 q,L]] w (Rdz w 0 (.agg #[.string (jS 18 (ltr c)),.string (jG 18 (ltr c))])):=by
 have BW:Below w.heap.size w ((w.alloc (au 18 q L)).alloc (aO ⟨#[]⟩ ⟨#[]⟩)):=((Below.refl _ _).alloc lRn _).alloc aw _;have x1:((w.alloc (au 18 q L)).alloc (aO ⟨#[]⟩ ⟨#[]⟩)).cell? ⟨w.heap.size,1,none⟩=some (.int .i64 q):=aG;have x0:((w.alloc (au 18 q L)).alloc (aO ⟨#[]⟩ ⟨#[]⟩)).cell? ⟨w.heap.size,0,none⟩=some (.int .u8 18):=aG;have y0:((w.alloc (au 18 q L)).alloc (aO ⟨#[]⟩ ⟨#[]⟩)).cell? ⟨w.heap.size+1,0,none⟩=some (.string ⟨#[]⟩):=aG;have y1:((w.alloc (au 18 q L)).alloc (aO ⟨#[]⟩ ⟨#[]⟩)).cell? ⟨w.heap.size+1,1,none⟩=some (.string ⟨#[]⟩):=aG;have z0:((w.alloc (au 18 q L)).alloc (aO ⟨#[]⟩ ⟨#[]⟩)).frozen? ⟨w.heap.size+1,0,none⟩=false:=aG;have z1:((w.alloc (au 18 q L)).alloc (aO ⟨#[]⟩ ⟨#[]⟩)).frozen? ⟨w.heap.size+1,1,none⟩=false:=aG;obtain⟨la,ln,lcp,hlv,hln,hl64,hcells⟩:=hM.lv;have hqn:q<ln:=uX
 obtain⟨lb,loff,rfl,hlS,hlc⟩:∃b off,la=some ⟨b,off,none⟩/\¬v.S b/\∀(j:Nat)x,lo[j]? =some x->w1.cell? ⟨b,off+j,none⟩=some (.int .u8 x):=by
  exact vA
 have f0:=h.kept.cell (hlc q c hq) hlS;have HF:=hid (fun W (hb:Below w.heap.size w W)=>lI (w:=W) (cap:=lcp) hqn ae (ag hb f0));have HH:=hid (fun W=>jD (w:=W) 18 c (hM.lL c (List.mem_of_getElem? hq)) ae);have c8:=h.lc;have HK:=hid h.kept.size;rw[hlv]at c8;have d8:=ag BW c8;have HB:=hid BW;clear h c8 f0 hlc hcells hq BW;generalize jS 18 (ltr c)=P at *;generalize jG 18 (ltr c)=R at *;have hCl:v.C<w.heap.size:=Nat.lt_of_lt_of_le hA.c HK.out;go_enter func128,ntmps128
 go_wp2_with fail;generalize (w.alloc (au 18 q L)).alloc (aO ⟨#[]⟩ ⟨#[]⟩)=W0 at *
 go_region_held3 (loS v.C w.heap.size 8 (.slice (some ⟨lb,loff,none⟩) ln lcp) 18 q w)
  (first | assumption | exact loS.put (loS.put bJ hCl rfl) hCl rfl | exact(loS.put (loS.put bJ hCl rfl) hCl rfl).later (below_drewN _ 1) | exact⟨d8,x0,x1,HB.out.drew⟩)
  (first
   | (go_at_call 159; refine(HF.out _ (And.right (And.right (And.right bJ)))).mono ?_; rintro e w' ⟨rfl,hbx⟩; have hS':=loS.later bJ hbx; have k0:=ag hbx (show World.cell? _ _=_ from y0); have k1:=ag hbx (show World.cell? _ _=_ from y1); have j0:=aH hbx (show World.cell? _ _=_ from y0) (show World.frozen? _ _=_ from z0); have j1:=aH hbx (show World.cell? _ _=_ from y1) (show World.frozen? _ _=_ from z1); clear hbx)
   | (go_at_call 158; refine(HH.out _).mono ?_; rintro e w'' ⟨rfl,hbx⟩; have hS'':=loS.later hS' hbx; have l0:=ag hbx k0; have l1:=ag hbx k1; have i0:=aH hbx k0 j0; have i1:=aH hbx k1 j1; clear hbx))
 exact BC
variable {z:Int}
theorem kD(hA:EvA v w1)(hM:EvM v w1 m lo)(h:CI v w1 w s)(L:Value)(hz:z<0\/(lo.length:Int)<=z) :
  Calls prog 128 #[.pointer (some ⟨v.C,0,none⟩),.agg #[.int .u8 18,.int .i64 z,L]] w (Rdz w 30 (.agg #[.string ⟨#[]⟩,.string ⟨#[]⟩])):=by
 have BW:Below w.heap.size w ((w.alloc (au 18 z L)).alloc (aO ⟨#[]⟩ ⟨#[]⟩)):=((Below.refl _ _).alloc lRn _).alloc aw _;have x1:((w.alloc (au 18 z L)).alloc (aO ⟨#[]⟩ ⟨#[]⟩)).cell? ⟨w.heap.size,1,none⟩=some (.int .i64 z):=aG;have x0:((w.alloc (au 18 z L)).alloc (aO ⟨#[]⟩ ⟨#[]⟩)).cell? ⟨w.heap.size,0,none⟩=some (.int .u8 18):=aG;obtain⟨la,ln,lcp,hlv,hln,hl64,hcells⟩:=hM.lv;rw[hln]at hz;have HF:=hid (fun W=>mN (w:=W) (a:=la) (cap:=lcp) hz ae);have c8:=h.lc;rw[hlv]at c8;have d8:=ag BW c8;have HB:=hid BW;clear h c8 hcells BW;go_enter func128,ntmps128
 go_wp2_with fail;generalize (w.alloc (au 18 z L)).alloc (aO ⟨#[]⟩ ⟨#[]⟩)=W0 at *
 refine wp_region_held_drew (S:=(fun W=>W.cell? ⟨v.C,8,none⟩=some (.slice la ln lcp)/\W.cell? ⟨w.heap.size,0,none⟩=some (.int .u8 18)/\W.cell? ⟨w.heap.size,1,none⟩=some (.int .i64 z))) ar ⟨d8,x0,x1⟩ (fun hHeld=>?_);exact CM
theorem ni(hA:EvA v w1)(hM:EvM v w1 m lo)(h:CI v w1 w s)(L:Value)(hq:lo[q]? =some c) :
  Calls prog 128 #[.pointer (some ⟨v.C,0,none⟩),.agg #[.int .u8 19,.int .i64 q,L]] w (Rdz w 0 (.agg #[.string (jS 19 (ltr c)),.string (jG 19 (ltr c))])):=by
 have BW:Below w.heap.size w ((w.alloc (au 19 q L)).alloc (aO ⟨#[]⟩ ⟨#[]⟩)):=((Below.refl _ _).alloc lRn _).alloc aw _;have x1:((w.alloc (au 19 q L)).alloc (aO ⟨#[]⟩ ⟨#[]⟩)).cell? ⟨w.heap.size,1,none⟩=some (.int .i64 q):=aG;have x0:((w.alloc (au 19 q L)).alloc (aO ⟨#[]⟩ ⟨#[]⟩)).cell? ⟨w.heap.size,0,none⟩=some (.int .u8 19):=aG;have y0:((w.alloc (au 19 q L)).alloc (aO ⟨#[]⟩ ⟨#[]⟩)).cell? ⟨w.heap.size+1,0,none⟩=some (.string ⟨#[]⟩):=aG;have y1:((w.alloc (au 19 q L)).alloc (aO ⟨#[]⟩ ⟨#[]⟩)).cell? ⟨w.heap.size+1,1,none⟩=some (.string ⟨#[]⟩):=aG;have z0:((w.alloc (au 19 q L)).alloc (aO ⟨#[]⟩ ⟨#[]⟩)).frozen? ⟨w.heap.size+1,0,none⟩=false:=aG;have z1:((w.alloc (au 19 q L)).alloc (aO ⟨#[]⟩ ⟨#[]⟩)).frozen? ⟨w.heap.size+1,1,none⟩=false:=aG;obtain⟨la,ln,lcp,hlv,hln,hl64,hcells⟩:=hM.lv;have hqn:q<ln:=uX
 obtain⟨lb,loff,rfl,hlS,hlc⟩:∃b off,la=some ⟨b,off,none⟩/\¬v.S b/\∀(j:Nat)x,lo[j]? =some x->w1.cell? ⟨b,off+j,none⟩=some (.int .u8 x):=by
  exact vA
 have f0:=h.kept.cell (hlc q c hq) hlS;have HF:=hid (fun W (hb:Below w.heap.size w W)=>lI (w:=W) (cap:=lcp) hqn ae (ag hb f0));have HH:=hid (fun W=>jD (w:=W) 19 c (hM.lL c (List.mem_of_getElem? hq)) ae);have c8:=h.lc;have HK:=hid h.kept.size;rw[hlv]at c8;have d8:=ag BW c8;have HB:=hid BW;clear h c8 f0 hlc hcells hq BW;generalize jS 19 (ltr c)=P at *;generalize jG 19 (ltr c)=R at *;have hCl:v.C<w.heap.size:=Nat.lt_of_lt_of_le hA.c HK.out;go_enter func128,ntmps128
 go_wp2_with fail;generalize (w.alloc (au 19 q L)).alloc (aO ⟨#[]⟩ ⟨#[]⟩)=W0 at *
 go_region_held3 (loS v.C w.heap.size 8 (.slice (some ⟨lb,loff,none⟩) ln lcp) 19 q w)
  (first | assumption | exact loS.put (loS.put bJ hCl rfl) hCl rfl | exact(loS.put (loS.put bJ hCl rfl) hCl rfl).later (below_drewN _ 1) | exact⟨d8,x0,x1,HB.out.drew⟩)
  (first
   | (go_at_call 159; refine(HF.out _ (And.right (And.right (And.right bJ)))).mono ?_; rintro e w' ⟨rfl,hbx⟩; have hS':=loS.later bJ hbx; have k0:=ag hbx (show World.cell? _ _=_ from y0); have k1:=ag hbx (show World.cell? _ _=_ from y1); have j0:=aH hbx (show World.cell? _ _=_ from y0) (show World.frozen? _ _=_ from z0); have j1:=aH hbx (show World.cell? _ _=_ from y1) (show World.frozen? _ _=_ from z1); clear hbx)
   | (go_at_call 158; refine(HH.out _).mono ?_; rintro e w'' ⟨rfl,hbx⟩; have hS'':=loS.later hS' hbx; have l0:=ag hbx k0; have l1:=ag hbx k1; have i0:=aH hbx k0 j0; have i1:=aH hbx k1 j1; clear hbx))
 exact BC
theorem lH(hA:EvA v w1)(hM:EvM v w1 m lo)(h:CI v w1 w s)(L:Value)(hz:z<0\/(lo.length:Int)<=z) :
  Calls prog 128 #[.pointer (some ⟨v.C,0,none⟩),.agg #[.int .u8 19,.int .i64 z,L]] w (Rdz w 30 (.agg #[.string ⟨#[]⟩,.string ⟨#[]⟩])):=by
 have BW:Below w.heap.size w ((w.alloc (au 19 z L)).alloc (aO ⟨#[]⟩ ⟨#[]⟩)):=((Below.refl _ _).alloc lRn _).alloc aw _;have x1:((w.alloc (au 19 z L)).alloc (aO ⟨#[]⟩ ⟨#[]⟩)).cell? ⟨w.heap.size,1,none⟩=some (.int .i64 z):=aG;have x0:((w.alloc (au 19 z L)).alloc (aO ⟨#[]⟩ ⟨#[]⟩)).cell? ⟨w.heap.size,0,none⟩=some (.int .u8 19):=aG;obtain⟨la,ln,lcp,hlv,hln,hl64,hcells⟩:=hM.lv;rw[hln]at hz;have HF:=hid (fun W=>mN (w:=W) (a:=la) (cap:=lcp) hz ae);have c8:=h.lc;rw[hlv]at c8;have d8:=ag BW c8;have HB:=hid BW;clear h c8 hcells BW;go_enter func128,ntmps128
 go_wp2_with fail;generalize (w.alloc (au 19 z L)).alloc (aO ⟨#[]⟩ ⟨#[]⟩)=W0 at *
 refine wp_region_held_drew (S:=(fun W=>W.cell? ⟨v.C,8,none⟩=some (.slice la ln lcp)/\W.cell? ⟨w.heap.size,0,none⟩=some (.int .u8 19)/\W.cell? ⟨w.heap.size,1,none⟩=some (.int .i64 z))) ar ⟨d8,x0,x1⟩ (fun hHeld=>?_);exact CM
theorem oK(hA:EvA v w1)(hM:EvM v w1 m lo)(h:CI v w1 w s)(L:Value)(hq:lo[q]? =some c) :
  Calls prog 128 #[.pointer (some ⟨v.C,0,none⟩),.agg #[.int .u8 20,.int .i64 q,L]] w (Rdz w 0 (.agg #[.string (jS 20 (ltr c)),.string (jG 20 (ltr c))])):=by
 have BW:Below w.heap.size w ((w.alloc (au 20 q L)).alloc (aO ⟨#[]⟩ ⟨#[]⟩)):=((Below.refl _ _).alloc lRn _).alloc aw _;have x1:((w.alloc (au 20 q L)).alloc (aO ⟨#[]⟩ ⟨#[]⟩)).cell? ⟨w.heap.size,1,none⟩=some (.int .i64 q):=aG;have x0:((w.alloc (au 20 q L)).alloc (aO ⟨#[]⟩ ⟨#[]⟩)).cell? ⟨w.heap.size,0,none⟩=some (.int .u8 20):=aG;have y0:((w.alloc (au 20 q L)).alloc (aO ⟨#[]⟩ ⟨#[]⟩)).cell? ⟨w.heap.size+1,0,none⟩=some (.string ⟨#[]⟩):=aG;have y1:((w.alloc (au 20 q L)).alloc (aO ⟨#[]⟩ ⟨#[]⟩)).cell? ⟨w.heap.size+1,1,none⟩=some (.string ⟨#[]⟩):=aG;have z0:((w.alloc (au 20 q L)).alloc (aO ⟨#[]⟩ ⟨#[]⟩)).frozen? ⟨w.heap.size+1,0,none⟩=false:=aG;have z1:((w.alloc (au 20 q L)).alloc (aO ⟨#[]⟩ ⟨#[]⟩)).frozen? ⟨w.heap.size+1,1,none⟩=false:=aG;obtain⟨la,ln,lcp,hlv,hln,hl64,hcells⟩:=hM.lv;have hqn:q<ln:=uX
 obtain⟨lb,loff,rfl,hlS,hlc⟩:∃b off,la=some ⟨b,off,none⟩/\¬v.S b/\∀(j:Nat)x,lo[j]? =some x->w1.cell? ⟨b,off+j,none⟩=some (.int .u8 x):=by
  exact vA
 have f0:=h.kept.cell (hlc q c hq) hlS;have HF:=hid (fun W (hb:Below w.heap.size w W)=>lI (w:=W) (cap:=lcp) hqn ae (ag hb f0));have HH:=hid (fun W=>jD (w:=W) 20 c (hM.lL c (List.mem_of_getElem? hq)) ae);have c8:=h.lc;have HK:=hid h.kept.size;rw[hlv]at c8;have d8:=ag BW c8;have HB:=hid BW;clear h c8 f0 hlc hcells hq BW;generalize jS 20 (ltr c)=P at *;generalize jG 20 (ltr c)=R at *;have hCl:v.C<w.heap.size:=Nat.lt_of_lt_of_le hA.c HK.out;go_enter func128,ntmps128
 go_wp2_with fail;generalize (w.alloc (au 20 q L)).alloc (aO ⟨#[]⟩ ⟨#[]⟩)=W0 at *
 go_region_held3 (loS v.C w.heap.size 8 (.slice (some ⟨lb,loff,none⟩) ln lcp) 20 q w)
  (first | assumption | exact loS.put (loS.put bJ hCl rfl) hCl rfl | exact(loS.put (loS.put bJ hCl rfl) hCl rfl).later (below_drewN _ 1) | exact⟨d8,x0,x1,HB.out.drew⟩)
  (first
   | (go_at_call 159; refine(HF.out _ (And.right (And.right (And.right bJ)))).mono ?_; rintro e w' ⟨rfl,hbx⟩; have hS':=loS.later bJ hbx; have k0:=ag hbx (show World.cell? _ _=_ from y0); have k1:=ag hbx (show World.cell? _ _=_ from y1); have j0:=aH hbx (show World.cell? _ _=_ from y0) (show World.frozen? _ _=_ from z0); have j1:=aH hbx (show World.cell? _ _=_ from y1) (show World.frozen? _ _=_ from z1); clear hbx)
   | (go_at_call 158; refine(HH.out _).mono ?_; rintro e w'' ⟨rfl,hbx⟩; have hS'':=loS.later hS' hbx; have l0:=ag hbx k0; have l1:=ag hbx k1; have i0:=aH hbx k0 j0; have i1:=aH hbx k1 j1; clear hbx))
 exact BC
theorem kO(hA:EvA v w1)(hM:EvM v w1 m lo)(h:CI v w1 w s)(L:Value)(hz:z<0\/(lo.length:Int)<=z) :
  Calls prog 128 #[.pointer (some ⟨v.C,0,none⟩),.agg #[.int .u8 20,.int .i64 z,L]] w (Rdz w 30 (.agg #[.string ⟨#[]⟩,.string ⟨#[]⟩])):=by
 have BW:Below w.heap.size w ((w.alloc (au 20 z L)).alloc (aO ⟨#[]⟩ ⟨#[]⟩)):=((Below.refl _ _).alloc lRn _).alloc aw _;have x1:((w.alloc (au 20 z L)).alloc (aO ⟨#[]⟩ ⟨#[]⟩)).cell? ⟨w.heap.size,1,none⟩=some (.int .i64 z):=aG;have x0:((w.alloc (au 20 z L)).alloc (aO ⟨#[]⟩ ⟨#[]⟩)).cell? ⟨w.heap.size,0,none⟩=some (.int .u8 20):=aG;obtain⟨la,ln,lcp,hlv,hln,hl64,hcells⟩:=hM.lv;rw[hln]at hz;have HF:=hid (fun W=>mN (w:=W) (a:=la) (cap:=lcp) hz ae);have c8:=h.lc;rw[hlv]at c8;have d8:=ag BW c8;have HB:=hid BW;clear h c8 hcells BW;go_enter func128,ntmps128
 go_wp2_with fail;generalize (w.alloc (au 20 z L)).alloc (aO ⟨#[]⟩ ⟨#[]⟩)=W0 at *
 refine wp_region_held_drew (S:=(fun W=>W.cell? ⟨v.C,8,none⟩=some (.slice la ln lcp)/\W.cell? ⟨w.heap.size,0,none⟩=some (.int .u8 20)/\W.cell? ⟨w.heap.size,1,none⟩=some (.int .i64 z))) ar ⟨d8,x0,x1⟩ (fun hHeld=>?_);exact CM
end
end Go.Proofs.YtepcmfegggdjfaaGreatDoor
