/-
  Texts Wz.
-/
import Derived.Test.YtheefojaplnnoaaGreatDoorY00
import Derived.Test.YtheefojaplnnoaaGreatDoorY15
import Derived.Test.YtheefojaplnnoaaGreatDoorY16
import Derived.Test.YtheefojaplnnoaaGreatDoorY18
set_option linter.unusedVariables false
set_option maxRecDepth 100000
set_option maxHeartbeats 16000000
namespace Go.Proofs.YtheefojaplnnoaaGreatDoor
open Go.RowKit
structure MM where
 ta:Option Addr
 tn:Nat
 tc:Nat
 types:List Sg
 ha:Option Addr
 hn:Nat
 hc:Nat
 hosts:List Int
 ga:Option Addr
 gn:Nat
 gc:Nat
 globals:List Gl
 fi:Int
 mo:Int
 fa:Option Addr
 fn:Nat
 fc:Nat
 fns:List FuM
 da:Option Addr
 dn:Nat
 dc:Nat
 data:List DaM
 ea:Option Addr
 en:Nat
 ec:Nat
 exps:List Ex
def Far(w:World)(R g:Nat)(a:Option Addr):Prop:=∀b off c,a=some ⟨b,off,c⟩→b≠R∧b≠g∧b<w.heap.size
theorem Far.nz{w:World}{R g:Nat}{a:Option Addr}(h:Far w R g a)(n:Nat):Far w R g (nz n a):=fun b off c hb=>h b off c (ve hb)
theorem Far.at{w W:World}{R g g1:Nat}{a:Option Addr}(h:Far w R g a)(hs:Stp R g g1 w W):∀b off c,a=some ⟨b,off,c⟩→b≠R∧b≠g1:=fun b off c hb=>⟨(h b off c hb).1,hs.ne (h b off c hb).2.2 (h b off c hb).2.1⟩
theorem Far.not{w:World}{R g:Nat}{a:Option Addr}(h:Far w R g a):∀b off c,a=some ⟨b,off,c⟩→¬(b=R∨b=g):=fun b off c hb=>by have:=h b off c hb; omega
structure MOk(w:World)(R g:Nat)(m:MM):Prop where
 pt:jf w m.ta m.tn m.types
 tf:Far w R g m.ta
 ph:mB w m.ha m.hn m.hosts
 hf:Far w R g m.ha
 hr:∀(j:Nat)x,m.hosts[j]? =some x→-9223372036854775808≤x∧x<9223372036854775808
 pg:pL w m.ga m.gn m.globals
 gf:Far w R g m.ga
 gr:∀(j:Nat)x,m.globals[j]? =some x→0≤x.1∧x.1≤255∧0≤x.2.2∧x.2.2<18446744073709551616
 i0:-9223372036854775808≤m.fi
 i1:m.fi<9223372036854775808
 o0:-9223372036854775808≤m.mo
 o1:m.mo<9223372036854775808
 pf:oq w m.fa m.fn m.fns
 ff:Far w R g m.fa
 fr:∀(j:Nat)x,m.fns[j]? =some x→(-9223372036854775808≤x.1∧x.1<9223372036854775808)∧AtIn w x.2.2.1.1 x.2.2.1.2.1 x.2.2.2∧Far w R g (nz x.2.2.1.2.1 x.2.2.1.1)∧∀(i:Nat)y,x.2.2.2[i]? =some y→0≤y.1∧y.1≤255∧jK w y.2.2.1.1 y.2.2.1.2.1 y.2.2.1.2.2 y.2.2.2∧Far w R g (nz y.2.2.1.2.1 y.2.2.1.1)
 pd:pF w m.da m.dn m.data
 df:Far w R g m.da
 dr:∀(j:Nat)x,m.data[j]? =some x→(-9223372036854775808≤x.1∧x.1<9223372036854775808)∧Seg w x.2.1.1 x.2.1.2.1 x.2.1.2.2 x.2.2∧Far w R g (nz x.2.1.2.1 x.2.1.1)
 pe:pB w m.ea m.en m.exps
 ef:Far w R g m.ea
 er:∀(j:Nat)x,m.exps[j]? =some x→-9223372036854775808≤x.2∧x.2<9223372036854775808
def e1(m:MM):Int:=bB cQ 64 m.types
def e2(m:MM):Int:=bB (fun(_:List Int) x=>dw m.tn x) 32 m.hosts
def e3(m:MM):Int:=bB (fun(_:List Gl) x=>gH x) 64 m.globals
def e4(m:MM):Int:=jh 0 m.fi
def e5(m:MM):Int:=jh m.fi m.mo
def e6(m:MM):Int:=bB (fH m.types) 128 m.fns
def e7(m:MM):Int:=bB (fun(ah:List DaM) x=>cX (m.fi*4096) ah x) 64 m.data
def e8(m:MM):Int:=bB (fun(ah:List Ex) x=>fk m.fn ah x) 64 m.exps
def fP(m:MM):Int:=orE (e1 m) (orE (e2 m) (orE (e3 m) (orE (e4 m) (orE (e5 m) (orE (e6 m) (orE (e7 m) (e8 m)))))))
def gF(m:MM):List Int:=(ax m.tn++m.types.flatMap bK)++((ax m.hn++m.hosts.flatMap (fun x=>ax x))++((ax m.gn++m.globals.flatMap cT)++(ax m.fi++(ax m.mo++((ax m.fn++m.fns.flatMap cK)++((ax m.dn++m.data.flatMap cN)++(ax m.en++m.exps.flatMap eA)))))))
def mV(m:MM):Array Value:=#[.slice m.ta m.tn m.tc,.slice m.ha m.hn m.hc,.slice m.ga m.gn m.gc,.int .i64 m.fi,.int .i64 m.mo,.slice m.fa m.fn m.fc,.slice m.da m.dn m.dc,.slice m.ea m.en m.ec]
def zV:Array Value:=#[.slice none 0 0,.slice none 0 0,.slice none 0 0,.int .i64 0,.int .i64 0,.slice none 0 0,.slice none 0 0,.slice none 0 0]
theorem jl{a b:Int}(h:a≠0):orE a b=a:=by simp[orE,h]
theorem aV{a b:Int}(h:a=0):orE a b=b:=by simp[orE,h]
structure Sta(w W:World)(R g g1:Nat)(mv ov:Array Value):Prop where
 s:Stp R g g1 w W
 z:w.heap.size+1+1+1<W.heap.size
 c0:W.cell? ⟨w.heap.size,0,none⟩=some (cW R)
 mb:W.heap[w.heap.size+1]? =some (.cells mv 29)
 rb:W.heap[w.heap.size+1+1]? =some (.cells zV 29)
 ob:W.heap[w.heap.size+1+1+1]? =some (.cells ov 29)
 n0:w.heap.size≠g1
 n1:w.heap.size+1≠g1
 n2:w.heap.size+1+1≠g1
 n3:w.heap.size+1+1+1≠g1
theorem Sta.step{w W W':World}{R g g1 g2:Nat}{mv ov:Array Value}(h:Sta w W R g g1 mv ov)(hR:R<w.heap.size)(hs:Stp R g1 g2 W W'):Sta w W' R g g2 mv ov:=by
 have hz:=h.z;exact⟨h.s.trans hs,Nat.lt_of_lt_of_le hz hs.size,hs.cell h.c0 ae h.n0,(hs.block ae ae h.n1).trans h.mb,(hs.block ae ae h.n2).trans h.rb,(hs.block ae ae h.n3).trans h.ob,hs.ne ae h.n0,hs.ne ae h.n1,hs.ne ae h.n2,hs.ne ae h.n3⟩
theorem Sta.set{w W:World}{R g g1:Nat}{mv ov:Array Value}(h:Sta w W R g g1 mv ov){i:Nat}{v:Value}(hi:i<ov.size):Sta w (W.setCell ⟨w.heap.size+1+1+1,i,none⟩ v) R g g1 mv (ov.setIfInBounds i v):=by
 have hk:=aw W (w.heap.size+1+1+1) i v;have hz:=h.z;exact⟨h.s.set ae,Nat.lt_of_lt_of_le hz hk.size,hk.cell h.c0 ae,(hk.block _ ae ae).trans h.mb,(hk.block _ ae ae).trans h.rb,ma h.ob hi,h.n0,h.n1,h.n2,h.n3⟩
def W86(w:World)(R:Nat)(m:MM):World:=(((w.alloc (cE (cW R))).alloc (.cells (mV m) 29)).alloc (.cells zV 29)).alloc (.cells zV 29)
theorem NR(w:World)(R g cap:Nat)(bs:List Int)(m:MM)(h:Wr w R g cap bs):Sta w (W86 w R m) R g g (mV m) zV∧Below w.heap.size w (W86 w R m):=by
 have hgl:=h.g_lt;have B:Below w.heap.size w (W86 w R m):=((((Below.refl _ w).alloc (Nat.le_refl _) _).alloc ar _).alloc bu _).alloc bu _
 refine⟨⟨Stp.of_below B,by simp[W86],?_,?_,?_,?_,ae,ae,ae,ae⟩,B⟩
 ·simp[W86,go_sem]
 ·unfold W86;rw[(ag (((w.alloc (cE (cW R))).alloc (.cells (mV m) 29)).alloc (.cells zV 29)) _).block (w.heap.size+1) bu,(ag ((w.alloc (cE (cW R))).alloc (.cells (mV m) 29)) _).block (w.heap.size+1) ar]
  have:=(MapKept.heap_alloc (w.alloc (cE (cW R))) (.cells (mV m) 29)).1
  exact bJ
 ·unfold W86;rw[(ag (((w.alloc (cE (cW R))).alloc (.cells (mV m) 29)).alloc (.cells zV 29)) _).block (w.heap.size+1+1) ar]
  have:=(MapKept.heap_alloc ((w.alloc (cE (cW R))).alloc (.cells (mV m) 29)) (.cells zV 29)).1
  exact bJ
 ·unfold W86
  have:=(MapKept.heap_alloc (((w.alloc (cE (cW R))).alloc (.cells (mV m) 29)).alloc (.cells zV 29)) (.cells zV 29)).1
  exact bJ
theorem jC{α:Type}{f:List α→α→Int}{most:Int}{xs:List α}{enc:α→List Int}{M:Nat}(h:bB f most xs=0)(hM:∀ah x,f ah x=0→(enc x).length≤M):(xs.length:Int)≤most∧(xs.flatMap enc).length≤xs.length*M:=by
 unfold bB at h
 split at h
 ·cases h
 ·exact⟨ae,dI enc M xs (fun j x hj=>hM _ x (bp f xs [] h j x hj))⟩
theorem Stp.transL{R L g g1 g2:Nat}{w W W':World}(h:Stp R g g1 w W)(h':fy R L g1 g2 W W')(hL:w.heap.size≤L):Stp R g g2 w W':=by
 refine⟨h.k.then h'.k (fun k hk ht=>?_),?_⟩
 ·rcases ht with rfl | rfl | rfl
  ·exact .inl rfl
  ·exact qL
  ·omega
 ·exact xe
theorem Sta.stepL{w W W':World}{R L g g1 g2:Nat}{mv ov:Array Value}(h:Sta w W R g g1 mv ov)(hR:R<w.heap.size)(hs:fy R L g1 g2 W W')(hL:w.heap.size+1+1+1<L):Sta w W' R g g2 mv ov:=by
 have hz:=h.z;exact⟨h.s.transL hs ae,Nat.lt_of_lt_of_le hz hs.size,hs.cell h.c0 ae h.n0 ae,(hs.block ae ae h.n1 ae).trans h.mb,(hs.block ae ae h.n2 ae).trans h.rb,(hs.block ae ae h.n3 ae).trans h.ob,hs.ne ae h.n0,hs.ne ae h.n1,hs.ne ae h.n2,hs.ne ae h.n3⟩
theorem Stp.throwL{R L g g1:Nat}{w W w5:World}(h:Stp R g g1 w W)(hk:Kept (fun k=>k=R∨k=g1∨k=L) W w5)(hL:w.heap.size≤L):Kept (fun k=>k=R∨k=g) w w5:=by
 refine h.k.then hk (fun k hkl hh=>?_)
 rcases hh with rfl | rfl | rfl
 ·exact .inl rfl
 ·exact qL
 ·omega
theorem Iw(R g cap:Nat)(bs:List Int)(m:MM)(w:World)(h:Wr w R g cap bs)(hb:bs.length≤1000)(hR0:R≠0)(hg0:g≠0)(hk:aP w)(hm:MOk w R g m) :
  Calls Tryz.prog 86 #[cW R,.agg (mV m)] w fun e w'=>(fP m=0→∃v,e=.returned v∧∃g' cap',Wr w' R g' cap' (bs++gF m)∧Kept (fun k=>k=R∨k=g) w w')∧(fP m≠0→(∃p,e=thr (fP m) p)∧Kept (fun k=>k=R∨k=g) w w'):=by
 have hRl:=h.lt;have hgl:=h.g_lt;obtain⟨T1,B1⟩:=NR w R g cap bs m h;have HW:(((w.alloc (cE (cW R))).alloc (.cells (mV m) 29)).alloc (.cells zV 29)).alloc (.cells zV 29)=W86 w R m:=rfl;have V1:=hid (h.later B1);generalize W86 w R m=W1 at *;have TT:=hid T1;have HM:=hid hm;have HK:=hid hk;obtain⟨⟨m0,m1,m2,m3,m4,m5,m6,m7⟩,_⟩:=av T1.mb;have c0:=T1.c0;clear h hm hk T1;unfold mV zV at HW
 show Calls Tryz.prog 86 #[cW R,.agg #[.slice m.ta m.tn m.tc,.slice m.ha m.hn m.hc,.slice m.ga m.gn m.gc,.int .i64 m.fi,.int .i64 m.mo,.slice m.fa m.fn m.fc,.slice m.da m.dn m.dc,.slice m.ea m.en m.ec]] w _
 go_enter Tryz.func86,Tryz.ntmps86
 go_wp2_with fail
 by_cases E1:e1 m=0
 rotate_left
 ·have hcw:fP m=e1 m:=by unfold fP; exact jl E1
  refine(Ha R g cap bs m.ta m.tn m.tc w.heap.size W1 m.types V1.out ae c0 ae ae (HM.out.pt.kept TT.out.s.k HM.out.tf.not) (HM.out.tf.at TT.out.s) E1).mono ?_;rintro e w' ⟨⟨q,rfl⟩,hk'⟩
  refine⟨rfl,fun h0=>absurd (hcw.symm.trans h0) E1,fun _=>⟨⟨q,?_⟩,TT.out.s.throw hk'⟩⟩
  rw[hcw];rfl
 have L1:=jC (enc:=bK) (M:=36) E1 (fun ah x hx=>by have:=gp hx; exact jH x this.1 this.2.2.1)
 have l1:=HM.out.pt.1
 have hp8:Hid (∀(t:Nat)p r,m.types[t]? =some (p,r)→p.size≤8):=fun t p r ht=>by
  have h1:aU cQ [] m.types=0:=by
   have:=E1
   unfold e1 bB at this
   split at this
   ·cases this
   ·exact this
  exact(gp (bp cQ m.types [] h1 t (p,r) ht)).1
 have u1:=aG (m.tn:Int);refine(E9 R g cap bs m.ta m.tn m.tc w.heap.size W1 m.types V1.out ae c0 ae ae (HM.out.pt.kept TT.out.s.k HM.out.tf.not) (HM.out.tf.at TT.out.s) E1).mono ?_;rintro e w2⟨ta',tc',rfl,hsig,g2,cap2,hab2,hw2,hs2⟩;have T1:=TT;have Tq:=T1.out.step hRl hs2;obtain⟨⟨o0,o1,o2,o3,o4,o5,o6,o7⟩,⟨f0,f1,f2,f3,f4,f5,f6,f7⟩⟩:=av Tq.ob;obtain⟨⟨m0',m1',m2',m3',m4',m5',m6',m7'⟩,_⟩:=av Tq.mb;have hzq:=Tq.z;obtain⟨W2,hW2⟩:∃W',w2.setCell ⟨w.heap.size+1+1+1,0,none⟩ (.slice ta' m.tn tc')=W':=⟨_,rfl⟩
 have T2:=hid (show Sta w W2 R g g2 (mV m) #[.slice ta' m.tn tc',.slice none 0 0,.slice none 0 0,.int .i64 0,.int .i64 0,.slice none 0 0,.slice none 0 0,.slice none 0 0] by rw[← hW2]; exact Tq.set (i:=0) (v:=.slice ta' m.tn tc') (by simp[zV]))
 have V2:=hid (show Wr W2 R g2 cap2 (bs++(ax m.tn++m.types.flatMap bK)) by rw[← hW2]; exact hw2.set ae Tq.n3)
 have hlt2:(bs++(ax m.tn++m.types.flatMap bK)).length≤4000:=mO
 have G2:=hid (show b9 W2 ta' m.tn m.types by rw[← hW2]; exact hsig.kept (aw _ _ _ _) (fun b off c hb'=>by have q1:=(hab2 _ hb').1; have q2:=TT.out.z; simp only at q1; omega))
 have F2:=hid (show ∀b off c,ta'=some ⟨b,off,c⟩→w.heap.size+1+1+1<b∧b≠g2∧b<W2.heap.size from fun b off c hb'=>by
  have q1:=(hab2 _ hb').1;have q2:=(hab2 _ hb').2;have q3:=TT.out.z;have q4:=(aw w2 (w.heap.size+1+1+1) 0 (.slice ta' m.tn tc')).size;rw[hW2]at q4
  simp only at q1 q2
  exact⟨ae,q2.1,ae⟩)
 clear hsig hab2;clear m0 m1 m2 m3 m4 m5 m6 m7 hw2 hs2 c0;obtain⟨⟨m0,m1,m2,m3,m4,m5,m6,m7⟩,_⟩:=av T2.out.mb;have c0:=T2.out.c0;have p0:=(av T2.out.ob).1;obtain⟨p0,p1,p2,p3,p4,p5,p6,p7⟩:=p0;go_wp2_with fail;clear Tq o0 o1 o2 o3 o4 o5 o6 o7 f0 f1 f2 f3 f4 f5 f6 f7 m0' m1' m2' m3' m4' m5' m6' m7' hzq hW2
 by_cases E2:e2 m=0
 rotate_left
 ·have hcw:fP m=e2 m:=by unfold fP; rw[aV E1]; exact jl E2
  refine(JK R g2 cap2 _ m.ha m.hn m.hc w.heap.size W2 (w.heap.size+1+1+1) ta' m.tn tc' m.hosts V2.out ae c0 ae T2.out.n0 p0 ae T2.out.n3 ae HM.out.hr (HM.out.ph.kept T2.out.s.k HM.out.hf.not) (HM.out.hf.at T2.out.s) E2).mono ?_;rintro e w' ⟨⟨q,rfl⟩,hk'⟩
  refine⟨rfl,fun h0=>absurd (hcw.symm.trans h0) E2,fun _=>⟨⟨q,?_⟩,T2.out.s.throw hk'⟩⟩
  rw[hcw];rfl
 have L2:=jC (enc:=fun x=>ax x) (M:=10) E2 (fun ah x hx=>(aG x).2)
 have l2:=HM.out.ph.1;have u2:=aG (m.hn:Int);refine(Fq R g2 cap2 _ m.ha m.hn m.hc w.heap.size W2 (w.heap.size+1+1+1) ta' m.tn tc' m.hosts V2.out ae c0 ae T2.out.n0 p0 ae T2.out.n3 ae HM.out.hr (HM.out.ph.kept T2.out.s.k HM.out.hf.not) (HM.out.hf.at T2.out.s) E2).mono ?_;rintro e w3⟨ha',hc',ys3,rfl,_,_,g3,cap3,hw3,hs3⟩;have Tq:=T2.out.step hRl hs3;obtain⟨⟨o0,o1,o2,o3,o4,o5,o6,o7⟩,⟨f0,f1,f2,f3,f4,f5,f6,f7⟩⟩:=av Tq.ob;obtain⟨⟨m0',m1',m2',m3',m4',m5',m6',m7'⟩,_⟩:=av Tq.mb;have hzq:=Tq.z;obtain⟨W3,hW3⟩:∃W',w3.setCell ⟨w.heap.size+1+1+1,1,none⟩ (.slice ha' m.hn hc')=W':=⟨_,rfl⟩
 have T3:=hid (show Sta w W3 R g g3 (mV m) #[.slice ta' m.tn tc',.slice ha' m.hn hc',.slice none 0 0,.int .i64 0,.int .i64 0,.slice none 0 0,.slice none 0 0,.slice none 0 0] by rw[← hW3]; exact Tq.set (i:=1) (v:=.slice ha' m.hn hc') ar)
 have V3:=hid (show Wr W3 R g3 cap3 (bs++(ax m.tn++m.types.flatMap bK)++(ax m.hn++m.hosts.flatMap (fun x=>ax x))) by rw[← hW3]; exact hw3.set ae Tq.n3)
 have hlt3:(bs++(ax m.tn++m.types.flatMap bK)++(ax m.hn++m.hosts.flatMap (fun x=>ax x))).length≤5000:=mO
 have G3:=hid (show b9 W3 ta' m.tn m.types by
  have q:=G2.out.kept hs3.k (fun b off c hb'=>by have:=F2.out b off c hb'; have:=hRl; simp; omega)
  rw[← hW3]
  exact q.kept (aw _ _ _ _) (fun b off c hb'=>by have:=F2.out b off c hb'; omega))
 have F3:=hid (show ∀b off c,ta'=some ⟨b,off,c⟩→w.heap.size+1+1+1<b∧b≠g3∧b<W3.heap.size from fun b off c hb'=>by
  have q:=F2.out b off c hb';have q1:=hs3.size;have q4:=(aw w3 (w.heap.size+1+1+1) 1 (.slice ha' m.hn hc')).size;rw[hW3]at q4;exact⟨q.1,hs3.ne q.2.2 q.2.1,ae⟩)
 clear m0 m1 m2 m3 m4 m5 m6 m7 hw3 hs3 c0;obtain⟨⟨m0,m1,m2,m3,m4,m5,m6,m7⟩,_⟩:=av T3.out.mb;have c0:=T3.out.c0;have p0:=(av T3.out.ob).1;obtain⟨p0,p1,p2,p3,p4,p5,p6,p7⟩:=p0;go_wp2_with fail;clear Tq o0 o1 o2 o3 o4 o5 o6 o7 f0 f1 f2 f3 f4 f5 f6 f7 m0' m1' m2' m3' m4' m5' m6' m7' hzq hW3
 by_cases E3:e3 m=0
 rotate_left
 ·have hcw:fP m=e3 m:=by unfold fP; rw[aV E1]; rw[aV E2]; exact jl E3
  refine(AR R g3 cap3 _ m.ga m.gn m.gc w.heap.size W3 m.globals V3.out ae c0 ae T3.out.n0 HM.out.gr (HM.out.pg.kept T3.out.s.k HM.out.gf.not) (HM.out.gf.at T3.out.s) E3).mono ?_;rintro e w' ⟨⟨q,rfl⟩,hk'⟩
  refine⟨rfl,fun h0=>absurd (hcw.symm.trans h0) E3,fun _=>⟨⟨q,?_⟩,T3.out.s.throw hk'⟩⟩
  rw[hcw];rfl
 have L3:=jC (enc:=cT) (M:=12) E3 (fun ah x hx=>ot x)
 have l3:=HM.out.pg.1;have u3:=aG (m.gn:Int);refine(yV R g3 cap3 _ m.ga m.gn m.gc w.heap.size W3 m.globals V3.out ae c0 ae T3.out.n0 HM.out.gr (HM.out.pg.kept T3.out.s.k HM.out.gf.not) (HM.out.gf.at T3.out.s) E3).mono ?_;rintro e w4⟨ga',gc',ys4,rfl,_,_,g4,cap4,hw4,hs4⟩;have Tq:=T3.out.step hRl hs4;obtain⟨⟨o0,o1,o2,o3,o4,o5,o6,o7⟩,⟨f0,f1,f2,f3,f4,f5,f6,f7⟩⟩:=av Tq.ob;obtain⟨⟨m0',m1',m2',m3',m4',m5',m6',m7'⟩,_⟩:=av Tq.mb;have hzq:=Tq.z;obtain⟨W4,hW4⟩:∃W',w4.setCell ⟨w.heap.size+1+1+1,2,none⟩ (.slice ga' m.gn gc')=W':=⟨_,rfl⟩
 have T4:=hid (show Sta w W4 R g g4 (mV m) #[.slice ta' m.tn tc',.slice ha' m.hn hc',.slice ga' m.gn gc',.int .i64 0,.int .i64 0,.slice none 0 0,.slice none 0 0,.slice none 0 0] by rw[← hW4]; exact Tq.set (i:=2) (v:=.slice ga' m.gn gc') ar)
 have V4:=hid (show Wr W4 R g4 cap4 (bs++(ax m.tn++m.types.flatMap bK)++(ax m.hn++m.hosts.flatMap (fun x=>ax x))++(ax m.gn++m.globals.flatMap cT)) by rw[← hW4]; exact hw4.set ae Tq.n3)
 have hlt4:(bs++(ax m.tn++m.types.flatMap bK)++(ax m.hn++m.hosts.flatMap (fun x=>ax x))++(ax m.gn++m.globals.flatMap cT)).length≤6000:=mO
 have G4:=hid (show b9 W4 ta' m.tn m.types by
  have q:=G3.out.kept hs4.k (fun b off c hb'=>by have:=F3.out b off c hb'; have:=hRl; simp; omega)
  rw[← hW4]
  exact q.kept (aw _ _ _ _) (fun b off c hb'=>by have:=F3.out b off c hb'; omega))
 have F4:=hid (show ∀b off c,ta'=some ⟨b,off,c⟩→w.heap.size+1+1+1<b∧b≠g4∧b<W4.heap.size from fun b off c hb'=>by
  have q:=F3.out b off c hb';have q1:=hs4.size;have q4:=(aw w4 (w.heap.size+1+1+1) 2 (.slice ga' m.gn gc')).size;rw[hW4]at q4;exact⟨q.1,hs4.ne q.2.2 q.2.1,ae⟩)
 clear m0 m1 m2 m3 m4 m5 m6 m7 hw4 hs4 c0;obtain⟨⟨m0,m1,m2,m3,m4,m5,m6,m7⟩,_⟩:=av T4.out.mb;have c0:=T4.out.c0;have p0:=(av T4.out.ob).1;obtain⟨p0,p1,p2,p3,p4,p5,p6,p7⟩:=p0;go_wp2_with fail;clear Tq o0 o1 o2 o3 o4 o5 o6 o7 f0 f1 f2 f3 f4 f5 f6 f7 m0' m1' m2' m3' m4' m5' m6' m7' hzq hW4
 by_cases E4:e4 m=0
 rotate_left
 ·have hcw:fP m=e4 m:=by unfold fP; rw[aV E1]; rw[aV E2]; rw[aV E3]; exact jl E4
  have hbad:m.fi<0∨64<m.fi:=by
   apply Classical.byContradiction
   intro hq
   exact E4 (by unfold e4 jh; exact if_neg hq)
  have h17:e4 m=17:=by unfold e4 jh; exact if_pos hbad
  refine(p8 R g4 cap4 _ m.fi 0 W4 V4.out HM.out.i0 HM.out.i1 hbad ae ae).mono ?_;rintro e w' ⟨⟨q,rfl⟩,hk'⟩
  refine⟨rfl,fun h0=>absurd (hcw.symm.trans h0) E4,fun _=>⟨⟨q,?_⟩,T4.out.s.throw hk'⟩⟩
  rw[hcw,h17];rfl
 have R4:0≤m.fi∧m.fi≤64:=by
  have hq:=E4;unfold e4 jh at hq
  split at hq
  ·cases hq
  ·omega
 have u4:=aG (m.fi);refine(oH R g4 cap4 _ m.fi 0 W4 V4.out ae ae R4.1 R4.2).mono ?_;rintro e w5⟨rfl,g5,cap5,hw5,hs5⟩;have Tq:=T4.out.step hRl hs5;obtain⟨⟨o0,o1,o2,o3,o4,o5,o6,o7⟩,⟨f0,f1,f2,f3,f4,f5,f6,f7⟩⟩:=av Tq.ob;obtain⟨⟨m0',m1',m2',m3',m4',m5',m6',m7'⟩,_⟩:=av Tq.mb;have hzq:=Tq.z;obtain⟨W5,hW5⟩:∃W',w5.setCell ⟨w.heap.size+1+1+1,3,none⟩ (.int .i64 m.fi)=W':=⟨_,rfl⟩
 have T5:=hid (show Sta w W5 R g g5 (mV m) #[.slice ta' m.tn tc',.slice ha' m.hn hc',.slice ga' m.gn gc',.int .i64 m.fi,.int .i64 0,.slice none 0 0,.slice none 0 0,.slice none 0 0] by rw[← hW5]; exact Tq.set (i:=3) (v:=.int .i64 m.fi) ar)
 have V5:=hid (show Wr W5 R g5 cap5 (bs++(ax m.tn++m.types.flatMap bK)++(ax m.hn++m.hosts.flatMap (fun x=>ax x))++(ax m.gn++m.globals.flatMap cT)++ax m.fi) by rw[← hW5]; exact hw5.set ae Tq.n3)
 have hlt5:(bs++(ax m.tn++m.types.flatMap bK)++(ax m.hn++m.hosts.flatMap (fun x=>ax x))++(ax m.gn++m.globals.flatMap cT)++ax m.fi).length≤6100:=mO
 have G5:=hid (show b9 W5 ta' m.tn m.types by
  have q:=G4.out.kept hs5.k (fun b off c hb'=>by have:=F4.out b off c hb'; have:=hRl; simp; omega)
  rw[← hW5]
  exact q.kept (aw _ _ _ _) (fun b off c hb'=>by have:=F4.out b off c hb'; omega))
 have F5:=hid (show ∀b off c,ta'=some ⟨b,off,c⟩→w.heap.size+1+1+1<b∧b≠g5∧b<W5.heap.size from fun b off c hb'=>by
  have q:=F4.out b off c hb';have q1:=hs5.size;have q4:=(aw w5 (w.heap.size+1+1+1) 3 (.int .i64 m.fi)).size;rw[hW5]at q4;exact⟨q.1,hs5.ne q.2.2 q.2.1,ae⟩)
 clear m0 m1 m2 m3 m4 m5 m6 m7 hw5 hs5 c0;obtain⟨⟨m0,m1,m2,m3,m4,m5,m6,m7⟩,_⟩:=av T5.out.mb;have c0:=T5.out.c0;have p0:=(av T5.out.ob).1;obtain⟨p0,p1,p2,p3,p4,p5,p6,p7⟩:=p0;go_wp2_with fail;clear Tq o0 o1 o2 o3 o4 o5 o6 o7 f0 f1 f2 f3 f4 f5 f6 f7 m0' m1' m2' m3' m4' m5' m6' m7' hzq hW5
 by_cases E5:e5 m=0
 rotate_left
 ·have hcw:fP m=e5 m:=by unfold fP; rw[aV E1]; rw[aV E2]; rw[aV E3]; rw[aV E4]; exact jl E5
  have hbad:m.mo<m.fi∨64<m.mo:=by
   apply Classical.byContradiction
   intro hq
   exact E5 (by unfold e5 jh; exact if_neg hq)
  have h17:e5 m=17:=by unfold e5 jh; exact if_pos hbad
  refine(p8 R g5 cap5 _ m.mo m.fi W5 V5.out HM.out.o0 HM.out.o1 hbad ae ae).mono ?_;rintro e w' ⟨⟨q,rfl⟩,hk'⟩
  refine⟨rfl,fun h0=>absurd (hcw.symm.trans h0) E5,fun _=>⟨⟨q,?_⟩,T5.out.s.throw hk'⟩⟩
  rw[hcw,h17];rfl
 have R5:m.fi≤m.mo∧m.mo≤64:=by
  have hq:=E5;unfold e5 jh at hq
  split at hq
  ·cases hq
  ·omega
 have u5:=aG (m.mo);refine(oH R g5 cap5 _ m.mo m.fi W5 V5.out ae ae R5.1 R5.2).mono ?_;rintro e w6⟨rfl,g6,cap6,hw6,hs6⟩;have Tq:=T5.out.step hRl hs6;obtain⟨⟨o0,o1,o2,o3,o4,o5,o6,o7⟩,⟨f0,f1,f2,f3,f4,f5,f6,f7⟩⟩:=av Tq.ob;obtain⟨⟨m0',m1',m2',m3',m4',m5',m6',m7'⟩,_⟩:=av Tq.mb;have hzq:=Tq.z;obtain⟨W6,hW6⟩:∃W',w6.setCell ⟨w.heap.size+1+1+1,4,none⟩ (.int .i64 m.mo)=W':=⟨_,rfl⟩
 have T6:=hid (show Sta w W6 R g g6 (mV m) #[.slice ta' m.tn tc',.slice ha' m.hn hc',.slice ga' m.gn gc',.int .i64 m.fi,.int .i64 m.mo,.slice none 0 0,.slice none 0 0,.slice none 0 0] by rw[← hW6]; exact Tq.set (i:=4) (v:=.int .i64 m.mo) ar)
 have V6:=hid (show Wr W6 R g6 cap6 (bs++(ax m.tn++m.types.flatMap bK)++(ax m.hn++m.hosts.flatMap (fun x=>ax x))++(ax m.gn++m.globals.flatMap cT)++ax m.fi++ax m.mo) by rw[← hW6]; exact hw6.set ae Tq.n3)
 have hlt6:(bs++(ax m.tn++m.types.flatMap bK)++(ax m.hn++m.hosts.flatMap (fun x=>ax x))++(ax m.gn++m.globals.flatMap cT)++ax m.fi++ax m.mo).length≤6200:=mO
 have G6:=hid (show b9 W6 ta' m.tn m.types by
  have q:=G5.out.kept hs6.k (fun b off c hb'=>by have:=F5.out b off c hb'; have:=hRl; simp; omega)
  rw[← hW6]
  exact q.kept (aw _ _ _ _) (fun b off c hb'=>by have:=F5.out b off c hb'; omega))
 have F6:=hid (show ∀b off c,ta'=some ⟨b,off,c⟩→w.heap.size+1+1+1<b∧b≠g6∧b<W6.heap.size from fun b off c hb'=>by
  have q:=F5.out b off c hb';have q1:=hs6.size;have q4:=(aw w6 (w.heap.size+1+1+1) 4 (.int .i64 m.mo)).size;rw[hW6]at q4;exact⟨q.1,hs6.ne q.2.2 q.2.1,ae⟩)
 obtain⟨WL,hWL⟩:∃WL,W6.alloc (bq 16384)=WL:=⟨_,rfl⟩
 have BL:Below W6.heap.size W6 WL:=by rw[← hWL]; exact ag _ _
 have zL:WL.heap.size=W6.heap.size+1:=by rw[← hWL]; simp
 have TL:=hid (T6.out.step hRl (Stp.of_below BL));have VL:=hid (V6.out.later BL);have GL:=hid (G6.out.later BL)
 have LL:=hid (show LAt WL W6.heap.size 16384 by rw[← hWL]; exact⟨eB _ _ _,cg⟩)
 have z6:=T6.out.z;clear m0 m1 m2 m3 m4 m5 m6 m7 hw6 hs6 c0;obtain⟨⟨m0,m1,m2,m3,m4,m5,m6,m7⟩,_⟩:=av TL.out.mb;have c0:=TL.out.c0;have p0:=(av TL.out.ob).1;obtain⟨p0,p1,p2,p3,p4,p5,p6,p7⟩:=p0;go_wp2_with fail;clear Tq o0 o1 o2 o3 o4 o5 o6 o7 f0 f1 f2 f3 f4 f5 f6 f7 m0' m1' m2' m3' m4' m5' m6' m7' hzq hW6 hWL BL;have hgg:g6≠0:=Ne.symm (TL.out.s.ne ae (Ne.symm hg0));have hkL:=hid (HK.out.kept TL.out.s.k aI)
 have hokL:Hid (∀(j:Nat)x,m.fns[j]? =some x→IM WL R g6 W6.heap.size x):=fun j x hj=>by
  obtain⟨⟨r0,r1⟩,hmem,hfar,hins⟩:=HM.out.fr j x hj;have hz:=TL.out.s.size
  refine⟨r0,r1,hmem.kept TL.out.s.k hfar.not,fun b off c hb'=>?_,fun b off c hb'=>?_,fun i y hi=>?_,fun i y hi b off c hb'=>?_⟩
  ·have q:=hfar b off c hb';have q2:=hfar.at TL.out.s b off c hb';exact⟨q2.1,q2.2,ae⟩
  ·have q:=hfar b off c hb';omega
  ·obtain⟨y0,y1,ysg,yfar⟩:=hins i y hi;exact⟨y0,y1,ysg.kept' TL.out.s.k yfar.not,yfar.at TL.out.s⟩
  ·obtain⟨y0,y1,ysg,yfar⟩:=hins i y hi;have q:=yfar b off c hb';omega
 by_cases E6:e6 m=0
 rotate_left
 ·have hcw:fP m=e6 m:=by unfold fP; rw[aV E1]; rw[aV E2]; rw[aV E3]; rw[aV E4]; rw[aV E5]; exact jl E6
  by_cases hfn:m.fn≤1000
  ·refine(OB R g6 cap6 _ m.fn w.heap.size (w.heap.size+1+1+1) W6.heap.size ta' m.tn tc' m.types WL m.fns VL.out ae hfn hR0 hgg hkL.out ae c0 ae TL.out.n0 ae p0 ae TL.out.n3 ae ae GL.out (fun b off c hb'=>DY) (fun b off c hb'=>by have q:=F6.out b off c hb'; omega) hp8.out ae CX hokL.out HM.out.pf.1 m.fa m.fc LL.out (HM.out.pf.kept TL.out.s.k HM.out.ff.not) (fun b off c hb'=>Dq) E6).mono ?_
   rintro e w' ⟨⟨q,rfl⟩,hk'⟩
   refine⟨rfl,fun h0=>absurd (hcw.symm.trans h0) E6,fun _=>⟨⟨q,?_⟩,TL.out.s.throwL hk' ae⟩⟩
   rw[hcw];rfl
  ·have hmany:e6 m=20:=by
    unfold e6 bB
    have:=HM.out.pf.1
    exact if_pos ae
   refine(nW R g6 cap6 _ m.fa m.fn m.fc 128 _ WL VL.out ae).mono ?_;rintro e w' ⟨⟨q,rfl⟩,hk'⟩
   refine⟨rfl,fun h0=>absurd (hcw.symm.trans h0) E6,fun _=>⟨⟨q,?_⟩,TL.out.s.throw hk'⟩⟩
   rw[hcw,hmany];rfl
 have L6:=jC (enc:=cK) (M:=400000) E6 (fun ah x hx=>ml hx)
 have l6:=HM.out.pf.1;have u6:=aG (m.fn:Int)
 refine(KT R g6 cap6 _ m.fn w.heap.size (w.heap.size+1+1+1) W6.heap.size ta' m.tn tc' m.types WL m.fns VL.out ae ae hR0 hgg hkL.out ae c0 ae TL.out.n0 ae p0 ae TL.out.n3 ae ae GL.out (fun b off c hb'=>DY) (fun b off c hb'=>by have q:=F6.out b off c hb'; omega) hp8.out ae CX hokL.out HM.out.pf.1 m.fa m.fc LL.out (HM.out.pf.kept TL.out.s.k HM.out.ff.not) (fun b off c hb'=>Dq) E6).mono ?_
 rintro e w7⟨fa',fc',rfl,g7,cap7,hw7,hs7⟩;have Tq:=TL.out.stepL hRl hs7 ae;obtain⟨⟨o0,o1,o2,o3,o4,o5,o6,o7⟩,⟨f0,f1,f2,f3,f4,f5,f6,f7⟩⟩:=av Tq.ob;obtain⟨⟨m0',m1',m2',m3',m4',m5',m6',m7'⟩,_⟩:=av Tq.mb;have hzq:=Tq.z;obtain⟨W7,hW7⟩:∃W',w7.setCell ⟨w.heap.size+1+1+1,5,none⟩ (.slice fa' m.fn fc')=W':=⟨_,rfl⟩
 have T7:=hid (show Sta w W7 R g g7 (mV m) #[.slice ta' m.tn tc',.slice ha' m.hn hc',.slice ga' m.gn gc',.int .i64 m.fi,.int .i64 m.mo,.slice fa' m.fn fc',.slice none 0 0,.slice none 0 0] by rw[← hW7]; exact Tq.set (i:=5) (v:=.slice fa' m.fn fc') ar)
 have V7:=hid (show Wr W7 R g7 cap7 (bs++(ax m.tn++m.types.flatMap bK)++(ax m.hn++m.hosts.flatMap (fun x=>ax x))++(ax m.gn++m.globals.flatMap cT)++ax m.fi++ax m.mo++(ax m.fn++m.fns.flatMap cK)) by rw[← hW7]; exact hw7.set ae Tq.n3)
 have hlt7:(bs++(ax m.tn++m.types.flatMap bK)++(ax m.hn++m.hosts.flatMap (fun x=>ax x))++(ax m.gn++m.globals.flatMap cT)++ax m.fi++ax m.mo++(ax m.fn++m.fns.flatMap cK)).length≤60000000:=mO
 clear m0 m1 m2 m3 m4 m5 m6 m7 hw7 hs7 c0;obtain⟨⟨m0,m1,m2,m3,m4,m5,m6,m7⟩,_⟩:=av T7.out.mb;have c0:=T7.out.c0;have p0:=(av T7.out.ob).1;obtain⟨p0,p1,p2,p3,p4,p5,p6,p7⟩:=p0;go_wp2_with fail;clear Tq o0 o1 o2 o3 o4 o5 o6 o7 f0 f1 f2 f3 f4 f5 f6 f7 m0' m1' m2' m3' m4' m5' m6' m7' hzq hW7
 have hrD:Hid (∀(j:Nat)x,m.data[j]? =some x→La W7 R g7 x):=fun j x hj=>by
  obtain⟨⟨r0,r1⟩,hsg,hfar⟩:=HM.out.dr j x hj;have hz:=T7.out.s.size
  exact⟨r0,r1,hsg.kept' T7.out.s.k hfar.not,hfar.at T7.out.s,fun b off c hb'=>by have q:=hfar b off c hb'; omega⟩
 by_cases E7:e7 m=0
 rotate_left
 ·have hcw:fP m=e7 m:=by unfold fP; rw[aV E1]; rw[aV E2]; rw[aV E3]; rw[aV E4]; rw[aV E5]; rw[aV E6]; exact jl E7
  refine(Mw R g7 cap7 _ m.da m.dn m.dc w.heap.size W7 (w.heap.size+1+1+1) m.fi m.data V7.out ae c0 ae T7.out.n0 p3 ae T7.out.n3 R4.1 R4.2 hrD.out (HM.out.pd.kept T7.out.s.k HM.out.df.not) (HM.out.df.at T7.out.s) E7).mono ?_;rintro e w' ⟨⟨q,rfl⟩,hk'⟩
  refine⟨rfl,fun h0=>absurd (hcw.symm.trans h0) E7,fun _=>⟨⟨q,?_⟩,T7.out.s.throw hk'⟩⟩
  rw[hcw];rfl
 have L7:=jC (enc:=cN) (M:=300000) E7 (fun ah x hx=>mq ae hx)
 have l7:=HM.out.pd.1;have u7:=aG (m.dn:Int);refine(Jn R g7 cap7 _ m.da m.dn m.dc w.heap.size W7 (w.heap.size+1+1+1) m.fi m.data V7.out ae c0 ae T7.out.n0 p3 ae T7.out.n3 R4.1 R4.2 hrD.out (HM.out.pd.kept T7.out.s.k HM.out.df.not) (HM.out.df.at T7.out.s) E7).mono ?_;rintro e w8⟨da',dc',ys8,rfl,_,_,g8,cap8,hw8,hs8⟩;have Tq:=T7.out.step hRl hs8;obtain⟨⟨o0,o1,o2,o3,o4,o5,o6,o7⟩,⟨f0,f1,f2,f3,f4,f5,f6,f7⟩⟩:=av Tq.ob;obtain⟨⟨m0',m1',m2',m3',m4',m5',m6',m7'⟩,_⟩:=av Tq.mb;have hzq:=Tq.z;obtain⟨W8,hW8⟩:∃W',w8.setCell ⟨w.heap.size+1+1+1,6,none⟩ (.slice da' m.dn dc')=W':=⟨_,rfl⟩
 have T8:=hid (show Sta w W8 R g g8 (mV m) #[.slice ta' m.tn tc',.slice ha' m.hn hc',.slice ga' m.gn gc',.int .i64 m.fi,.int .i64 m.mo,.slice fa' m.fn fc',.slice da' m.dn dc',.slice none 0 0] by rw[← hW8]; exact Tq.set (i:=6) (v:=.slice da' m.dn dc') ar)
 have V8:=hid (show Wr W8 R g8 cap8 (bs++(ax m.tn++m.types.flatMap bK)++(ax m.hn++m.hosts.flatMap (fun x=>ax x))++(ax m.gn++m.globals.flatMap cT)++ax m.fi++ax m.mo++(ax m.fn++m.fns.flatMap cK)++(ax m.dn++m.data.flatMap cN)) by rw[← hW8]; exact hw8.set ae Tq.n3)
 have hlt8:(bs++(ax m.tn++m.types.flatMap bK)++(ax m.hn++m.hosts.flatMap (fun x=>ax x))++(ax m.gn++m.globals.flatMap cT)++ax m.fi++ax m.mo++(ax m.fn++m.fns.flatMap cK)++(ax m.dn++m.data.flatMap cN)).length≤90000000:=mO
 clear m0 m1 m2 m3 m4 m5 m6 m7 hw8 hs8 c0;obtain⟨⟨m0,m1,m2,m3,m4,m5,m6,m7⟩,_⟩:=av T8.out.mb;have c0:=T8.out.c0;have p0:=(av T8.out.ob).1;obtain⟨p0,p1,p2,p3,p4,p5,p6,p7⟩:=p0;go_wp2_with fail;clear Tq o0 o1 o2 o3 o4 o5 o6 o7 f0 f1 f2 f3 f4 f5 f6 f7 m0' m1' m2' m3' m4' m5' m6' m7' hzq hW8
 by_cases E8:e8 m=0
 rotate_left
 ·have hcw:fP m=e8 m:=by unfold fP; rw[aV E1]; rw[aV E2]; rw[aV E3]; rw[aV E4]; rw[aV E5]; rw[aV E6]; rw[aV E7]; skip
  refine(zY R g8 cap8 _ m.ea m.en m.ec w.heap.size W8 (w.heap.size+1+1+1) fa' m.fn fc' m.exps V8.out ae c0 ae T8.out.n0 p5 ae T8.out.n3 ae HM.out.er (HM.out.pe.kept T8.out.s.k HM.out.ef.not) (HM.out.ef.at T8.out.s) E8).mono ?_;rintro e w' ⟨⟨q,rfl⟩,hk'⟩
  refine⟨rfl,fun h0=>absurd (hcw.symm.trans h0) E8,fun _=>⟨⟨q,?_⟩,T8.out.s.throw hk'⟩⟩
  rw[hcw];rfl
 refine(xV R g8 cap8 _ m.ea m.en m.ec w.heap.size W8 (w.heap.size+1+1+1) fa' m.fn fc' m.exps V8.out ae c0 ae T8.out.n0 p5 ae T8.out.n3 ae HM.out.er (HM.out.pe.kept T8.out.s.k HM.out.ef.not) (HM.out.ef.at T8.out.s) E8).mono ?_;rintro e w9⟨ea',ec',ys9,rfl,_,_,g9,cap9,hw9,hs9⟩;have Tq:=T8.out.step hRl hs9;obtain⟨⟨o0,o1,o2,o3,o4,o5,o6,o7⟩,⟨f0,f1,f2,f3,f4,f5,f6,f7⟩⟩:=av Tq.ob;obtain⟨⟨m0',m1',m2',m3',m4',m5',m6',m7'⟩,_⟩:=av Tq.mb;have hzq:=Tq.z;obtain⟨W9,hW9⟩:∃W',w9.setCell ⟨w.heap.size+1+1+1,7,none⟩ (.slice ea' m.en ec')=W':=⟨_,rfl⟩
 have T9:=hid (show Sta w W9 R g g9 (mV m) #[.slice ta' m.tn tc',.slice ha' m.hn hc',.slice ga' m.gn gc',.int .i64 m.fi,.int .i64 m.mo,.slice fa' m.fn fc',.slice da' m.dn dc',.slice ea' m.en ec'] by rw[← hW9]; exact Tq.set (i:=7) (v:=.slice ea' m.en ec') ar)
 have V9:=hid (show Wr W9 R g9 cap9 (bs++(ax m.tn++m.types.flatMap bK)++(ax m.hn++m.hosts.flatMap (fun x=>ax x))++(ax m.gn++m.globals.flatMap cT)++ax m.fi++ax m.mo++(ax m.fn++m.fns.flatMap cK)++(ax m.dn++m.data.flatMap cN)++(ax m.en++m.exps.flatMap eA)) by rw[← hW9]; exact hw9.set ae Tq.n3)
 clear m0 m1 m2 m3 m4 m5 m6 m7 hw9 hs9 c0;obtain⟨p0,p1,p2,p3,p4,p5,p6,p7⟩:=(av T9.out.ob).1;have rbb:=T9.out.rb;unfold zV at rbb;obtain⟨⟨r0,r1,r2,r3,r4,r5,r6,r7⟩,⟨s0,s1,s2,s3,s4,s5,s6,s7⟩⟩:=av rbb;clear rbb;have z9:=T9.out.z;go_wp2_with fail
 have hcw:fP m=0:=by unfold fP; rw[aV E1]; rw[aV E2]; rw[aV E3]; rw[aV E4]; rw[aV E5]; rw[aV E6]; rw[aV E7]; exact E8
 refine bodyPost_ret (v:=.agg #[.slice ta' m.tn tc',.slice ha' m.hn hc',.slice ga' m.gn gc',.int .i64 m.fi,.int .i64 m.mo,.slice fa' m.fn fc',.slice da' m.dn dc',.slice ea' m.en ec']) ?_ rfl ⟨fun _=>⟨_,rfl,g9,cap9,?_,?_⟩,fun h0=>absurd hcw h0⟩
 ·exact cu
 ·have hcast:bs++gF m=bs++(ax m.tn++m.types.flatMap bK)++(ax m.hn++m.hosts.flatMap (fun x=>ax x))++(ax m.gn++m.globals.flatMap cT)++ax m.fi++ax m.mo++(ax m.fn++m.fns.flatMap cK)++(ax m.dn++m.data.flatMap cN)++(ax m.en++m.exps.flatMap eA):=by simp[gF,List.append_assoc]
  rw[hcast];exact((((((((V9.out.set (b:=w.heap.size+1+1) ae T9.out.n2).set (b:=w.heap.size+1+1) ae T9.out.n2).set (b:=w.heap.size+1+1) ae T9.out.n2).set (b:=w.heap.size+1+1) ae T9.out.n2).set (b:=w.heap.size+1+1) ae T9.out.n2).set (b:=w.heap.size+1+1) ae T9.out.n2).set (b:=w.heap.size+1+1) ae T9.out.n2).set (b:=w.heap.size+1+1) ae T9.out.n2)
 ·exact((((((((T9.out.s.set ae).set ae).set ae).set ae).set ae).set ae).set ae).set ae).k
end Go.Proofs.YtheefojaplnnoaaGreatDoor
