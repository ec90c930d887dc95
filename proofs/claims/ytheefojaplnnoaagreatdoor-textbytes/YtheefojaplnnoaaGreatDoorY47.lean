/-
  Texts Yq Yr.
-/
import Derived.Test.YtheefojaplnnoaaGreatDoorY00
import Derived.Test.YtheefojaplnnoaaGreatDoorY20
import Derived.Test.YtheefojaplnnoaaGreatDoorY32
import Derived.Test.YtheefojaplnnoaaGreatDoorY46
set_option linter.unusedVariables false
set_option maxRecDepth 100000
set_option maxHeartbeats 16000000
namespace Go.Proofs.YtheefojaplnnoaaGreatDoor
open Go.RowKit
structure DQ(lo:Nat)(w:World)(m:MM):Prop where
 rt:w.ownsRow 0 73 2 (.slice m.ta m.tn m.tc) m.tn (m.types.flatMap eP)
 rh:w.ownsRow 0 3 1 (.slice m.ha m.hn m.hc) m.hn (m.hosts.flatMap jA)
 rg:w.ownsRow 0 102 3 (.slice m.ga m.gn m.gc) m.gn (m.globals.flatMap jL)
 rf:w.ownsRow 0 78 3 (.slice m.fa m.fn m.fc) m.fn (m.fns.flatMap (fun y=>iA (y.1,y.2.1,y.2.2.1)))
 rd:w.ownsRow 0 81 2 (.slice m.da m.dn m.dc) m.dn (m.data.flatMap (fun y=>eX (y.1,y.2.1)))
 re:w.ownsRow 0 83 2 (.slice m.ea m.en m.ec) m.en (m.exps.flatMap fM)
 fo:∀y∈m.fns,tF w y∧∀b,vQ y b→lo≤b
 dd:∀y∈m.data,AK w y∧∀b,yA y b→lo≤b
 bt:∀b,m.ta=some b→lo≤b.block
 bh:∀b,m.ha=some b→lo≤b.block
 bg:∀b,m.ga=some b→lo≤b.block
 bf:∀b,m.fa=some b→lo≤b.block
 bd:∀b,m.da=some b→lo≤b.block
 be:∀b,m.ea=some b→lo≤b.block
 gr:∀y∈m.globals,0≤y.1∧y.1≤255∧0≤y.2.2∧y.2.2<18446744073709551616
theorem bU{S:Nat→Prop}{w w':World}{base:Nat}{e:TypeId}{k n j ac:Nat}{aa:Option Addr}{xs:List Value}(h:w.ownsRow base e k (.slice aa j ac) n xs)(hk:Kept S w w')(hne:∀b,aa=some b→b.block<w.heap.size→¬S b.block):w'.ownsRow base e k (.slice aa j ac) n xs :=
 aA h (fun B hB=>by
  obtain⟨a,h1,h2⟩:=dF hB;have hl:=ay h hB
  exact hk.block B hl (by rw[← h2]; exact hne a h1 (by rw[h2]; exact hl)))
theorem DQ.kept{lo:Nat}{S:Nat→Prop}{w w':World}{m:MM}(h:DQ lo w m)(hk:Kept S w w')(hS:∀k,S k→k<lo):DQ lo w' m:=by
 have hn:∀k,lo≤k→¬S k:=fun k h1 h2=>by have:=hS k h2; omega
 exact⟨bU h.rt hk (fun b hb _=>hn _ (h.bt b hb)),bU h.rh hk (fun b hb _=>hn _ (h.bh b hb)),bU h.rg hk (fun b hb _=>hn _ (h.bg b hb)),bU h.rf hk (fun b hb _=>hn _ (h.bf b hb)),bU h.rd hk (fun b hb _=>hn _ (h.bd b hb)),bU h.re hk (fun b hb _=>hn _ (h.be b hb)),
  fun y hy=>⟨fQ _ _ _ _ (h.fo y hy).1 hk (fun b hb=>hn b ((h.fo y hy).2 b hb)),(h.fo y hy).2⟩,fun y hy=>⟨qI _ _ _ _ (h.dd y hy).1 hk (fun b hb=>hn b ((h.dd y hy).2 b hb)),(h.dd y hy).2⟩,h.bt,h.bh,h.bg,h.bf,h.bd,h.be,h.gr⟩
theorem DQ.later{lo:Nat}{w w':World}{m:MM}(h:DQ lo w m)(hb:Below w.heap.size w w'):DQ lo w' m:=h.kept (S:=fun _=>False) (aN hb) (fun _ h=>h.elim)
structure StR(w W:World)(R:Nat)(ov:Array Value):Prop where
 k:Kept (fun k=>k=R) w W
 z:w.heap.size+1+1+1<W.heap.size
 c0:W.cell? ⟨w.heap.size,0,none⟩=some (cR R)
 mb:W.heap[w.heap.size+1]? =some (.cells zV 29)
 rb:W.heap[w.heap.size+1+1]? =some (.cells zV 29)
 ob:W.heap[w.heap.size+1+1+1]? =some (.cells ov 29)
theorem StR.stepQ{w W W':World}{R:Nat}{ov:Array Value}{Q:Nat→Prop}(h:StR w W R ov)(hR:R<w.heap.size)(hs:Kept Q W W')(hQ:∀k,Q k→k=R∨w.heap.size+1+1+1<k):StR w W' R ov:=by
 have hz:=h.z
 have hn:∀k,w.heap.size≤k→k≤w.heap.size+1+1+1→¬Q k:=fun k h1 h2 hq=>by have:=hQ k hq; omega
 exact⟨h.k.then hs (fun k hk hq=>by have:=hQ k hq; omega),Nat.lt_of_lt_of_le hz hs.size,hs.cell h.c0 (hn _ ae ae),(hs.block _ ae (hn _ ae ae)).trans h.mb,(hs.block _ ae (hn _ ae ae)).trans h.rb,(hs.block _ ae (hn _ ae ae)).trans h.ob⟩
theorem StR.step{w W W':World}{R:Nat}{ov:Array Value}(h:StR w W R ov)(hR:R<w.heap.size)(hs:Kept (fun k=>k=R) W W'):StR w W' R ov:=h.stepQ hR hs (fun k hk=>.inl hk)
theorem StR.set{w W:World}{R:Nat}{ov:Array Value}(h:StR w W R ov){i:Nat}{v:Value}(hi:i<ov.size):StR w (W.setCell ⟨w.heap.size+1+1+1,i,none⟩ v) R (ov.setIfInBounds i v):=by
 have hk:=aw W (w.heap.size+1+1+1) i v;have hz:=h.z;exact⟨KO.set h.k ae,Nat.lt_of_lt_of_le hz hk.size,hk.cell h.c0 ae,(hk.block _ ae ae).trans h.mb,(hk.block _ ae ae).trans h.rb,ma h.ob hi⟩
def tj(w:World)(R:Nat):World:=(((w.alloc (cE (cR R))).alloc (.cells zV 29)).alloc (.cells zV 29)).alloc (.cells zV 29)
theorem Js(w:World)(R:Nat):StR w (tj w R) R zV∧Below w.heap.size w (tj w R):=by
 have B:Below w.heap.size w (tj w R):=((((Below.refl _ w).alloc (Nat.le_refl _) _).alloc ar _).alloc bu _).alloc bu _
 refine⟨⟨KO.of_below B,by simp[tj],?_,?_,?_,?_⟩,B⟩
 ·simp[tj,go_sem]
 ·unfold tj;rw[(ag (((w.alloc (cE (cR R))).alloc (.cells zV 29)).alloc (.cells zV 29)) _).block (w.heap.size+1) bu,(ag ((w.alloc (cE (cR R))).alloc (.cells zV 29)) _).block (w.heap.size+1) ar]
  have:=(MapKept.heap_alloc (w.alloc (cE (cR R))) (.cells zV 29)).1
  exact bJ
 ·unfold tj;rw[(ag (((w.alloc (cE (cR R))).alloc (.cells zV 29)).alloc (.cells zV 29)) _).block (w.heap.size+1+1) ar]
  have:=(MapKept.heap_alloc ((w.alloc (cE (cR R))).alloc (.cells zV 29)) (.cells zV 29)).1
  exact bJ
 ·unfold tj
  have:=(MapKept.heap_alloc (((w.alloc (cE (cR R))).alloc (.cells zV 29)).alloc (.cells zV 29)) (.cells zV 29)).1
  exact bJ
theorem rI{α:Type}{f:List α→α→Int}{most:Int}{xs:List α}{n:Nat}(hl:xs.length=n)(h:bB f most xs=0):(n:Int)≤most:=by
 unfold bB at h
 split at h
 ·cases h
 ·omega
theorem xJ{α:Type}{f:List α→α→Int}{most:Int}{xs:List α}(h:bB f most xs=0):aU f [] xs=0:=by
 unfold bB at h
 split at h
 ·cases h
 ·exact h
theorem Nj(R:Nat)(A:Option Addr×Nat×Nat)(ds rs:List Int)(w:World)(h:Rr w R A ds rs)(hR0:R≠0)(hk:aP w) :
  Calls Tryz.prog 86 #[cR R,.agg zV] w fun e w'=>Bad R w e w'∨∃m:MM,e=.returned (.agg (mV m))∧fP m=0∧DQ w.heap.size w' m∧fE R A ds rs (gF m) w w':=by
 have hRl:=h.lt;obtain⟨T1,B1⟩:=Js w R;have HW:(((w.alloc (cE (cR R))).alloc (.cells zV 29)).alloc (.cells zV 29)).alloc (.cells zV 29)=tj w R:=rfl;have V1:=hid (h.later B1);generalize tj w R=W1 at *;have T1:=hid T1;have HK:=hid hk;have HLO:=hid h.lo;obtain⟨⟨m0,m1,m2,m3,m4,m5,m6,m7⟩,_⟩:=av T1.out.mb;have c0:=T1.out.c0;clear h hk;unfold zV at HW
 show Calls Tryz.prog 86 #[cR R,.agg #[.slice none 0 0,.slice none 0 0,.slice none 0 0,.int .i64 0,.int .i64 0,.slice none 0 0,.slice none 0 0,.slice none 0 0]] w _
 go_enter Tryz.func86,Tryz.ntmps86
 go_wp2_with fail;have HC:=hid (Pw R A ds rs w.heap.size W1 V1.out c0 ae);refine HC.out.mono ?_
 rintro e w2 (⟨⟨y,p,hy,rfl⟩,hkb⟩ | ⟨ys1,ta,tn,tc,rfl,hl1,E1,hrow,hab,rs2,hrs,hrr,hkk⟩)
 ·exact⟨rfl,.inl ⟨⟨y,p,hy,rfl⟩,(T1.out.k.trans hkb)⟩⟩
 have Tq:=T1.out.step hRl hkk;obtain⟨⟨o0,o1,o2,o3,o4,o5,o6,o7⟩,⟨f0,f1,f2,f3,f4,f5,f6,f7⟩⟩:=av Tq.ob;obtain⟨⟨m0',m1',m2',m3',m4',m5',m6',m7'⟩,_⟩:=av Tq.mb;have hzq:=Tq.z;obtain⟨W2,hW2⟩:∃W',w2.setCell ⟨w.heap.size+1+1+1,0,none⟩ (.slice ta tn tc)=W':=⟨_,rfl⟩
 have T2:=hid (show StR w W2 R #[.slice ta tn tc,.slice none 0 0,.slice none 0 0,.int .i64 0,.int .i64 0,.slice none 0 0,.slice none 0 0,.slice none 0 0] by rw[← hW2]; exact Tq.set (i:=0) (v:=.slice ta tn tc) (by simp[zV]))
 obtain⟨D2,hD2⟩:∃D,ds++(ax (tn:Int)++ys1.flatMap bK)=D:=⟨_,rfl⟩;rw[hD2]at hrr;have HD2:=hid hD2;have HRS2:=hid hrs
 have V2:=hid (show Rr W2 R A D2 rs2 by rw[← hW2]; exact hrr.set ae)
 have SS1:=hid (show Kept (fun k=>k=R∨k=w.heap.size+1+1+1) W1 W2 by rw[← hW2]; exact(hkk.mono (fun k hq=>.inl hq)).then (aw w2 (w.heap.size+1+1+1) 0 (.slice ta tn tc)) (fun k _ hq=>.inr hq))
 have G1:=hid (show W2.ownsRow 0 73 2 (.slice ta tn tc) tn (ys1.flatMap eP) by rw[← hW2]; exact bU hrow (aw w2 (w.heap.size+1+1+1) 0 (.slice ta tn tc)) (fun b hb _=>by have:=hab b hb; have:=T1.out.z; omega))
 have G1b:=hid (show ∀b,ta=some b→W1.heap.size≤b.block from hab);clear hrow hab;have tnl:=rI hl1 E1;clear hrr hkk hrs hD2 HC m0 m1 m2 m3 m4 m5 m6 m7 c0;obtain⟨⟨m0,m1,m2,m3,m4,m5,m6,m7⟩,_⟩:=av T2.out.mb;have c0:=T2.out.c0;obtain⟨p0,p1,p2,p3,p4,p5,p6,p7⟩:=(av T2.out.ob).1;go_wp2_with fail;clear Tq o0 o1 o2 o3 o4 o5 o6 o7 f0 f1 f2 f3 f4 f5 f6 f7 m0' m1' m2' m3' m4' m5' m6' m7' hzq hW2;have HC:=hid (Qv R A D2 rs2 w.heap.size W2 (w.heap.size+1+1+1) ta tn tc V2.out c0 ae p0 ae ae);refine HC.out.mono ?_
 rintro e w3 (⟨⟨y,p,hy,rfl⟩,hkb⟩ | ⟨ys2,ha,hn,hc,rfl,hl2,E2,hrow,hab,rs3,hrs,hrr,hkk⟩)
 ·exact⟨rfl,.inl ⟨⟨y,p,hy,rfl⟩,(T2.out.k.trans hkb)⟩⟩
 have Tq:=T2.out.step hRl hkk;obtain⟨⟨o0,o1,o2,o3,o4,o5,o6,o7⟩,⟨f0,f1,f2,f3,f4,f5,f6,f7⟩⟩:=av Tq.ob;obtain⟨⟨m0',m1',m2',m3',m4',m5',m6',m7'⟩,_⟩:=av Tq.mb;have hzq:=Tq.z;obtain⟨W3,hW3⟩:∃W',w3.setCell ⟨w.heap.size+1+1+1,1,none⟩ (.slice ha hn hc)=W':=⟨_,rfl⟩
 have T3:=hid (show StR w W3 R #[.slice ta tn tc,.slice ha hn hc,.slice none 0 0,.int .i64 0,.int .i64 0,.slice none 0 0,.slice none 0 0,.slice none 0 0] by rw[← hW3]; exact Tq.set (i:=1) (v:=.slice ha hn hc) ar)
 obtain⟨D3,hD3⟩:∃D,D2++(ax (hn:Int)++ys2.flatMap (fun x=>ax x))=D:=⟨_,rfl⟩
 rw[hD3]at hrr;have HD3:=hid hD3;have HRS3:=hid hrs
 have V3:=hid (show Rr W3 R A D3 rs3 by rw[← hW3]; exact hrr.set ae)
 have SS2:=hid (show Kept (fun k=>k=R∨k=w.heap.size+1+1+1) W2 W3 by rw[← hW3]; exact(hkk.mono (fun k hq=>.inl hq)).then (aw w3 (w.heap.size+1+1+1) 1 (.slice ha hn hc)) (fun k _ hq=>.inr hq))
 have G2:=hid (show W3.ownsRow 0 3 1 (.slice ha hn hc) hn (ys2.flatMap jA) by rw[← hW3]; exact bU hrow (aw w3 (w.heap.size+1+1+1) 1 (.slice ha hn hc)) (fun b hb _=>by have:=hab b hb; have:=T2.out.z; omega))
 have G2b:=hid (show ∀b,ha=some b→W2.heap.size≤b.block from hab);clear hrow hab;clear hrr hkk hrs hD3 HC m0 m1 m2 m3 m4 m5 m6 m7 c0;obtain⟨⟨m0,m1,m2,m3,m4,m5,m6,m7⟩,_⟩:=av T3.out.mb;have c0:=T3.out.c0;obtain⟨p0,p1,p2,p3,p4,p5,p6,p7⟩:=(av T3.out.ob).1;go_wp2_with fail;clear Tq o0 o1 o2 o3 o4 o5 o6 o7 f0 f1 f2 f3 f4 f5 f6 f7 m0' m1' m2' m3' m4' m5' m6' m7' hzq hW3;have HC:=hid (Ht R A D3 rs3 w.heap.size W3 V3.out c0 ae);refine HC.out.mono ?_
 rintro e w4 (⟨⟨y,p,hy,rfl⟩,hkb⟩ | ⟨ys3,ga,gn,gc,rfl,hl3,E3,hrow,hab,hgr,rs4,hrs,hrr,hkk⟩)
 ·exact⟨rfl,.inl ⟨⟨y,p,hy,rfl⟩,(T3.out.k.trans hkb)⟩⟩
 have Tq:=T3.out.step hRl hkk;obtain⟨⟨o0,o1,o2,o3,o4,o5,o6,o7⟩,⟨f0,f1,f2,f3,f4,f5,f6,f7⟩⟩:=av Tq.ob;obtain⟨⟨m0',m1',m2',m3',m4',m5',m6',m7'⟩,_⟩:=av Tq.mb;have hzq:=Tq.z;obtain⟨W4,hW4⟩:∃W',w4.setCell ⟨w.heap.size+1+1+1,2,none⟩ (.slice ga gn gc)=W':=⟨_,rfl⟩
 have T4:=hid (show StR w W4 R #[.slice ta tn tc,.slice ha hn hc,.slice ga gn gc,.int .i64 0,.int .i64 0,.slice none 0 0,.slice none 0 0,.slice none 0 0] by rw[← hW4]; exact Tq.set (i:=2) (v:=.slice ga gn gc) ar)
 obtain⟨D4,hD4⟩:∃D,D3++(ax (gn:Int)++ys3.flatMap cT)=D:=⟨_,rfl⟩;rw[hD4]at hrr;have HD4:=hid hD4;have HRS4:=hid hrs
 have V4:=hid (show Rr W4 R A D4 rs4 by rw[← hW4]; exact hrr.set ae)
 have SS3:=hid (show Kept (fun k=>k=R∨k=w.heap.size+1+1+1) W3 W4 by rw[← hW4]; exact(hkk.mono (fun k hq=>.inl hq)).then (aw w4 (w.heap.size+1+1+1) 2 (.slice ga gn gc)) (fun k _ hq=>.inr hq))
 have G3:=hid (show W4.ownsRow 0 102 3 (.slice ga gn gc) gn (ys3.flatMap jL) by rw[← hW4]; exact bU hrow (aw w4 (w.heap.size+1+1+1) 2 (.slice ga gn gc)) (fun b hb _=>by have:=hab b hb; have:=T3.out.z; omega))
 have G3b:=hid (show ∀b,ga=some b→W3.heap.size≤b.block from hab);clear hrow hab;have HGR:=hid hgr;clear hgr;clear hrr hkk hrs hD4 HC m0 m1 m2 m3 m4 m5 m6 m7 c0;obtain⟨⟨m0,m1,m2,m3,m4,m5,m6,m7⟩,_⟩:=av T4.out.mb;have c0:=T4.out.c0;obtain⟨p0,p1,p2,p3,p4,p5,p6,p7⟩:=(av T4.out.ob).1;go_wp2_with fail;clear Tq o0 o1 o2 o3 o4 o5 o6 o7 f0 f1 f2 f3 f4 f5 f6 f7 m0' m1' m2' m3' m4' m5' m6' m7' hzq hW4;have HC:=hid (tO R A D4 rs4 0 0 W4 V4.out ae ae);refine HC.out.mono ?_
 rintro e w5 (⟨⟨y,p,hy,rfl⟩,hkb⟩ | ⟨fi,rfl,fi0,fi1,rs5,hrs,hrr,hkk⟩)
 ·exact⟨rfl,.inl ⟨⟨y,p,hy,rfl⟩,(T4.out.k.trans hkb)⟩⟩
 have Tq:=T4.out.step hRl hkk;obtain⟨⟨o0,o1,o2,o3,o4,o5,o6,o7⟩,⟨f0,f1,f2,f3,f4,f5,f6,f7⟩⟩:=av Tq.ob;obtain⟨⟨m0',m1',m2',m3',m4',m5',m6',m7'⟩,_⟩:=av Tq.mb;have hzq:=Tq.z;obtain⟨W5,hW5⟩:∃W',w5.setCell ⟨w.heap.size+1+1+1,3,none⟩ (.int .i64 fi)=W':=⟨_,rfl⟩
 have T5:=hid (show StR w W5 R #[.slice ta tn tc,.slice ha hn hc,.slice ga gn gc,.int .i64 fi,.int .i64 0,.slice none 0 0,.slice none 0 0,.slice none 0 0] by rw[← hW5]; exact Tq.set (i:=3) (v:=.int .i64 fi) ar)
 obtain⟨D5,hD5⟩:∃D,D4++(ax fi)=D:=⟨_,rfl⟩;rw[hD5]at hrr;have HD5:=hid hD5;have HRS5:=hid hrs
 have V5:=hid (show Rr W5 R A D5 rs5 by rw[← hW5]; exact hrr.set ae)
 have SS4:=hid (show Kept (fun k=>k=R∨k=w.heap.size+1+1+1) W4 W5 by rw[← hW5]; exact(hkk.mono (fun k hq=>.inl hq)).then (aw w5 (w.heap.size+1+1+1) 3 (.int .i64 fi)) (fun k _ hq=>.inr hq))
 clear hrr hkk hrs hD5 HC m0 m1 m2 m3 m4 m5 m6 m7 c0;obtain⟨⟨m0,m1,m2,m3,m4,m5,m6,m7⟩,_⟩:=av T5.out.mb;have c0:=T5.out.c0;obtain⟨p0,p1,p2,p3,p4,p5,p6,p7⟩:=(av T5.out.ob).1;go_wp2_with fail;clear Tq o0 o1 o2 o3 o4 o5 o6 o7 f0 f1 f2 f3 f4 f5 f6 f7 m0' m1' m2' m3' m4' m5' m6' m7' hzq hW5;have HC:=hid (tO R A D5 rs5 0 fi W5 V5.out ae ae);refine HC.out.mono ?_
 rintro e w6 (⟨⟨y,p,hy,rfl⟩,hkb⟩ | ⟨mo,rfl,mo0,mo1,rs6,hrs,hrr,hkk⟩)
 ·exact⟨rfl,.inl ⟨⟨y,p,hy,rfl⟩,(T5.out.k.trans hkb)⟩⟩
 have Tq:=T5.out.step hRl hkk;obtain⟨⟨o0,o1,o2,o3,o4,o5,o6,o7⟩,⟨f0,f1,f2,f3,f4,f5,f6,f7⟩⟩:=av Tq.ob;obtain⟨⟨m0',m1',m2',m3',m4',m5',m6',m7'⟩,_⟩:=av Tq.mb;have hzq:=Tq.z;obtain⟨W6,hW6⟩:∃W',w6.setCell ⟨w.heap.size+1+1+1,4,none⟩ (.int .i64 mo)=W':=⟨_,rfl⟩
 have T6:=hid (show StR w W6 R #[.slice ta tn tc,.slice ha hn hc,.slice ga gn gc,.int .i64 fi,.int .i64 mo,.slice none 0 0,.slice none 0 0,.slice none 0 0] by rw[← hW6]; exact Tq.set (i:=4) (v:=.int .i64 mo) ar)
 obtain⟨D6,hD6⟩:∃D,D5++(ax mo)=D:=⟨_,rfl⟩;rw[hD6]at hrr;have HD6:=hid hD6;have HRS6:=hid hrs
 have V6:=hid (show Rr W6 R A D6 rs6 by rw[← hW6]; exact hrr.set ae)
 have SS5:=hid (show Kept (fun k=>k=R∨k=w.heap.size+1+1+1) W5 W6 by rw[← hW6]; exact(hkk.mono (fun k hq=>.inl hq)).then (aw w6 (w.heap.size+1+1+1) 4 (.int .i64 mo)) (fun k _ hq=>.inr hq))
 clear hrr hkk hrs hD6 HC m0 m1 m2 m3 m4 m5 m6 m7 c0;obtain⟨⟨m0,m1,m2,m3,m4,m5,m6,m7⟩,_⟩:=av T6.out.mb;have c0:=T6.out.c0;obtain⟨p0,p1,p2,p3,p4,p5,p6,p7⟩:=(av T6.out.ob).1;obtain⟨WL,hWL⟩:∃WL,W6.alloc (bq 16384)=WL:=⟨_,rfl⟩
 have BL:Below W6.heap.size W6 WL:=by rw[← hWL]; exact ag _ _
 have zL:WL.heap.size=W6.heap.size+1:=by rw[← hWL]; simp
 have TL:=hid (T6.out.step hRl (KO.of_below BL));have VL:=hid (V6.out.later BL)
 have LL:=hid (show LAt WL W6.heap.size 16384 by rw[← hWL]; exact⟨eB _ _ _,cg⟩)
 have HBL:=hid BL;have z6:=T6.out.z;have HZL:=hid zL;have HWL:=hid hWL;clear m0 m1 m2 m3 m4 m5 m6 m7 c0 p0 p1 p2 p3 p4 p5 p6 p7;obtain⟨⟨m0,m1,m2,m3,m4,m5,m6,m7⟩,_⟩:=av TL.out.mb;have c0:=TL.out.c0;obtain⟨p0,p1,p2,p3,p4,p5,p6,p7⟩:=(av TL.out.ob).1;clear zL;go_wp2_with fail;clear Tq o0 o1 o2 o3 o4 o5 o6 o7 f0 f1 f2 f3 f4 f5 f6 f7 m0' m1' m2' m3' m4' m5' m6' m7' hzq hW6 hWL BL;obtain⟨L,hL⟩:∃L,W6.heap.size=L:=⟨_,rfl⟩;rw[hL]at LL z6 ⊢;have HL:=hid hL;clear hL;have hKL:=hid (HK.out.kept TL.out.k ae)
 have z2s:W2.heap.size≤L:=by
  have q1:=SS2.out.size;have q2:=SS3.out.size;have q3:=SS4.out.size;have q4:=SS5.out.size;have q5:=HL.out;omega
 have KL2:=hid (((((SS2.out.trans SS3.out).trans SS4.out).trans SS5.out).trans (aN HBL.out)))
 have hta:Hid (∀b off c,ta=some ⟨b,off,c⟩→w.heap.size+1+1+1<b∧b<L):=fun b off c hb=>by
  have q1:=G1b.out _ hb;have q2:=T1.out.z;have q3:b<W2.heap.size:=ay G1.out (dM G1.out hb)
  simp only at q1
  exact⟨ae,ae⟩
 have GL:=hid (lA hl1 ae (bU G1.out KL2.out (fun b hb _=>by have:=hta.out b.block b.off b.spot hb; omega)))
 have hp8:Hid (∀(t:Nat)p r,ys1[t]? =some (p,r)→p.size≤8):=fun t p r ht=>(gp (bp cQ ys1 [] (xJ E1) t (p,r) ht)).1
 have HC:=hid (SD R A D6 rs6 w.heap.size (w.heap.size+1+1+1) L ta tn tc ys1 WL VL.out hKL.out hR0 ae c0 ae ae p0 ae ae LL.out ae (fun b off c hb=>by have:=HLO.out b off c hb; omega) ae GL.out (fun b off c hb=>by have:=hta.out b off c hb; omega) hp8.out)
 refine HC.out.mono ?_
 rintro e w7 (⟨⟨y,p,hy,rfl⟩,hkb⟩ | ⟨ys6,fa,fn,fc,rfl,hl6,E6,hrow,hab,how,rs7,hrs,hrr,hkk⟩)
 ·exact⟨rfl,.inl ⟨⟨y,p,hy,rfl⟩,(TL.out.k.then hkb (fun k hkl hq=>by rcases hq with hq | hq; exact hq; omega))⟩⟩
 have Tq:=TL.out.stepQ hRl hkk (fun k hq=>by rcases hq with hq | hq; exact .inl hq; exact .inr ae)
 obtain⟨⟨o0,o1,o2,o3,o4,o5,o6,o7⟩,⟨f0,f1,f2,f3,f4,f5,f6,f7⟩⟩:=av Tq.ob;obtain⟨⟨m0',m1',m2',m3',m4',m5',m6',m7'⟩,_⟩:=av Tq.mb;have hzq:=Tq.z;obtain⟨W7,hW7⟩:∃W',w7.setCell ⟨w.heap.size+1+1+1,5,none⟩ (.slice fa fn fc)=W':=⟨_,rfl⟩
 have T7:=hid (show StR w W7 R #[.slice ta tn tc,.slice ha hn hc,.slice ga gn gc,.int .i64 fi,.int .i64 mo,.slice fa fn fc,.slice none 0 0,.slice none 0 0] by rw[← hW7]; exact Tq.set (i:=5) (v:=.slice fa fn fc) ar)
 obtain⟨D7,hD7⟩:∃D,D6++(ax (fn:Int)++ys6.flatMap cK)=D:=⟨_,rfl⟩;rw[hD7]at hrr;have HD7:=hid hD7;have HRS7:=hid hrs
 have V7:=hid (show Rr W7 R A D7 rs7 by rw[← hW7]; exact hrr.set ae)
 have SS6:=hid (show Kept (fun k=>k=R∨k=w.heap.size+1+1+1∨k=L) WL W7 by rw[← hW7]; exact(hkk.mono (fun k hq=>by rcases hq with hq | hq; exact .inl hq; exact .inr (.inr hq))).then (aw w7 (w.heap.size+1+1+1) 5 (.slice fa fn fc)) (fun k _ hq=>.inr (.inl hq)))
 have G6:=hid (show W7.ownsRow 0 78 3 (.slice fa fn fc) fn (ys6.flatMap (fun y=>iA (y.1,y.2.1,y.2.2.1))) by rw[← hW7]; exact bU hrow (aw w7 (w.heap.size+1+1+1) 5 (.slice fa fn fc)) (fun b hb _=>by have:=hab b hb; have:=TL.out.z; omega))
 have G6b:=hid (show ∀b,fa=some b→WL.heap.size≤b.block from hab);clear hrow hab
 have HOF:=hid (show ∀y∈ys6,tF W7 y∧∀b,vQ y b→WL.heap.size≤b from fun y hy=>by
  obtain⟨g1,g2⟩:=how y hy;refine⟨?_,g2⟩;rw[← hW7]
  exact fQ _ _ _ _ g1 (aw w7 (w.heap.size+1+1+1) 5 (.slice fa fn fc)) (fun b hb hq=>by have:=g2 b hb; have:=TL.out.z; omega))
 have fnl:=rI hl6 E6;clear how;clear hrr hkk hrs hD7 HC m0 m1 m2 m3 m4 m5 m6 m7 c0;obtain⟨⟨m0,m1,m2,m3,m4,m5,m6,m7⟩,_⟩:=av T7.out.mb;have c0:=T7.out.c0;obtain⟨p0,p1,p2,p3,p4,p5,p6,p7⟩:=(av T7.out.ob).1;go_wp2_with fail;clear Tq o0 o1 o2 o3 o4 o5 o6 o7 f0 f1 f2 f3 f4 f5 f6 f7 m0' m1' m2' m3' m4' m5' m6' m7' hzq hW7;have HC:=hid (Qw R A D7 rs7 w.heap.size W7 (w.heap.size+1+1+1) fi V7.out c0 ae p3 ae fi0 fi1);refine HC.out.mono ?_
 rintro e w8 (⟨⟨y,p,hy,rfl⟩,hkb⟩ | ⟨ys7,da,dn,dc,rfl,hl7,E7,hrow,hab,how,rs8,hrs,hrr,hkk⟩)
 ·exact⟨rfl,.inl ⟨⟨y,p,hy,rfl⟩,(T7.out.k.trans hkb)⟩⟩
 have Tq:=T7.out.step hRl hkk;obtain⟨⟨o0,o1,o2,o3,o4,o5,o6,o7⟩,⟨f0,f1,f2,f3,f4,f5,f6,f7⟩⟩:=av Tq.ob;obtain⟨⟨m0',m1',m2',m3',m4',m5',m6',m7'⟩,_⟩:=av Tq.mb;have hzq:=Tq.z;obtain⟨W8,hW8⟩:∃W',w8.setCell ⟨w.heap.size+1+1+1,6,none⟩ (.slice da dn dc)=W':=⟨_,rfl⟩
 have T8:=hid (show StR w W8 R #[.slice ta tn tc,.slice ha hn hc,.slice ga gn gc,.int .i64 fi,.int .i64 mo,.slice fa fn fc,.slice da dn dc,.slice none 0 0] by rw[← hW8]; exact Tq.set (i:=6) (v:=.slice da dn dc) ar)
 obtain⟨D8,hD8⟩:∃D,D7++(ax (dn:Int)++ys7.flatMap cN)=D:=⟨_,rfl⟩;rw[hD8]at hrr;have HD8:=hid hD8;have HRS8:=hid hrs
 have V8:=hid (show Rr W8 R A D8 rs8 by rw[← hW8]; exact hrr.set ae)
 have SS7:=hid (show Kept (fun k=>k=R∨k=w.heap.size+1+1+1) W7 W8 by rw[← hW8]; exact(hkk.mono (fun k hq=>.inl hq)).then (aw w8 (w.heap.size+1+1+1) 6 (.slice da dn dc)) (fun k _ hq=>.inr hq))
 have G7:=hid (show W8.ownsRow 0 81 2 (.slice da dn dc) dn (ys7.flatMap (fun y=>eX (y.1,y.2.1))) by rw[← hW8]; exact bU hrow (aw w8 (w.heap.size+1+1+1) 6 (.slice da dn dc)) (fun b hb _=>by have:=hab b hb; have:=T7.out.z; omega))
 have G7b:=hid (show ∀b,da=some b→W7.heap.size≤b.block from hab);clear hrow hab
 have HOD:=hid (show ∀y∈ys7,AK W8 y∧∀b,yA y b→W7.heap.size≤b from fun y hy=>by
  obtain⟨g1,g2⟩:=how y hy;refine⟨?_,g2⟩;rw[← hW8]
  exact qI _ _ _ _ g1 (aw w8 (w.heap.size+1+1+1) 6 (.slice da dn dc)) (fun b hb hq=>by have:=g2 b hb; have:=T7.out.z; omega))
 clear how;clear hrr hkk hrs hD8 HC m0 m1 m2 m3 m4 m5 m6 m7 c0;obtain⟨⟨m0,m1,m2,m3,m4,m5,m6,m7⟩,_⟩:=av T8.out.mb;have c0:=T8.out.c0;obtain⟨p0,p1,p2,p3,p4,p5,p6,p7⟩:=(av T8.out.ob).1;go_wp2_with fail;clear Tq o0 o1 o2 o3 o4 o5 o6 o7 f0 f1 f2 f3 f4 f5 f6 f7 m0' m1' m2' m3' m4' m5' m6' m7' hzq hW8;have HC:=hid (Kp R A D8 rs8 w.heap.size W8 (w.heap.size+1+1+1) fa fn fc V8.out c0 ae p5 ae ae);refine HC.out.mono ?_
 rintro e w9 (⟨⟨y,p,hy,rfl⟩,hkb⟩ | ⟨ys8,ea,en,ec,rfl,hl8,E8,hrow,hab,rs9,hrs,hrr,hkk⟩)
 ·exact⟨rfl,.inl ⟨⟨y,p,hy,rfl⟩,(T8.out.k.trans hkb)⟩⟩
 have Tq:=T8.out.step hRl hkk;obtain⟨⟨o0,o1,o2,o3,o4,o5,o6,o7⟩,⟨f0,f1,f2,f3,f4,f5,f6,f7⟩⟩:=av Tq.ob;obtain⟨⟨m0',m1',m2',m3',m4',m5',m6',m7'⟩,_⟩:=av Tq.mb;have hzq:=Tq.z;obtain⟨W9,hW9⟩:∃W',w9.setCell ⟨w.heap.size+1+1+1,7,none⟩ (.slice ea en ec)=W':=⟨_,rfl⟩
 have T9:=hid (show StR w W9 R #[.slice ta tn tc,.slice ha hn hc,.slice ga gn gc,.int .i64 fi,.int .i64 mo,.slice fa fn fc,.slice da dn dc,.slice ea en ec] by rw[← hW9]; exact Tq.set (i:=7) (v:=.slice ea en ec) ar)
 obtain⟨D9,hD9⟩:∃D,D8++(ax (en:Int)++ys8.flatMap eA)=D:=⟨_,rfl⟩;rw[hD9]at hrr;have HD9:=hid hD9;have HRS9:=hid hrs
 have V9:=hid (show Rr W9 R A D9 rs9 by rw[← hW9]; exact hrr.set ae)
 have SS8:=hid (show Kept (fun k=>k=R∨k=w.heap.size+1+1+1) W8 W9 by rw[← hW9]; exact(hkk.mono (fun k hq=>.inl hq)).then (aw w9 (w.heap.size+1+1+1) 7 (.slice ea en ec)) (fun k _ hq=>.inr hq))
 have G8:=hid (show W9.ownsRow 0 83 2 (.slice ea en ec) en (ys8.flatMap fM) by rw[← hW9]; exact bU hrow (aw w9 (w.heap.size+1+1+1) 7 (.slice ea en ec)) (fun b hb _=>by have:=hab b hb; have:=T8.out.z; omega))
 have G8b:=hid (show ∀b,ea=some b→W8.heap.size≤b.block from hab);clear hrow hab;clear hrr hkk hrs hD9 HC m0 m1 m2 m3 m4 m5 m6 m7 c0;obtain⟨⟨m0,m1,m2,m3,m4,m5,m6,m7⟩,_⟩:=av T9.out.mb;have c0:=T9.out.c0;obtain⟨p0,p1,p2,p3,p4,p5,p6,p7⟩:=(av T9.out.ob).1;have rbb:=T9.out.rb;unfold zV at rbb;obtain⟨⟨r0,r1,r2,r3,r4,r5,r6,r7⟩,⟨s0,s1,s2,s3,s4,s5,s6,s7⟩⟩:=av rbb;clear rbb;have z9:=T9.out.z;go_wp2_with fail;clear Tq o0 o1 o2 o3 o4 o5 o6 o7 f0 f1 f2 f3 f4 f5 f6 f7 m0' m1' m2' m3' m4' m5' m6' m7' hzq hW9
 have hcw:fP { ta:=ta,tn:=tn,tc:=tc,types:=ys1,ha:=ha,hn:=hn,hc:=hc,hosts:=ys2,ga:=ga,gn:=gn,gc:=gc,globals:=ys3,fi:=fi,mo:=mo,fa:=fa,fn:=fn,fc:=fc,fns:=ys6,da:=da,dn:=dn,dc:=dc,data:=ys7,ea:=ea,en:=en,ec:=ec,exps:=ys8 }=0:=by
  have e4:jh 0 fi=0:=by unfold jh; exact if_neg ae
  have e5:jh fi mo=0:=by unfold jh; exact if_neg ae
  unfold fP e1 e2 e3 Go.Proofs.YtheefojaplnnoaaGreatDoor.e4 Go.Proofs.YtheefojaplnnoaaGreatDoor.e5 e6 e7 e8;dsimp only;rw[aV E1,aV E2,aV E3,aV e4,aV e5,aV E6,aV E7];exact E8
 have KF:=hid (show Kept (fun k=>k=w.heap.size+1+1) W9 ((((((((W9.setCell ⟨w.heap.size+1+1,0,none⟩ (.slice ta tn tc)).setCell ⟨w.heap.size+1+1,1,none⟩ (.slice ha hn hc)).setCell ⟨w.heap.size+1+1,2,none⟩ (.slice ga gn gc)).setCell ⟨w.heap.size+1+1,3,none⟩ (.int .i64 fi)).setCell ⟨w.heap.size+1+1,4,none⟩ (.int .i64 mo)).setCell ⟨w.heap.size+1+1,5,none⟩ (.slice fa fn fc)).setCell ⟨w.heap.size+1+1,6,none⟩ (.slice da dn dc)).setCell ⟨w.heap.size+1+1,7,none⟩ (.slice ea en ec)) from
  (((((((aw _ _ _ _).trans (aw _ _ _ _)).trans (aw _ _ _ _)).trans (aw _ _ _ _)).trans (aw _ _ _ _)).trans (aw _ _ _ _)).trans (aw _ _ _ _)).trans (aw _ _ _ _))
 have VF:=hid (show Rr ((((((((W9.setCell ⟨w.heap.size+1+1,0,none⟩ (.slice ta tn tc)).setCell ⟨w.heap.size+1+1,1,none⟩ (.slice ha hn hc)).setCell ⟨w.heap.size+1+1,2,none⟩ (.slice ga gn gc)).setCell ⟨w.heap.size+1+1,3,none⟩ (.int .i64 fi)).setCell ⟨w.heap.size+1+1,4,none⟩ (.int .i64 mo)).setCell ⟨w.heap.size+1+1,5,none⟩ (.slice fa fn fc)).setCell ⟨w.heap.size+1+1,6,none⟩ (.slice da dn dc)).setCell ⟨w.heap.size+1+1,7,none⟩ (.slice ea en ec)) R A D9 rs9 from
  (((((((V9.out.set ae).set ae).set ae).set ae).set ae).set ae).set ae).set ae)
 refine bodyPost_ret (v:=.agg #[.slice ta tn tc,.slice ha hn hc,.slice ga gn gc,.int .i64 fi,.int .i64 mo,.slice fa fn fc,.slice da dn dc,.slice ea en ec]) ?_ rfl (.inr ⟨{ ta:=ta,tn:=tn,tc:=tc,types:=ys1,ha:=ha,hn:=hn,hc:=hc,hosts:=ys2,ga:=ga,gn:=gn,gc:=gc,globals:=ys3,fi:=fi,mo:=mo,fa:=fa,fn:=fn,fc:=fc,fns:=ys6,da:=da,dn:=dn,dc:=dc,data:=ys7,ea:=ea,en:=en,ec:=ec,exps:=ys8 },rfl,hcw,?_,rs9,?_,?_,?_⟩)
 ·exact cu
 ·have K9:=KF.out;have z1:=T1.out.z;have z1b:=T2.out.z;have z1c:=T3.out.z;have z1d:=T7.out.z;have z1e:=T8.out.z;have z2:=SS2.out.size;have z3:=SS3.out.size;have z4:=SS4.out.size;have z5:=SS5.out.size;have z6':=SS6.out.size;have z7:=SS7.out.size;have z8:=SS8.out.size;have zl:=HZL.out;have hl:=HL.out
  have Q9:=K9.mono (T:=fun k=>k=R∨k=w.heap.size+1+1+1∨k=L∨k=w.heap.size+1+1) (fun k hk=>ae)
  have Q8:=(SS8.out.mono (T:=fun k=>k=R∨k=w.heap.size+1+1+1∨k=L∨k=w.heap.size+1+1) (fun k hk=>ae)).trans Q9
  have Q7:=(SS7.out.mono (T:=fun k=>k=R∨k=w.heap.size+1+1+1∨k=L∨k=w.heap.size+1+1) (fun k hk=>ae)).trans Q8
  have QL:=(SS6.out.mono (T:=fun k=>k=R∨k=w.heap.size+1+1+1∨k=L∨k=w.heap.size+1+1) (fun k hk=>ae)).trans Q7
  have Q6:=(aN HBL.out).trans QL
  have Q5:=(SS5.out.mono (T:=fun k=>k=R∨k=w.heap.size+1+1+1∨k=L∨k=w.heap.size+1+1) (fun k hk=>ae)).trans Q6
  have Q4:=(SS4.out.mono (T:=fun k=>k=R∨k=w.heap.size+1+1+1∨k=L∨k=w.heap.size+1+1) (fun k hk=>ae)).trans Q5
  have Q3:=(SS3.out.mono (T:=fun k=>k=R∨k=w.heap.size+1+1+1∨k=L∨k=w.heap.size+1+1) (fun k hk=>ae)).trans Q4
  have Q2:=(SS2.out.mono (T:=fun k=>k=R∨k=w.heap.size+1+1+1∨k=L∨k=w.heap.size+1+1) (fun k hk=>ae)).trans Q3
  refine⟨bU G1.out Q2 (fun b hb hl'=>?_),bU G2.out Q3 (fun b hb hl'=>?_),bU G3.out Q4 (fun b hb hl'=>?_),bU G6.out Q7 (fun b hb hl'=>?_),bU G7.out Q8 (fun b hb hl'=>?_),bU G8.out Q9 (fun b hb hl'=>?_),fun y hy=>?_,fun y hy=>?_,fun b hb=>?_,fun b hb=>?_,fun b hb=>?_,fun b hb=>?_,fun b hb=>?_,fun b hb=>?_,HGR.out⟩
  ·have:=G1b.out b hb; omega
  ·have:=G2b.out b hb; omega
  ·have:=G3b.out b hb; omega
  ·have:=G6b.out b hb; omega
  ·have:=G7b.out b hb; omega
  ·have:=G8b.out b hb; omega
  ·obtain⟨g1,g2⟩:=HOF.out y hy
   exact⟨fQ _ _ _ _ g1 Q7 (fun b hb=>vp),fun b hb=>vp⟩
  ·obtain⟨g1,g2⟩:=HOD.out y hy
   exact⟨qI _ _ _ _ g1 Q8 (fun b hb=>vp),fun b hb=>vp⟩
  ·have:=G1b.out b hb; omega
  ·have:=G2b.out b hb; omega
  ·have:=G3b.out b hb; omega
  ·have:=G6b.out b hb; omega
  ·have:=G7b.out b hb; omega
  ·have:=G8b.out b hb; omega
 ·rw[HRS2.out,HRS3.out,HRS4.out,HRS5.out,HRS6.out,HRS7.out,HRS8.out,HRS9.out]
  simp[gF,List.append_assoc]
 ·have e9:ds++gF { ta:=ta,tn:=tn,tc:=tc,types:=ys1,ha:=ha,hn:=hn,hc:=hc,hosts:=ys2,ga:=ga,gn:=gn,gc:=gc,globals:=ys3,fi:=fi,mo:=mo,fa:=fa,fn:=fn,fc:=fc,fns:=ys6,da:=da,dn:=dn,dc:=dc,data:=ys7,ea:=ea,en:=en,ec:=ec,exps:=ys8 }=D9:=by
   rw[← HD9.out,← HD8.out,← HD7.out,← HD6.out,← HD5.out,← HD4.out,← HD3.out,← HD2.out]
   simp[gF,List.append_assoc]
  rw[e9];exact VF.out
 ·exact T9.out.k.then KF.out (fun k hk hq=>ae)
theorem MQ{l1 l2:List Int}(r1:∀z∈l1,0≤z∧z≤255)(r2:∀z∈l2,0≤z∧z≤255)(h:((strOfNums l1).toList==(strOfNums l2).toList)=true):l1=l2:=by
 have h1:(strOfNums l1).toList=(strOfNums l2).toList:=nI;rw[cm,cm]at h1
 have h2:bD (strOfNums l1)=bD (strOfNums l2):=by unfold bD; rw[h1]
 rwa [jm l1 r1,jm l2 r2]at h2
theorem OD(a1 a2:Option Addr)(n1 n2 c1 c2:Nat)(l1 l2:List Int)(w:World)(h1:Seg w a1 n1 c1 l1)(h2:Seg w a2 n2 c2 l2) :
  Calls Tryz.prog 130 #[.slice a1 n1 c1,.slice a2 n2 c2] w fun e w'=>e=.returned (.bool ((strOfNums l1).toList==(strOfNums l2).toList))∧w'=w:=by
 have g1:=yu w a1 n1 c1 l1 h1;have g2:=yu w a2 n2 c2 l2 h2;clear h1 h2;generalize strOfNums l1=s1 at *;generalize strOfNums l2=s2 at *
 go_enter Tryz.func130,Tryz.ntmps130
 exact jS
theorem xC{w:World}{a:Option Addr}{n c k:Nat}{zs:List Int}(h:Seg w a n c zs)(hk:k≤n):Seg w a k c (zs.take k):=by
 obtain⟨h1,h2,h3,h4,h5⟩:=h
 refine⟨by rw[List.length_take]; omega,ae,ae,fun z hz=>h4 z (List.mem_of_mem_take hz),?_⟩
 rcases h5 with h0 | ⟨b,off,ha,hc⟩
 ·exact .inl ae
 ·refine .inr ⟨b,off,ha,fun j hj=>?_⟩
  have:=hc j ae
  rw[List.getD_eq_getElem?_getD]at this ⊢;rw[List.getElem?_take,if_pos hj];exact this
theorem KA(a:Option Addr)(n c G:Nat)(zs:List Int)(w:World)(h:Seg w a n c zs)(hg:Seg w (some ⟨G,0,none⟩) 5 5 cJ) :
  Calls Tryz.prog 85 #[.slice a n c,.slice (some ⟨G,0,none⟩) 5 5] w fun e w'=>∃b,e=.returned (.bool b)∧w'=w∧(b=true→∃r,zs=cJ++r):=by
 by_cases hn:5≤n
 ·obtain⟨b,off,ha,-⟩:∃b off,a=some ⟨b,off,none⟩∧True:=by
   rcases h.2.2.2.2 with h0 | ⟨b,off,ha,_⟩
   ·omega
   ·exact⟨b,off,ha,trivial⟩
  subst ha;have HE:=hid (OD (some ⟨b,off,none⟩) (some ⟨G,0,none⟩) 5 5 c 5 (zs.take 5) cJ w (xC h hn) hg)
  have HF:=hid (fun hh=>MQ (xC h hn).2.2.2.1 hg.2.2.2.1 hh)
  have hcap:=h.2.1
  have d1:decide (5≤n)=true:=by simp[hn]
  have d2:decide ((5:Int)≤(n:Int))=true:=aI;obtain⟨bb,hbb⟩:∃bb,((strOfNums (zs.take 5)).toList==(strOfNums cJ).toList)=bb:=⟨_,rfl⟩;rw[hbb]at HE;have HBB:=hid hbb;clear h hg hbb
  go_enter Tryz.func85,Tryz.ntmps85
  go_wp2_with fail;refine HE.out.mono ?_;rintro e w' ⟨rfl,hw⟩;obtain rfl:=hw.symm;go_wp2_with fail;go_ret
  refine⟨bb,rfl,rfl,fun ht=>?_⟩
  have:=HF.out (by rw[HBB.out]; exact ht)
  exact⟨zs.drop 5,by rw[← this,List.take_append_drop]⟩
 ·have d1:decide (5≤n)=false:=aI;have d2:decide ((5:Int)≤(n:Int))=false:=aI;clear h hg
  go_enter Tryz.func85,Tryz.ntmps85
  go_wp2_with fail;go_ret
  exact⟨false,rfl,rfl,fun h=>cj⟩
end Go.Proofs.YtheefojaplnnoaaGreatDoor
