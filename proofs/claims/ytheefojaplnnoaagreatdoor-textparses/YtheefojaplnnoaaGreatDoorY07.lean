/-
  Texts Ea Eb Inx Xd Xe Xf Xg Xh Qa Qd Qe Qf Qi Pd Pe Pf Fnd Pg Ph Pi Pj Pk.
-/
import Derived.Test.YtheefojaplnnoaaGreatDoorY06
set_option linter.unusedVariables false
set_option maxRecDepth 100000
set_option maxHeartbeats 16000000
namespace Go.Proofs.YtheefojaplnnoaaGreatDoor
open Go.Proofs.Tryz
open Go.RowKit
def fw:List Int:=[70,76,71,78,1]
def cJ(m:MM):Int:=orE (fK m) (if 65536<(fw++qL m).length then 13 else 0)
variable {w W:World}{R g:Nat}{a:OAz}
theorem Far.later(h:Far w R g a)(hb:Zx w W):Far W R g a:=fun b off c hh=>⟨(h b off c hh).1,(h b off c hh).2.1,Z8 (h b off c hh).2.2 hb.size⟩
variable {m:MM}
theorem MOk.later(h:MOk w R g m)(hb:Zx w W):MOk W R g m:=by
 have hk:Kept (fun _=>False) w W:=bC hb;refine⟨h.pt.kept hk (fun _ _ _ _=>id),h.tf.later hb,h.ph.kept hk (fun _ _ _ _=>id),h.hf.later hb,h.hr,h.pg.kept hk (fun _ _ _ _=>id),h.gf.later hb,h.gr,h.i0,h.i1,h.o0,h.o1,h.pf.kept hk (fun _ _ _ _=>id),h.ff.later hb,fun j x hj=>?_,h.pd.kept hk (fun _ _ _ _=>id),h.df.later hb,fun j x hj=>?_,h.pe.kept hk (fun _ _ _ _=>id),h.ef.later hb,h.er⟩
 ·obtain⟨a1,a2,a3,a4⟩:=h.fr j x hj
  refine⟨a1,a2.kept hk (fun _ _ _ _=>id),a3.later hb,fun i y hi=>?_⟩;obtain⟨b1,b2,b3,b4⟩:=a4 i y hi;exact⟨b1,b2,b3.kept' hk (fun _ _ _ _=>id),b4.later hb⟩
 obtain⟨a1,a2,a3⟩:=h.dr j x hj;exact⟨a1,a2.kept' hk (fun _ _ _ _=>id),a3.later hb⟩
def iF(w:World)(m:MM):World:=((w.alloc (.cells (mV m) 29)).alloc (jh none 0 0)).alloc (dQ 0)
def W22(w:World)(m:MM):World:=((iF w m).alloc (.cells #[ZU 70,ZU 76,ZU 71,ZU 78,ZU 1] 5 (5,6))).alloc (.cells #[ZL (w.heap.size+1+1+1) 5 5] 152)
theorem Kw(w:World)(m:MM):Zx w (W22 w m)/\(W22 w m).heap.size=w.heap.size+1+1+1+1+1/\Wr (W22 w m) (w.heap.size+1+1+1+1) (w.heap.size+1+1+1) 5 fw /\
  (W22 w m).heap[w.heap.size]? =some (.cells (mV m) 29)/\(W22 w m).cell? (ZA (w.heap.size+1) 0)=some (ZN)/\(W22 w m).frozen? (ZA (w.heap.size+1) 0)=false/\(W22 w m).cell? (ZA (w.heap.size+1+1) 0)=some (ZI 0)/\(W22 w m).frozen? (ZA (w.heap.size+1+1) 0)=false:=by
 have za:(iF w m).heap.size=w.heap.size+1+1+1:=by simp[iF]
 have zb:((iF w m).alloc (.cells #[ZU 70,ZU 76,ZU 71,ZU 78,ZU 1] 5 (5,6))).heap.size=w.heap.size+1+1+1+1:=by simp[iF]
 have B1:Zx w (iF w m):=(((ZT _ w).alloc lRn _).alloc av _).alloc bI _;have B2:=aj (iF w m) (.cells #[ZU 70,ZU 76,ZU 71,ZU 78,ZU 1] 5 (5,6));have B3:=aj ((iF w m).alloc (.cells #[ZU 70,ZU 76,ZU 71,ZU 78,ZU 1] 5 (5,6))) (.cells #[ZL (w.heap.size+1+1+1) 5 5] 152);have hb:∀k,k<w.heap.size+1+1+1->(W22 w m).heap[k]? =(iF w m).heap[k]?:=fun k hk=>(B3.block k ae).trans (B2.block k ae);have hg:=(ZZ (iF w m) (.cells #[ZU 70,ZU 76,ZU 71,ZU 78,ZU 1] 5 (5,6))).1;rw[za]at hg;have hg':(W22 w m).heap[w.heap.size+1+1+1]? =some (.cells #[ZU 70,ZU 76,ZU 71,ZU 78,ZU 1] 5 (5,6)):=(B3.block _ ae).trans hg;have hR:=(ZZ ((iF w m).alloc (.cells #[ZU 70,ZU 76,ZU 71,ZU 78,ZU 1] 5 (5,6))) (.cells #[ZL (w.heap.size+1+1+1) 5 5] 152)).1;rw[zb]at hR;have hR':(W22 w m).heap[w.heap.size+1+1+1+1]? =some (.cells #[ZL (w.heap.size+1+1+1) 5 5] 152):=hR
 have c1:(iF w m).heap[w.heap.size+1]? =some (jh none 0 0):=by
  unfold iF;rw[(aj ((w.alloc (.cells (mV m) 29)).alloc (jh none 0 0)) _).block _ av];have:=(ZZ (w.alloc (.cells (mV m) 29)) (jh none 0 0)).1;exact cR
 have c2:(iF w m).heap[w.heap.size+1+1]? =some (dQ 0):=by
  have:=(ZZ ((w.alloc (.cells (mV m) 29)).alloc (jh none 0 0)) (dQ 0)).1
  simpa[iF] using this
 have c0:(iF w m).heap[w.heap.size]? =some (.cells (mV m) 29):=by
  unfold iF;rw[(aj ((w.alloc (.cells (mV m) 29)).alloc (jh none 0 0)) _).block _ bI,(aj (w.alloc (.cells (mV m) 29)) _).block _ av];exact(ZZ w _).1
 refine⟨(B1.trans (B2.mono B1.size)).trans (B3.mono ae),by simp[W22,iF],⟨?_,?_,.inr ⟨rfl,au,?_,rfl,?_⟩,ae⟩,(hb _ ae).trans c0,?_,?_,?_,?_⟩
 ·simp[World.cell?,hR',fw]
 ·simp[World.frozen?,hR']
 ·simp[W22,iF]
 ·intro j u hj;have hl:=aF hj
  simp[fw]at hl;simp only[World.cell?,hg'];have:j=0\/j=1\/j=2\/j=3\/j=4:=ae
  rcases this with rfl | rfl | rfl | rfl | rfl <;> simpa[fw] using hj
 ·have:=(hb (w.heap.size+1) ae).trans c1
  simp[World.cell?,this]
 ·have:=(hb (w.heap.size+1) ae).trans c1
  simp[World.frozen?,this]
 ·have:=(hb (w.heap.size+1+1) ae).trans c2
  simp[World.cell?,this]
 have:=(hb (w.heap.size+1+1) ae).trans c2;simp[World.frozen?,this]
theorem CX(w:World)(m:MM):(convert 63 63 (ZL (w.heap.size+1+1+1) 5 5)).run prog ((((w.alloc (.cells (mV m) 29)).alloc (jh none 0 0)).alloc (dQ 0)).alloc (.cells #[ZU 70,ZU 76,ZU 71,ZU 78,ZU 1] 5)) =
  .ok (ZL (w.heap.size+1+1+1) 5 5) ((iF w m).alloc (.cells #[ZU 70,ZU 76,ZU 71,ZU 78,ZU 1] 5 (5,6))):=by
 have za:(iF w m).heap.size=w.heap.size+1+1+1:=by simp[iF]
 have:=Go.Lib.run_convert_bytes_const (P:=prog) (iF w m) 63 5 #[ZU 70,ZU 76,ZU 71,ZU 78,ZU 1] 5 5 underlying63 underlying5;rw[za]at this;exact this
theorem Yk(m:MM)(w:World)(hk:aX w)(hm:∀R g,w.heap.size<=R->w.heap.size<=g->MOk w R g m) :
  Zw 22 #[.agg (mV m)] w fun e w'=>Zx w w'/\(cJ m≠0->e=.returned (.tuple #[ZN,ZI (cJ m)]))/\(cJ m=0->∃a c,e=.returned (.tuple #[.slice a (fw++qL m).length c,ZI 0])):=by
 have hmf:∀(fn:Fn)(first cap:AVz)(w:World),(Instr.makeFunc fn first cap).run prog w=.ok (.func fn first cap) w:=fun _ _ _ _=>rfl
 obtain⟨B0,z0,hwr,x0,x1,f1,x2,f2⟩:=Kw w m;have HWk:=hid (VZ (w.heap.size+1+1+1+1) (w.heap.size+1+1+1) 5 fw m (W22 w m) hwr au ae ae (hk.later B0 hk.pos) ((hm _ _ ae ae).later B0));have hcv:=CX w m;have hW:((iF w m).alloc (.cells #[ZU 70,ZU 76,ZU 71,ZU 78,ZU 1] 5 (5,6))).alloc (.cells #[ZL (w.heap.size+1+1+1) 5 5] 152)=W22 w m:=rfl
 have za:((iF w m).alloc (.cells #[ZU 70,ZU 76,ZU 71,ZU 78,ZU 1] 5 (5,6))).heap.size=w.heap.size+1+1+1+1:=by simp[iF]
 obtain⟨⟨m0,m1,m2,m3,m4,m5,m6,m7⟩,_⟩:=ax x0;have BW:=hid B0;generalize W22 w m=W1 at *;generalize (iF w m).alloc (.cells #[ZU 70,ZU 76,ZU 71,ZU 78,ZU 1] 5 (5,6))=W0 at *;unfold mV at hcv HWk;show Zw 22 #[.agg #[.slice m.ta m.tn m.tc,.slice m.ha m.hn m.hc,.slice m.ga m.gn m.gc,ZI m.fi,ZI m.mo,.slice m.fa m.fn m.fc,.slice m.da m.dn m.dc,.slice m.ea m.en m.ec]] w _;clear hm hk B0
 go_enter_defers func22,ntmps22
 go_wp2_with fail;refine HWk.out.mono ?_;rintro e w9⟨qag,hno⟩
 by_cases hx:fK m=0
 rotate_left
 ·obtain⟨⟨p,rfl⟩,Nx⟩:=hno hx;have hcm:cJ m=fK m:=eo hx;have y1:=Nx.cell x1 ae;have y2:=Nx.cell x2 ae;have g1:=(aS (Nx.block (w.heap.size+1) ae ae) 0).trans f1;have g2:=(aS (Nx.block (w.heap.size+1+1) ae ae) 0).trans f2;have HC:=hid (EQ (fK m) p (w.heap.size+1) (w.heap.size+1+1) _ _ w9 y1 g1 y2 g2 ae);clear qag hno HWk;refine leaves_cons (f:=87) (args:=#[ZP (w.heap.size+1) 0,ZP (w.heap.size+1+1) 0]) av dB ?_;refine HC.out.mono ?_;rintro e u' wl ⟨rfl,rfl,q1,q2,q3⟩
  have HB:Hid (Zx w wl):=(BW.out.trans ((Nx.to_below (B:=w.heap.size) ae (fun k hk=>ae)).mono lRn)).trans (q3.to_below (by have:=Nx.size; omega) (fun k hk=>ae));refine(show Go.Leaves prog Tryz.f22 _ _ [] FrameMode.returning wl from⟨.tuple #[ZN,ZI (fK m)],?_,HB.out,fun _=>?_,fun h0=>absurd (hcm.symm.trans h0) hx⟩)
  ·simp[results,results22,go_sem,q1,q2]
  rw[hcm]
 obtain⟨v,rfl,g',cap',hw9,Nx⟩:=qag hx;have y1:=Nx.cell x1 ae;have y2:=Nx.cell x2 ae;have g1:=(aS (Nx.block (w.heap.size+1) ae ae) 0).trans f1;have g2:=(aS (Nx.block (w.heap.size+1+1) ae ae) 0).trans f2;have c9:=hw9.c0;have hK9:=hid Nx;have hz9:=Nx.size;have hcm:cJ m=if 65536<(fw++qL m).length then 13 else 0:=aM hx
 have HB9:Hid (Zx w w9):=BW.out.trans ((Nx.to_below (B:=w.heap.size) ae (fun k hk=>ae)).mono lRn);clear qag hno HWk m0 m1 m2 m3 m4 m5 m6 m7 hwr x0 x1 x2 f1 f2 Nx;obtain⟨E,hE⟩:∃E,fw++qL m=E:=⟨_,rfl⟩;rw[hE]at c9 hcm hw9;have HE:=hid hE;clear hE
 by_cases hlong:65536<E.length
 ·have hd:decide ((E.length:Int)<=65536)=false:=aA;rw[if_pos hlong]at hcm;go_wp2_with fail
  refine(gi (by first | rfl | exact hd)).mono ?_
  rintro e w9' ⟨rfl,rfl⟩;have HC:=hid (EQ 13 0 (w.heap.size+1) (w.heap.size+1+1) _ _ w9' y1 g1 y2 g2 ae);refine leaves_cons (f:=87) (args:=#[ZP (w.heap.size+1) 0,ZP (w.heap.size+1+1) 0]) av dB ?_;refine HC.out.mono ?_;rintro e u' wl ⟨rfl,rfl,q1,q2,q3⟩;have HB:Hid (Zx w wl):=HB9.out.trans (q3.to_below ae (fun k hk=>ae));refine(show Go.Leaves prog Tryz.f22 _ _ [] FrameMode.returning wl from⟨.tuple #[ZN,ZI 13],?_,HB.out,fun _=>?_,fun h0=>by rw[hcm]at h0; cases h0⟩)
  ·simp[results,results22,go_sem,q1,q2]
  rw[hcm]
 have hd:decide ((E.length:Int)<=65536)=true:=aA;rw[if_neg hlong]at hcm;go_wp2_with fail
 refine(dG (by first | rfl | exact hd)).mono ?_
 rintro e w9' ⟨rfl,rfl⟩;go_wp2_with fail;generalize hW9:w9'.setCell (ZA (w.heap.size+1) 0) (ZL g' E.length cap')=Wa at *
 have k1:Wa.cell? (ZA (w.heap.size+1) 0)=some (ZL g' E.length cap'):=by rw[<- hW9]; exact World.cell?_setCell_same _ _ _ y1
 have k2:Wa.cell? (ZA (w.heap.size+1+1) 0)=some (ZI 0):=by rw[<- hW9,World.cell?_setCell_other _ _ _ _ av]; exact y2
 have K1:Below w.heap.size w9' Wa:=by rw[<- hW9]; exact(aB w9' (w.heap.size+1) 0 _).to_below ae (fun k hk=>ae)
 have zz:Wa.heap.size=w9'.heap.size:=by rw[<- hW9]; simp[World.setCell]
 generalize hWb:Wa.setCell (ZA (w.heap.size+1+1) 0) (ZI 0)=Wb at *
 have n1:Wb.cell? (ZA (w.heap.size+1) 0)=some (ZL g' E.length cap'):=by rw[<- hWb,World.cell?_setCell_other _ _ _ _ av]; exact k1
 have n2:Wb.cell? (ZA (w.heap.size+1+1) 0)=some (ZI 0):=by rw[<- hWb]; exact World.cell?_setCell_same _ _ _ k2
 have K2:Below w.heap.size Wa Wb:=by rw[<- hWb]; exact(aB Wa (w.heap.size+1+1) 0 _).to_below ae (fun k hk=>ae)
 refine leaves_cons (f:=87) (args:=#[ZP (w.heap.size+1) 0,ZP (w.heap.size+1+1) 0]) av dB ?_;refine(Vu _ _ _).mono ?_;rintro e u' wl ⟨rfl,rfl,hb10⟩;have q1:=(hb10.cell (by exact ZQ n1)).trans n1;have q2:=(hb10.cell (by exact ZQ n2)).trans n2;have HB:Hid (Zx w wl):=((HB9.out.trans K1).trans K2).trans (hb10.mono (by have:=K2.size; omega));refine(show Go.Leaves prog Tryz.f22 _ _ [] FrameMode.returning wl from⟨.tuple #[ZL g' E.length cap',ZI 0],?_,HB.out,fun h0=>absurd hcm h0,fun _=>⟨some (ZA g' 0),cap',?_⟩⟩)
 ·simp[results,results22,go_sem,q1,q2]
 rw[HE.out]
theorem FJ(m:MM)(w:World)(hk:aX w)(hm:∀R g,w.heap.size<=R->w.heap.size<=g->MOk w R g m) :
  Zw 31 #[.agg (mV m)] w (ZC (ZI (cJ m)) w):=by
 have B1:=aj w (.cells (mV m) 29);have HE:=hid (Yk m (w.alloc (.cells (mV m) 29)) (hk.later B1 hk.pos) (fun R g h1 h2=>(hm R g (by simp at h1; omega) (by simp at h2; omega)).later B1));have hb:=(ZZ w (.cells (mV m) 29)).1;have BW:=hid B1;obtain⟨⟨m0,m1,m2,m3,m4,m5,m6,m7⟩,_⟩:=ax hb;have HW:w.alloc (bM m.ta m.tn m.tc m.ha m.hn m.hc m.ga m.gn m.gc m.fi m.mo m.fa m.fn m.fc m.da m.dn m.dc m.ea m.en m.ec)=w.alloc (.cells (mV m) 29):=rfl;generalize w.alloc (.cells (mV m) 29)=W1 at *;unfold mV at HE;show Zw 31 #[.agg #[.slice m.ta m.tn m.tc,.slice m.ha m.hn m.hc,.slice m.ga m.gn m.gc,ZI m.fi,ZI m.mo,.slice m.fa m.fn m.fc,.slice m.da m.dn m.dc,.slice m.ea m.en m.ec]] w _;clear hm hk B1;go_enter func31,ntmps31
 go_wp2_with fail;refine HE.out.mono ?_;rintro e w2⟨hb2,hno,qag⟩;have HB:=hid (jJ BW.out hb2)
 by_cases hx:cJ m=0
 ·obtain⟨a,c,rfl⟩:=qag hx;go_wp2_with fail;go_ret;exact⟨oU,HB.out⟩
 obtain rfl:=hno hx;go_wp2_with fail;go_ret;exact⟨rfl,HB.out⟩
variable {o:Obj}{b:Nat}
theorem alloc_at(h:w.heap.size=b):(w.alloc o).heap[b]? =some o:=by subst h; exact hZn w o
theorem Dn{α β:Type}(g:α->List β)(k:Nat)(hk:∀x,(g x).length=k):∀(l:List α)(i q:Nat),q<k->(l.flatMap g)[i*k+q]? =(l[i]?).bind fun x=>(g x)[q]?
 | [],i,q,_=>by simp
 | x::l,0,q,hq=>by
  rw[List.flatMap_cons,Zaa (by rw[hk]; omega)];simp
 | x::l,i+1,q,hq=>by
  have ih:=Dn g k hk l i q hq;rw[List.flatMap_cons,Zag (by rw[hk,Nat.succ_mul]; omega),hk];rw[show(i+1)*k+q-k=i*k+q by rw[Nat.succ_mul]; omega,ih];simp
theorem oD{α β:Type}(g:α->List β)(k:Nat)(hk:∀x,(g x).length=k):∀(l:List α),(l.flatMap g).length=l.length*k
 | []=>by simp
 | x::l=>by rw[List.flatMap_cons,ZV,hk,oD g k hk l,Z1,Nat.succ_mul]; omega
variable {S:Zam}{w':World}{base e k n:Nat}{xs:Zah}
theorem cf{v:Value}(h:w.ownsRow base e k v n xs)(hk:Kept S w w')(hs:∀b,v.ownBlock=some b->¬S b):w'.ownsRow base e k v n xs:=by
 refine⟨h.1,?_⟩
 rcases h.2 with h0 | ⟨g,cp,cur,rfl,h2,h3,h4⟩
 ·exact .inl h0
 exact .inr ⟨g,cp,cur,rfl,h2,(hk.block g (aK h3) (hs g rfl)).trans h3,h4⟩
variable {base':Nat}
theorem si{v:Value}(h:w.ownsRow base e k v n xs)(hb:base'<=base):w.ownsRow base' e k v n xs:=by
 exact wI
theorem Xm{v:Value}(h:w.ownsRow base e k v n xs)(hb:v.ownBlock=some b):base<=b/\b<w.heap.size/\∃cur,w.heap[b]? =some (.cells cur e):=by
 rcases h.2 with ⟨h0,_⟩ | ⟨g,cp,cur,rfl,h2,h3,h4⟩
 ·rw[h0]at hb; cases hb
 obtain rfl:g=b:=lh;exact⟨h2,aK h3,cur,h3⟩
def dA(y:FuM):List Value:=[ZI y.1,.string y.2.1,.slice y.2.2.1.1 y.2.2.1.2.1 y.2.2.1.2.2]
def iD(y:DaM):List Value:=[ZI y.1,.slice y.2.1.1 y.2.1.2.1 y.2.1.2.2]
def iy(x:Sg):List Value:=[.string x.1,.string x.2]
def fQ(x:Gl):List Value:=[ZU x.1,.bool x.2.1,.int .u64 x.2.2]
def jV(x:Ex):List Value:=[.string x.1,ZI x.2]
def fJ(x:Int):List Value:=[ZI x]
structure FLd(w:World)(e k N:Nat)(done Z:Zah)(wr:World):Prop where
 row:wr.ownsRow w.heap.size e k (ZL w.heap.size N N) N (done++Z.drop done.length)
 bel:Zx w wr
section
variable {w:World} {e k N:Nat} {done Z:Zah} {wr:World}
theorem FLd.lt(h:FLd w e k N done Z wr):w.heap.size<wr.heap.size:=(Xm h.row rfl).2.1
variable {j:Nat}
theorem FLd.put(h:FLd w e k N done Z wr)(hj:done.length=j)(hlt:j<Z.length)(v:Value):FLd w e k N (done++[v]) Z (wr.setCell (ZA w.heap.size j) v):=by
 subst hj;have h1:=(h.row.stored done.length v).1
 have he:(done++Z.drop done.length).set done.length v=(done++[v])++Z.drop (done++[v]).length:=by
  have hd:(Z.drop done.length).set 0 v=v::Z.drop (done.length+1):=by
   rw[List.drop_eq_getElem_cons hlt]; rfl
  rw[List.set_append_right _ _ lRn,Nat.sub_self,hd];simp
 rw[he]at h1;exact⟨h1,h.bel.setCell av _⟩
theorem FLd.later(h:FLd w e k N done Z wr)(hb:Zx wr w'):FLd w e k N done Z w' :=
 ⟨cf h.row (bC hb) (fun _ _=>id),h.bel.trans (hb.mono h.bel.size)⟩
theorem FLd.cell(h:FLd w e k N done Z wr)(hZ:Z.length=N*k)(hj:j<N*k):∃v,wr.cell? (ZA w.heap.size j)=some v:=by
 have h1:=h.row.cellAt j hj;have h2:=h.row.1;exact⟨_,h1.trans (aD ae)⟩
theorem FLd.free(h:FLd w e k N done Z wr)(j:Nat):wr.frozen? (ZA w.heap.size j)=false:=h.row.frozenAt j
theorem FLd.full(h:FLd w e k N done Z wr)(hZ:Z.length=done.length):wr.ownsRow w.heap.size e k (ZL w.heap.size N N) N done:=by
 have:=h.row
 rwa [List.drop_of_length_le ae,List.append_nil]at this
end
variable {j:Nat}
theorem kX{α:Type}{base e k N c B:Nat}(g:α->List Value)(hk:∀x,(g x).length=k){L:List α}(h:w.ownsRow base e k (ZL B N c) N (L.flatMap g))(hL:L.length=N){x:α}(hj:L[j]? =some x)(q:Nat)(hq:q<k):w.cell? (ZA B (j*k+q))=(g x)[q]?:=by
 have hjn:=aF hj
 have hlt:j*k+q<N*k:=by
  have:(j+1)*k<=N*k:=Nat.mul_le_mul_right k ae;rw[Nat.succ_mul]at this; omega
 rw[h.cellAt _ hlt,Dn g k hk L j q hq,hj]; rfl
theorem Zn(a1 a2:OAz)(n c1 c2:Nat)(l:List Sg)(w:World)(h1:jP w a1 n l)(h2:jP w a2 n l)(hn:n<=1000000) :
  Zw 40 #[.slice a1 n c1,.slice a2 n c2] w (ZC (.bool true) w):=by
 have hne:((n:Int) != n)=false:=av;obtain⟨H1,H2⟩:=Zz h1 h2;have hll:=h1.1;clear h1 h2;go_enter func40,ntmps40;exact OC
theorem YU(a1 a2:OAz)(n c1 c2:Nat)(l:List Gl)(w:World)(h1:qI w a1 n l)(h2:qI w a2 n l)(hn:n<=1000000) :
  Zw 42 #[.slice a1 n c1,.slice a2 n c2] w (ZC (.bool true) w):=by
 have hne:((n:Int) != n)=false:=av;obtain⟨H1,H2⟩:=Zz h1 h2;have hll:=h1.1;clear h1 h2;go_enter func42,ntmps42;go_wp2_with fail
 go_loopw [5] (fun p wr=>∃t:Nat,t<=n/\p=ZI t/\Hid (Zx w wr)) (fun p _=>n-(intOf p).toNat)
 case atStart=>exact⟨0,ae,rfl,hid (ZT _ _)⟩
 case round =>
  obtain⟨t,ht,rfl,HB⟩:=hrel
  by_cases hlt:t<n
  ·have hlt':(t:Int)<(n:Int):=ae;obtain⟨x,hx⟩:=ZB l t ae;obtain⟨b1,o1,rfl,dk⟩:=H1.out.2.resolve_left ae;obtain⟨b2,o2,rfl,X2⟩:=H2.out.2.resolve_left ae;obtain⟨e10,e11,e12⟩:=dk t x hx;have e10:=ai HB.out e10;have e11:=ai HB.out e11;have e12:=ai HB.out e12;obtain⟨e20,e21,e22⟩:=X2 t x hx;have e20:=ai HB.out e20;have e21:=ai HB.out e21;have e22:=ai HB.out e22;clear dk X2 hx
   have pw:=hid (fun(n:Nat)=>(show Zx w (wr.drewN n) from dY HB.out (Kept.drewN (fun _=>False) _ n) HB.out.size (fun _ x=>x.elim)));obtain⟨x0,x1,x2⟩:=x;exact yV
  exact sj
theorem Zm(a1 a2:OAz)(n c1 c2:Nat)(l:List Ex)(w:World)(h1:qw w a1 n l)(h2:qw w a2 n l)(hn:n<=1000000) :
  Zw 45 #[.slice a1 n c1,.slice a2 n c2] w (ZC (.bool true) w):=by
 have hne:((n:Int) != n)=false:=av;obtain⟨H1,H2⟩:=Zz h1 h2;have hll:=h1.1;clear h1 h2;go_enter func45,ntmps45;exact OC
def oV(x:Int):List Value:=[ZU x]
def zk(w:World)(a:OAz)(n:Nat)(xs:LIz):Prop :=
 xs.length=n/\(n=0\/∃b off,a=some (ZA b off)/\∀(j:Nat)x,xs[j]? =some x->w.cell? (ZA b (off+j))=some (ZU x))
variable {zs:LIz}
theorem zk.of{n c:Nat}(h:Seg w a n c zs):zk w a n zs:=by
 obtain⟨hl,_,_,_,hc⟩:=h;refine⟨hl,hc.imp id fun⟨b,off,e,hc⟩=>⟨b,off,e,fun j x hj=>?_⟩⟩;have hjl:=aF hj;rw[hc j ae,Z3,hj]; rfl
theorem Zr(a1 a2:OAz)(n c1 c2:Nat)(l:LIz)(w:World)(h1:zk w a1 n l)(h2:zk w a2 n l)(hn:n<=1000000) :
  Zw 23 #[.slice a1 n c1,.slice a2 n c2] w (ZC (.bool true) w):=by
 have hne:((n:Int) != n)=false:=av;obtain⟨H1,H2⟩:=Zz h1 h2;have hll:=h1.1;clear h1 h2;go_enter func23,ntmps23;exact Qz
theorem XV(a1 a2:OAz)(n c1 c2:Nat)(l:LIz)(w:World)(h1:mE w a1 n l)(h2:mE w a2 n l)(hn:n<=1000000) :
  Zw 41 #[.slice a1 n c1,.slice a2 n c2] w (ZC (.bool true) w):=by
 have hne:((n:Int) != n)=false:=av;obtain⟨H1,H2⟩:=Zz h1 h2;have hll:=h1.1;clear h1 h2;go_enter func41,ntmps41;exact Qz
def eD(y:InM):List Value:=[ZU y.1,ZI y.2.1,.slice y.2.2.1.1 y.2.2.1.2.1 y.2.2.1.2.2]
def vz(w:World)(x:InM):Prop:=mE w x.2.2.1.1 x.2.2.1.2.1 x.2.2.2/\x.2.2.1.2.1<=200000
def tT(w:World)(x:DaM):Prop:=zk w x.2.1.1 x.2.1.2.1 x.2.2/\x.2.1.2.1<=1000000
def pS(w:World)(x:FuM):Prop:=AtIn w x.2.2.1.1 x.2.2.1.2.1 x.2.2.2/\x.2.2.1.2.1<=200000/\∀y∈x.2.2.2,vz w y
variable {xs:LIz}
theorem zk.kept(h:zk w a n xs)(hk:Kept S w w')(hS:∀b off c,a=some ⟨b,off,c⟩->¬S b):zk w' a n xs :=
 ⟨h.1,h.2.imp id fun⟨b,off,ha,hc⟩=>⟨b,off,ha,fun j x hj=>hk.cell (hc j x hj) (hS _ _ _ ha)⟩⟩
variable {x:InM}
theorem vz.later(h:vz w x)(hb:Zx w w'):vz w' x:=⟨h.1.kept (bC hb) (fun _ _ _ _=>id),h.2⟩
variable {x:DaM}
theorem tT.later(h:tT w x)(hb:Zx w w'):tT w' x:=⟨h.1.kept (bC hb) (fun _ _ _ _=>id),h.2⟩
variable {x:FuM}
theorem pS.later(h:pS w x)(hb:Zx w w'):pS w' x:=⟨h.1.kept (bC hb) (fun _ _ _ _=>id),h.2.1,fun y hy=>(h.2.2 y hy).later hb⟩
def Oc(x y:InM):Prop:=y.1=x.1/\y.2.1=x.2.1/\y.2.2.1.2.1=x.2.2.1.2.1/\y.2.2.2=x.2.2.2
def MO(x y:DaM):Prop:=y.1=x.1/\y.2.1.2.1=x.2.1.2.1/\y.2.2=x.2.2
def MD(x y:FuM):Prop:=y.1=x.1/\y.2.1=x.2.1/\y.2.2.1.2.1=x.2.2.1.2.1/\y.2.2.2.length=x.2.2.2.length/\∀(j:Nat)a b,x.2.2.2[j]? =some a->y.2.2.2[j]? =some b->Oc a b
structure MSr(w:World)(m:MM):Prop where
 pt:jP w m.ta m.tn m.types
 tn:m.tn<=200000
 ph:mE w m.ha m.hn m.hosts
 hn:m.hn<=200000
 pg:qI w m.ga m.gn m.globals
 gn:m.gn<=200000
 pf:pC w m.fa m.fn m.fns
 fn:m.fn<=200000
 fx:∀x∈m.fns,pS w x
 pd:qM w m.da m.dn m.data
 dn:m.dn<=200000
 dx:∀x∈m.data,tT w x
 pe:qw w m.ea m.en m.exps
 en:m.en<=200000
theorem MSr.later(h:MSr w m)(hb:Zx w W):MSr W m:=by
 have hk:Kept (fun _=>False) w W:=bC hb;exact⟨h.pt.kept hk (fun _ _ _ _=>id),h.tn,h.ph.kept hk (fun _ _ _ _=>id),h.hn,h.pg.kept hk (fun _ _ _ _=>id),h.gn,h.pf.kept hk (fun _ _ _ _=>id),h.fn,fun x hx=>(h.fx x hx).later hb,h.pd.kept hk (fun _ _ _ _=>id),h.dn,fun x hx=>(h.dx x hx).later hb,h.pe.kept hk (fun _ _ _ _=>id),h.en⟩
def lU(mp:Value)(m:MM)(ln pt:Int):Array Value:=#[mp,.slice m.ta m.tn m.tc,.slice m.ha m.hn m.hc,.slice m.ga m.gn m.gc,ZI m.fi,ZI m.mo,.slice m.fa m.fn m.fc,.slice m.da m.dn m.dc,.slice m.ea m.en m.ec,ZI ln,ZI pt]
structure FnO(w:World)(base:Nat)(x:FuM):Prop where
 code:w.ownsRow base 75 3 (.slice x.2.2.1.1 x.2.2.1.2.1 x.2.2.1.2.2) x.2.2.1.2.1 (x.2.2.2.flatMap eD)
 lab:∀y∈x.2.2.2,w.ownsRow base 3 1 (.slice y.2.2.1.1 y.2.2.1.2.1 y.2.2.1.2.2) y.2.2.1.2.1 (y.2.2.2.flatMap fJ)
def fcb(x:FuM):Option Nat:=(Value.slice x.2.2.1.1 x.2.2.1.2.1 x.2.2.1.2.2).ownBlock
def ibk(y:InM):Option Nat:=(Value.slice y.2.2.1.1 y.2.2.1.2.1 y.2.2.1.2.2).ownBlock
def dbk(x:DaM):Option Nat:=(Value.slice x.2.1.1 x.2.1.2.1 x.2.1.2.2).ownBlock
def vh(m:MM):List (Option Nat):=(Value.slice m.ha m.hn m.hc).ownBlock::m.fns.flatMap fun x=>x.2.2.2.map ibk
def NeB(a b:Option Nat):Prop:=∀k,a=some k->b≠some k
structure DiM(m:MM):Prop where
 i:(vh m).Pairwise NeB
 d:(m.data.map dbk).Pairwise NeB
structure RQ(base R:Nat)(mp:Value)(m:MM)(ln pt:Int)(w:World):Prop where
 blk:w.heap[R]? =some (.cells (lU mp m ln pt) 126)
 low:R<base
 bw:base<=w.heap.size
 rt:w.ownsRow base 73 2 (.slice m.ta m.tn m.tc) m.tn (m.types.flatMap iy)
 rh:w.ownsRow base 3 1 (.slice m.ha m.hn m.hc) m.hn (m.hosts.flatMap fJ)
 rg:w.ownsRow base 102 3 (.slice m.ga m.gn m.gc) m.gn (m.globals.flatMap fQ)
 rf:w.ownsRow base 78 3 (.slice m.fa m.fn m.fc) m.fn (m.fns.flatMap dA)
 rd:w.ownsRow base 81 2 (.slice m.da m.dn m.dc) m.dn (m.data.flatMap iD)
 re:w.ownsRow base 83 2 (.slice m.ea m.en m.ec) m.en (m.exps.flatMap jV)
 fo:∀x∈m.fns,FnO w base x
 fd:∀(i j:Nat)x y k,m.fns[i]? =some x->m.fns[j]? =some y->i≠j->fcb x=some k->fcb y≠some k
 dd:∀x∈m.data,w.ownsRow base 5 1 (.slice x.2.1.1 x.2.1.2.1 x.2.1.2.2) x.2.1.2.1 (x.2.2.flatMap oV)
 nf:pt<6->m.fns=[]
 di:DiM m
abbrev KR(base R:Nat)(w w':World):Prop:=Kept (fun k=>k=R\/base<=k) w w'
variable {xs:Zah}
theorem dN{v:Value}(h:w.ownsRow base e k v n xs)(hb:v.ownBlock=some b):base<=b/\∃cur,w.heap[b]? =some (.cells cur e (0,0)):=by
 rcases h.2 with ⟨rfl,_⟩ | ⟨g,cap,cur,rfl,h2,h3,_⟩
 ·simp[Value.ownBlock]at hb
 simp only[Value.ownBlock,Option.some.injEq]at hb;subst hb;exact⟨h2,cur,h3⟩
theorem bJ{v:Value}(h:w.ownsRow base e k v n xs)(hb:Zx w w'):w'.ownsRow base e k v n xs :=
 cf (S:=fun _=>False) h ⟨hb.os,hb.tape,hb.output,hb.size,fun k hk _=>hb.block k hk⟩ (fun _ _=>id)
theorem FnO.later(h:FnO w base x)(hb:Zx w w'):FnO w' base x:=⟨bJ h.code hb,fun y hy=>bJ (h.lab y hy) hb⟩
variable {mp:Value}{ln pt:Int}
theorem RQ.later(h:RQ base R mp m ln pt w)(hb:Zx w w'):RQ base R mp m ln pt w' :=
 ⟨ar hb h.blk,h.low,ZW h.bw hb.size,bJ h.rt hb,bJ h.rh hb,bJ h.rg hb,bJ h.rf hb,bJ h.rd hb,bJ h.re hb,fun x hx=>(h.fo x hx).later hb,h.fd,fun x hx=>bJ (h.dd x hx) hb,h.nf,h.di⟩
variable {o:Nat}
theorem bA{v u:Value}(h:w.ownsRow base e k v n xs)(hR:R<base):(w.setCell (ZA R o) u).ownsRow base e k v n xs :=
 cf (S:=fun k=>k=R) h (aB w R o u) (fun b hb e=>by have:=(dN h hb).1; omega)
variable {m':MM}{ln' pt':Int}
theorem RQ.set(h:RQ base R mp m ln pt w)(o:Nat)(u:Value)(hA:(lU mp m ln pt).setIfInBounds o u=lU mp m' ln' pt')
  (e1:m'.ta=m.ta/\m'.tn=m.tn/\m'.tc=m.tc/\m'.types=m.types) (e2:m'.ha=m.ha/\m'.hn=m.hn/\m'.hc=m.hc/\m'.hosts=m.hosts) (e3:m'.ga=m.ga/\m'.gn=m.gn/\m'.gc=m.gc/\m'.globals=m.globals) (e4:m'.fa=m.fa/\m'.fn=m.fn/\m'.fc=m.fc/\m'.fns=m.fns) (e5:m'.da=m.da/\m'.dn=m.dn/\m'.dc=m.dc/\m'.data=m.data) (e6:m'.ea=m.ea/\m'.en=m.en/\m'.ec=m.ec/\m'.exps=m.exps)
  (hp:pt'<6->pt<6):RQ base R mp m' ln' pt' (w.setCell (ZA R o) u):=by
 obtain⟨a1,a2,a3,a4⟩:=e1;obtain⟨b1,b2,b3,b4⟩:=e2;obtain⟨c1,c2,c3,c4⟩:=e3;obtain⟨d1,d2,d3,d4⟩:=e4;obtain⟨f1,f2,f3,f4⟩:=e5;obtain⟨g1,g2,g3,g4⟩:=e6;refine⟨?_,h.low,by simpa[World.setCell] using h.bw,?_,?_,?_,?_,?_,?_,?_,?_,?_,?_,?_⟩
 ·rw[aT h.blk,hA]
 ·rw[a1,a2,a3,a4]; exact bA h.rt h.low
 ·rw[b1,b2,b3,b4]; exact bA h.rh h.low
 ·rw[c1,c2,c3,c4]; exact bA h.rg h.low
 ·rw[d1,d2,d3,d4]; exact bA h.rf h.low
 ·rw[f1,f2,f3,f4]; exact bA h.rd h.low
 ·rw[g1,g2,g3,g4]; exact bA h.re h.low
 ·exact Iy
 ·rw[d4]; exact h.fd
 ·rw[f4]; exact fun x hx=>bA (h.dd x hx) h.low
 ·rw[d4]; exact fun hx=>h.nf (hp hx)
 exact⟨by unfold vh; rw[b1,b2,b3,d4]; exact h.di.i,by rw[f4]; exact h.di.d⟩
theorem RQ.part(h:RQ base R mp m ln pt w)(q:Int)(hq:pt<=q):RQ base R mp m ln q (w.setCell (ZA R 10) (ZI q)) :=
 h.set 10 _ rfl ⟨rfl,rfl,rfl,rfl⟩ ⟨rfl,rfl,rfl,rfl⟩ ⟨rfl,rfl,rfl,rfl⟩ ⟨rfl,rfl,rfl,rfl⟩ ⟨rfl,rfl,rfl,rfl⟩ ⟨rfl,rfl,rfl,rfl⟩ (fun x=>ae)
theorem RQ.line(h:RQ base R mp m ln pt w)(l:Int):RQ base R mp m l pt (w.setCell (ZA R 9) (ZI l)) :=
 h.set 9 _ rfl ⟨rfl,rfl,rfl,rfl⟩ ⟨rfl,rfl,rfl,rfl⟩ ⟨rfl,rfl,rfl,rfl⟩ ⟨rfl,rfl,rfl,rfl⟩ ⟨rfl,rfl,rfl,rfl⟩ ⟨rfl,rfl,rfl,rfl⟩ id
theorem RQ.cells(h:RQ base R mp m ln pt w)(i:Nat):w.cell? (ZA R i)=(lU mp m ln pt)[i]?:=ag h.blk
theorem RQ.free(h:RQ base R mp m ln pt w)(i:Nat):w.frozen? (ZA R i)=false:=free_at h.blk
theorem RQ.frD(h:RQ base R mp m ln pt w)(hk:w.heap.size<=k):∀z∈m.data,dbk z≠some k:=fun z hz e=>by
 obtain⟨_,cur,h2⟩:=dN (h.dd z hz) e;have:=aK h2;omega
theorem RQ.frI(h:RQ base R mp m ln pt w)(hk:w.heap.size<=k):∀z∈vh m,z≠some k:=fun z hz e=>by
 subst e
 rcases List.mem_cons.1 hz with hz | hz
 ·obtain⟨_,cur,h2⟩:=dN h.rh hz.symm
  have:=aK h2;omega
 obtain⟨x,hx,hy⟩:=List.mem_flatMap.1 hz;obtain⟨y,hy,hb⟩:=List.mem_map.1 hy;obtain⟨_,cur,h2⟩:=dN ((h.fo x hx).lab y hy) hb;have:=aK h2;omega
theorem KR.set(base R o:Nat)(w:World)(u:Value):KR base R w (w.setCell (ZA R o) u):=by
 have h:=aB w R o u;exact⟨h.os,h.tape,h.output,h.size,fun k hk hs=>h.block k hk (fun e=>hs (.inl e))⟩
theorem KR.later(hb:Zx w w'):KR base R w w':=⟨hb.os,hb.tape,hb.output,hb.size,fun k hk _=>hb.block k hk⟩
variable {u:Value}{e' k' n':Nat}{xs':Zah}
theorem aU{v:Value}(h:W.ownsRow base e k v n xs)(hu:W.ownsRow base' e' k' u n' xs')(hg:W.grownBy w' u.ownBlock)(he:e≠e'):w'.ownsRow base e k v n xs:=by
 refine h.kept hg ?_
 rcases hv:v.ownBlock with _ | b
 ·exact .inl rfl
 refine .inr fun hx=>?_;obtain⟨_,cur,h1⟩:=dN h hv;obtain⟨_,cur',h2⟩:=dN hu hx.symm;rw[h1]at h2;simp only[Option.some.injEq,Obj.cells.injEq]at h2;exact he h2.2.1
variable {o:Obj}
theorem bF(h:W.heap[R]? =some o)(hR:R<base)(hu:W.ownsRow base e' k' u n' xs')(hg:W.grownBy w' u.ownBlock):w'.heap[R]? =some o:=by
 refine(hg.block R (aK h) fun hx=>?_).trans h;have:=(dN hu hx.symm).1;omega
theorem KR.grow(hu:W.ownsRow base e' k' u n' xs')(hg:W.grownBy w' u.ownBlock):KR base R W w' :=
 ⟨hg.os,hg.tape,hg.output,hg.size,fun k hk hs=>hg.block k hk fun hx=>hs (.inr (dN hu hx.symm).1)⟩
variable {w1 w2 w3:World}
theorem KR.trans(h:KR base R w1 w2)(h':KR base R w2 w3):KR base R w1 w3 :=
 ⟨h'.os.trans h.os,h'.tape.trans h.tape,h'.output.trans h.output,ZW h.size h'.size,fun k hk hs=>(h'.block k (Z8 hk h.size) hs).trans (h.block k hk hs)⟩
section
variable {base R:Nat} {mp:Value} {m:MM} {ln pt:Int} {w W w':World} {g cap:Nat}
theorem RQ.pushT(h:RQ base R mp m ln pt w)(hW:Zx w W)(x:Sg)(ho:w'.ownsRow base 73 2 (ZL g (m.tn+1) cap) (m.tn+1) (m.types.flatMap iy++iy x))(hg:W.grownBy w' (Value.slice m.ta m.tn m.tc).ownBlock) :
  RQ base R mp { m with ta:=some (ZA g 0),tn:=m.tn+1,tc:=cap,types:=m.types++[x] } ln pt (w'.setCell (ZA R 1) (ZL g (m.tn+1) cap))/\KR base R w (w'.setCell (ZA R 1) (ZL g (m.tn+1) cap)):=by
 have hq:=h.later hW;have hu:=hq.rt;have hR:=h.low;refine⟨⟨?_,hR,?_,?_,?_,?_,?_,?_,?_,?_,?_,?_,?_,?_⟩,((KR.later hW).trans (KR.grow hu hg)).trans (KR.set base R _ w' _)⟩
 ·exact gI
 ·exact fI
 ·exact gK
 ·exact iZ
 ·exact iW
 ·exact iT
 ·exact iR
 ·exact iY
 ·exact j4
 ·exact h.fd
 ·exact iX
 ·exact h.nf
 exact⟨h.di.i,h.di.d⟩
theorem RQ.pushH(h:RQ base R mp m ln pt w)(hW:Zx w W)(x:Int)(hpt:pt<6)(ho:w'.ownsRow base 3 1 (ZL g (m.hn+1) cap) (m.hn+1) (m.hosts.flatMap fJ++fJ x))(hg:W.grownBy w' (Value.slice m.ha m.hn m.hc).ownBlock) :
  RQ base R mp { m with ha:=some (ZA g 0),hn:=m.hn+1,hc:=cap,hosts:=m.hosts++[x] } ln pt (w'.setCell (ZA R 2) (ZL g (m.hn+1) cap))/\KR base R w (w'.setCell (ZA R 2) (ZL g (m.hn+1) cap)):=by
 have hq:=h.later hW;have hu:=hq.rh;have hR:=h.low;refine⟨⟨?_,hR,?_,?_,?_,?_,?_,?_,?_,?_,?_,?_,?_,?_⟩,((KR.later hW).trans (KR.grow hu hg)).trans (KR.set base R _ w' _)⟩
 ·exact gI
 ·exact fI
 ·exact i6
 ·exact gK
 ·exact iW
 ·exact iT
 ·exact iR
 ·exact iY
 ·intro y hy; rw[show m.fns=[] from h.nf hpt]at hy; cases hy
 ·intro i j x y k hi; rw[show m.fns=[] from h.nf hpt]at hi; cases hi
 ·exact iX
 ·exact h.nf
 exact⟨by unfold vh; dsimp only; rw[show m.fns=[] from h.nf hpt]; exact List.pairwise_singleton _ _,h.di.d⟩
theorem RQ.pushG(h:RQ base R mp m ln pt w)(hW:Zx w W)(x:Gl)(ho:w'.ownsRow base 102 3 (ZL g (m.gn+1) cap) (m.gn+1) (m.globals.flatMap fQ++fQ x))(hg:W.grownBy w' (Value.slice m.ga m.gn m.gc).ownBlock) :
  RQ base R mp { m with ga:=some (ZA g 0),gn:=m.gn+1,gc:=cap,globals:=m.globals++[x] } ln pt (w'.setCell (ZA R 3) (ZL g (m.gn+1) cap))/\KR base R w (w'.setCell (ZA R 3) (ZL g (m.gn+1) cap)):=by
 have hq:=h.later hW;have hu:=hq.rg;have hR:=h.low;refine⟨⟨?_,hR,?_,?_,?_,?_,?_,?_,?_,?_,?_,?_,?_,?_⟩,((KR.later hW).trans (KR.grow hu hg)).trans (KR.set base R _ w' _)⟩
 ·exact gI
 ·exact fI
 ·exact i6
 ·exact iZ
 ·exact gK
 ·exact iT
 ·exact iR
 ·exact iY
 ·exact j4
 ·exact h.fd
 ·exact iX
 ·exact h.nf
 exact⟨h.di.i,h.di.d⟩
theorem RQ.pushF(h:RQ base R mp m ln pt w)(hW:Zx w W)(x:FuM)(hpt:6<=pt)(hx:x.2.2.1=(none,0,0)/\x.2.2.2=[])(ho:w'.ownsRow base 78 3 (ZL g (m.fn+1) cap) (m.fn+1) (m.fns.flatMap dA++dA x))(hg:W.grownBy w' (Value.slice m.fa m.fn m.fc).ownBlock) :
  RQ base R mp { m with fa:=some (ZA g 0),fn:=m.fn+1,fc:=cap,fns:=m.fns++[x] } ln pt (w'.setCell (ZA R 6) (ZL g (m.fn+1) cap))/\KR base R w (w'.setCell (ZA R 6) (ZL g (m.fn+1) cap)):=by
 have hq:=h.later hW;have hu:=hq.rf;have hR:=h.low;refine⟨⟨?_,hR,?_,?_,?_,?_,?_,?_,?_,?_,?_,?_,?_,?_⟩,((KR.later hW).trans (KR.grow hu hg)).trans (KR.set base R _ w' _)⟩
 ·exact gI
 ·exact fI
 ·exact i6
 ·exact iZ
 ·exact iW
 ·exact gK
 ·exact iR
 ·exact iY
 ·exact Qg
 ·exact OY
 ·exact iX
 ·intro hc; omega
 exact⟨by have h5:=h.di.i; unfold vh at h5 ⊢; dsimp only; rw[List.flatMap_append,List.flatMap_singleton,hx.2,List.map_nil,List.append_nil]; exact h5,h.di.d⟩
theorem RQ.pushD(h:RQ base R mp m ln pt w)(hW:Zx w W)(x:DaM)(hx:w.ownsRow base 5 1 (.slice x.2.1.1 x.2.1.2.1 x.2.1.2.2) x.2.1.2.1 (x.2.2.flatMap oV))(hfr:∀k,dbk x=some k->∀z∈m.data,dbk z≠some k)(ho:w'.ownsRow base 81 2 (ZL g (m.dn+1) cap) (m.dn+1) (m.data.flatMap iD++iD x))(hg:W.grownBy w' (Value.slice m.da m.dn m.dc).ownBlock) :
  RQ base R mp { m with da:=some (ZA g 0),dn:=m.dn+1,dc:=cap,data:=m.data++[x] } ln pt (w'.setCell (ZA R 7) (ZL g (m.dn+1) cap))/\KR base R w (w'.setCell (ZA R 7) (ZL g (m.dn+1) cap)):=by
 have hq:=h.later hW;have hu:=hq.rd;have hR:=h.low;refine⟨⟨?_,hR,?_,?_,?_,?_,?_,?_,?_,?_,?_,?_,?_,?_⟩,((KR.later hW).trans (KR.grow hu hg)).trans (KR.set base R _ w' _)⟩
 ·exact gI
 ·exact fI
 ·exact i6
 ·exact iZ
 ·exact iW
 ·exact iT
 ·exact gK
 ·exact iY
 ·exact j4
 ·exact h.fd
 ·exact Ot
 ·exact h.nf
 refine⟨h.di.i,?_⟩;rw[List.map_append];refine List.pairwise_append.2 ⟨h.di.d,List.pairwise_singleton _ _,fun a ha b hb k h1 h2=>?_⟩;obtain⟨z,hz,rfl⟩:=List.mem_map.1 ha;obtain rfl:=List.mem_singleton.1 hb;exact hfr k h2 z hz h1
theorem RQ.pushE(h:RQ base R mp m ln pt w)(hW:Zx w W)(x:Ex)(ho:w'.ownsRow base 83 2 (ZL g (m.en+1) cap) (m.en+1) (m.exps.flatMap jV++jV x))(hg:W.grownBy w' (Value.slice m.ea m.en m.ec).ownBlock) :
  RQ base R mp { m with ea:=some (ZA g 0),en:=m.en+1,ec:=cap,exps:=m.exps++[x] } ln pt (w'.setCell (ZA R 8) (ZL g (m.en+1) cap))/\KR base R w (w'.setCell (ZA R 8) (ZL g (m.en+1) cap)):=by
 have hq:=h.later hW;have hu:=hq.re;have hR:=h.low;refine⟨⟨?_,hR,?_,?_,?_,?_,?_,?_,?_,?_,?_,?_,?_,?_⟩,((KR.later hW).trans (KR.grow hu hg)).trans (KR.set base R _ w' _)⟩
 ·exact gI
 ·exact fI
 ·exact i6
 ·exact iZ
 ·exact iW
 ·exact iT
 ·exact iR
 ·exact gK
 ·exact j4
 ·exact h.fd
 ·exact iX
 ·exact h.nf
 exact⟨h.di.i,h.di.d⟩
end
def uh(w:World):Prop:=∃m,w.cell? (ZA 3 0)=some (ZI m)
variable {B:Nat}
theorem uh.later(h:uh w)(hb:Below B w w')(hB:w.heap.size<=B):uh w':=by
 obtain⟨m,hm⟩:=h;have:=ZQ hm;exact⟨m,(hb.cell (by simp at this ⊢; omega)).trans hm⟩
theorem WY(s:BAz)(w:World)(hs:s.size<=1073741824)(hm:uh w) :
  Zw 217 #[.string s,.string ⟨#[32,45,62,32]⟩] w (ZC (.tuple #[.string (xL s),.string (xh s),.bool (PI s)]) w):=by
 obtain⟨m,hm⟩:=hm;exact(Tryz.strings_Cut s ⟨#[32,45,62,32]⟩ m w ae hm).mono fun e w' ⟨he,n,hw⟩=>⟨he,by rw[hw]; exact vw w n⟩
theorem oW(s:BAz)(w:World)(hs:s.size<=1073741824)(hm:uh w) :
  Zw 169 #[.string s] w (ZC (.tuple #[.agg #[.string (rdP s),.string (rdR s)],ZI (rdE s)]) w):=by
 obtain⟨hl,hr⟩:=Ky s;have hb0:Zx w (w.alloc (aW ⟨#[]⟩ ⟨#[]⟩)):=(ZT _ _).alloc lRn _;have HC:=hid (WY s (w.alloc (aW ⟨#[]⟩ ⟨#[]⟩)) hs (hm.later hb0 lRn));go_enter func169,ntmps169
 go_wp2_with fail;refine HC.out.mono ?_;rintro e w1⟨rfl,hb1⟩;go_wp2_with fail;refine(ui (xL s) w1 ae).mono ?_;rintro e w2⟨rfl,hb2⟩;go_wp2_with fail;refine(ui (xh s) w2 ae).mono ?_;rintro e w3⟨rfl,hb3⟩;have hbb:Zx w w3:=((hb0.trans (hb1.mono av)).trans (hb2.mono uH)).trans (hb3.mono FA);have kb:Below (w.heap.size+1) (w.alloc (aW ⟨#[]⟩ ⟨#[]⟩)) w3:=(((hb1.mono av)).trans (hb2.mono uH)).trans (hb3.mono FA)
 have hblk:w3.heap[w.heap.size]? =some (aW ⟨#[]⟩ ⟨#[]⟩):=by
  rw[kb.block w.heap.size ae]; exact hZn _ _
 have c0:=ag (i:=0) hblk;have c1:=ag (i:=1) hblk;have f0:=free_at (i:=0) hblk;have f1:=free_at (i:=1) hblk;simp at c0 c1;have HB:=hid hbb;clear hb0 hb1 hb2 hb3 hbb kb hblk HC
 cases h1:PI s
 ·have hz:rdB s=false:=by simp[rdB,h1]
  exact Ed
 cases h2:rsB (xL s)
 ·have hz:rdB s=false:=by simp[rdB,h1,h2]
  exact Ed
 cases h3:rsB (xh s)
 ·have hz:rdB s=false:=by simp[rdB,h1,h2,h3]
  exact Ed
 have hz:rdB s=true:=by simp[rdB,h1,h2,h3]
 go_wp2
 (try simp only[Exit.inBlock,Exit.then])
 refine i4 (v:=.tuple #[.agg #[.string (rsV (xL s)),.string (rsV (xh s))],ZI 0]) ?_ rfl ⟨by simp[rdP,rdR,rdE,hz],?_⟩
 ·exact kG
 exact(HB.out.setCell av _).setCell av _
structure cY(B:Nat)(w:World):Prop where
 tens:fq B w
 errs:vC B w
 kinds:aX w
 mx:uh w
 b3:3<B
 bw:B<=w.heap.size
theorem cY.later(h:cY B w)(hb:Below B w w'):cY B w' :=
 ⟨h.tens.later hb,h.errs.later hb,h.kinds.later hb (Nat.lt_of_le_of_lt (Z5 3) h.b3),(by obtain⟨m,hm⟩:=h.mx; exact⟨m,(hb.cell (by exact h.b3)).trans hm⟩),h.b3,ZW h.bw hb.size⟩
theorem KR.below(h:KR base R w w')(hR:B<=R)(hb:B<=base)(hw:B<=w.heap.size):Below B w w' :=
 ⟨h.os,h.tape,h.output,h.size,fun k hk=>h.block k ae (fun hs=>by rcases hs with rfl | hs <;> omega)⟩
structure Wds(w:World)(A n c:Nat)(ws:Zai):Prop where
 len:ws.length=n
 lt:A<w.heap.size
 cap:n<=c
 at_:∀(j:Nat)x,ws[j]? =some x->w.cell? (ZA A (0+j))=some (.string x)
 sz:∀x∈ws,x.size<=2097152
 few:n<=2097152
variable {ws:Zai}
theorem Wds.later{A n c:Nat}(h:Wds w A n c ws)(hb:Zx w w'):Wds w' A n c ws :=
 ⟨h.len,Z8 h.lt hb.size,h.cap,fun j x hj=>ai hb (h.at_ j x hj),h.sz,h.few⟩
theorem ZJ{w1:World}{A n c:Nat}{ws:Zai}{x:ByteArray}{j:Nat}(d:Wds w1 A n c ws)(hx:ws[j]? =some x):Hid (∀W:World,Below w1.heap.size w1 W->W.cell? (ZA A j)=some (.string x)):=hid (fun W hW=>by have:=(d.later hW).at_ j x hx; rwa [Nat.zero_add]at this)
section
def lG(f:Int)(rest:BAz):List ByteArray->Int×Bool
 | []=>(0,false)
 | p::r=>if p=rest then (f,true) else lG (f+1) rest r
def fX(f:Int)(a ws word:BAz):Int×Bool :=
 if Lib.hasPrefix word.data.toList a.data.toList=true then lG f ⟨(Lib.trimPrefix word.data.toList a.data.toList).toArray⟩ (dm ws) else (0,false)
theorem VW(f l:Int)(a ws word:BAz)(w:World)(h0:0<=f)(hb:f+(dm ws).length<=255)(hsz:ws.size<=1099511627776) :
  Zw 224 #[.agg #[ZU f,ZU l,.string a,.string ws],.string word] w (ZC (.tuple #[ZU (fX f a ws word).1,.bool (fX f a ws word).2]) w):=by
 obtain⟨xs,hxs⟩:∃xs,dm ws=xs:=⟨_,rfl⟩;obtain⟨rest,hrest⟩:∃rest:ByteArray,(⟨(Lib.trimPrefix word.data.toList a.data.toList).toArray⟩:BAz)=rest:=⟨_,rfl⟩;obtain⟨ok,hok⟩:∃ok:Bool,Lib.hasPrefix word.data.toList a.data.toList=ok:=⟨_,rfl⟩;obtain⟨V,hV⟩:∃V,fX f a ws word=V:=⟨_,rfl⟩;have hcut:=Tryz.strings_CutPrefix word a;rw[hrest,hok]at hcut;rw[hV];rw[hxs]at hb;unfold fX at hV;rw[hrest,hok,hxs]at hV;refine(callsIn_wide (n:=5)).1 ?_;refine callsIn_of_wp_marks func224 rfl trivial ?_ rfl;simp only[ntmps224,List.size_toArray,Z1,List.length_nil,Nat.reduceAdd,Nat.reduceSub,Array.replicate_succ,Array.replicate_zero,List.push_toArray,List.append_toArray,List.nil_append,List.cons_append]
 gi_wp2_with fail
 refine⟨trivial,?_⟩;refine(callsIn_wide.2 (hcut _)).mono ?_;rintro e w' ⟨rfl,rfl⟩
 cases ok
 ·gi_wp2_with fail
  subst hV;refine⟨.tuple #[ZU 0,.bool false],?_,rfl,((((ZT _ w).alloc av _).alloc bI _).alloc bI _).alloc bI _⟩;rw[mH rfl];go_simp
 gi_wp2_with fail
 refine⟨trivial,?_⟩;refine(callsIn_wide.2 (um ws _)).mono ?_;rintro e w' ⟨rfl,rfl⟩
 gi_wp2_with fail
 simp only[Nat.add_assoc,Nat.reduceAdd];rw[if_pos trivial]at hV;obtain⟨W0,hW0⟩:∃W0,((((((((w.alloc (ru f l a ws)).alloc (eK 0)).alloc (.cells #[.bool false] 4)).alloc (cA rest)).alloc (eK f)).alloc (cA ws)).alloc (cA ⟨#[32]⟩)).alloc (bR 0))=W0:=⟨_,rfl⟩;rw[hW0]
 have B0:Zx w W0:=by rw[<- hW0]; exact((((((((ZT _ w).alloc av _).alloc bI _).alloc bI _).alloc bI _).alloc bI _).alloc bI _).alloc bI _).alloc bI _
 have z0:W0.heap.size=w.heap.size+8:=fE
 have hstart:aC [((ZA (w.heap.size+4) 0),ZU f),((ZA (w.heap.size+3) 0),.string rest),((ZA (w.heap.size+1) 0),ZU 0),((ZA (w.heap.size+2) 0),.bool false)] W0:=by
  rw[<- hW0]
  refine aC.cons ?_ ?_ (aC.cons ?_ ?_ (aC.cons ?_ ?_ (aC.cons ?_ ?_ lJ))) <;> simp[go_sem]
 have c2:W0.cell? (ZA (w.heap.size+5) 0)=some (.string ws):=fE;have f2:W0.frozen? (ZA (w.heap.size+5) 0)=false:=fE;have c1:W0.cell? (ZA (w.heap.size+6) 0)=some (.string ⟨#[32]⟩):=fE;have c3:W0.cell? (ZA (w.heap.size+7) 0)=some (ZI 0):=fE;clear hW0;have HF:=Gd 4 (w.heap.size+6) (w.heap.size+5) (w.heap.size+7) ae ae ws W0 c1 c2 f2 c3 hsz;rw[hxs]at HF
 refine rF rfl au (gf:=174) (lb:=#[ZP (w.heap.size+6) 0,ZP (w.heap.size+5) 0,ZP (w.heap.size+7) 0]) rfl trivial (enters_of func174 ak rfl) (encs:=fun x:ByteArray=>#[.string x]) (fun _=>rfl)
  HF
  (fun r W=>aC [((ZA (w.heap.size+4) 0),ZU (f+xs.length-r.length)),((ZA (w.heap.size+3) 0),.string rest),((ZA (w.heap.size+1) 0),ZU 0),((ZA (w.heap.size+2) 0),.bool false)] W/\Zx w W/\r.length<=xs.length/\lG (f+xs.length-r.length) rest r=V)
  (fun j W=>j=.ret/\aC [((ZA (w.heap.size+1) 0),ZU V.1),((ZA (w.heap.size+2) 0),.bool V.2)] W/\Zx w W)
  ?own ?ownx ?cells ?start
  (fun x=>{ tmps:=#[.agg #[ZU f,ZU l,.string a,.string ws],.string word,ZP w.heap.size 0,undef,ZP (w.heap.size+1) 0,ZP (w.heap.size+2) 0,ZP (w.heap.size+3) 0,.bool true,ZP (w.heap.size+4) 0,.string x,.tuple #[.string rest,.bool true],.string word,ZP w.heap.size 2,.string a,.tuple #[.string rest,.bool true],.string rest,.bool true,.bool true,.bool false,ZP w.heap.size 0,ZU f,ZP w.heap.size 3,.string ws,
   .func (.func 174) #[] #[.pointer (some ⟨w.heap.size+6,0,none⟩),.pointer (some ⟨w.heap.size+5,0,none⟩),.pointer (some ⟨w.heap.size+7,0,none⟩)],.string x,undef,undef,undef,undef,undef,undef],defers:=[] }) ?assign ?body ?done ?stop
 case own =>
  exact I7
 case ownx =>
  exact FL
 case cells =>
  exact fun r A v hs=>⟨hs.1.other _ _ av,hs.2.1.setCell (p:=(ZA (w.heap.size+5) 0)) av _,hs.2.2⟩
 case start =>
  have e:f+xs.length-xs.length=f:=ae;exact⟨by rw[e]; exact hstart,B0,Nat.le_refl _,by rw[e]; exact hV⟩
 case assign =>
  exact yI
 case body =>
  rintro m x r W⟨hc,hB,hr,hv⟩;have hsem:=@Oper.semAt_some;have d1:=hc _ (Zad ..);have d2:=hc _ (Z9 _ (Zad ..));have d3:=hc _ (Z9 _ (Z9 _ (Zad ..)));have d4:=hc _ (Z9 _ (Z9 _ (Z9 _ (Zad ..))));obtain⟨q,hq⟩:∃q:Int,f+xs.length-(x::r).length=q:=⟨_,rfl⟩;rw[hq]at hc d1 hv;have q0:0<=q:=sf;have q1:q+1<=255:=sf
  have q2:f+xs.length-r.length=q+1:=by simp at hq; omega
  by_cases he:x=rest
  ·rw[lG,if_pos he]at hv;subst he hv
   gi_wp2_with fail
   refine⟨((KeepsOthers.setCell _ _ _).trans (KeepsOthers.setCell _ _ _)).from _,rfl,?_,(hB.setCell (p:=(ZA (w.heap.size+1) 0)) av _).setCell (p:=(ZA (w.heap.size+2) 0)) av _⟩;have g1:aC [((ZA (w.heap.size+1) 0),ZU 0),((ZA (w.heap.size+2) 0),.bool false)] W:=aC.cons d3.1 d3.2 (aC.cons d4.1 d4.2 lJ);exact g1.set2 av
  rw[lG,if_neg he]at hv
  have he2:(x.toList==rest.toList)=false:=by rw[Fx]; simp[he]
  gi_wp2_with fail
  refine⟨(KeepsOthers.setCell _ _ _).from _,eN.other _ _ _ av,aC.set hc av,hB.setCell (p:=(ZA (w.heap.size+4) 0)) av _,by simp at hr; omega⟩
 case done =>
  rintro D W hD⟨hc,hB,_,hv⟩ hK;have d3:=hc _ (Z9 _ (Z9 _ (Zad ..)));have d4:=hc _ (Z9 _ (Z9 _ (Z9 _ (Zad ..))));have d5:=d3.1;have d6:=d3.2;have d7:=d4.1;have d8:=d4.2
  gi_wp2_with fail
  have hK2:=((KeepsOthers.setCell W (ZA (w.heap.size+1) 0) (ZU 0)).trans (KeepsOthers.setCell _ (ZA (w.heap.size+2) 0) (.bool false))).same _ _ hK rfl;refine⟨av,.inl ⟨_,_,rfl,run_takeDeferred hK2,?_⟩⟩;have g1:aC [((ZA (w.heap.size+1) 0),ZU 0),((ZA (w.heap.size+2) 0),.bool false)] W:=aC.cons d3.1 d3.2 (aC.cons d4.1 d4.2 lJ);have hH:=(g1.set2 (v1:=ZU 0) (v2:=.bool false) av).turned (.deferred none) hK2 rfl;have e1:=(hH _ (Zad ..)).1;have e2:=(hH _ (Z9 _ (Zad ..))).1;have hBB:=((hB.setCell (p:=(ZA (w.heap.size+1) 0)) av (ZU 0)).setCell (p:=(ZA (w.heap.size+2) 0)) av (.bool false)).trans (belowK_b (w:=w) lRn _ D _ (.deferred none) ae hK2 rfl rfl);generalize World.putObj _ D (.deferred none)=W5 at e1 e2 hBB ⊢;rw[lG]at hv;subst hv;refine⟨.tuple #[ZU 0,.bool false],?_,rfl,hBB⟩;rw[mH rfl];go_simp
 case stop =>
  rintro D j W hD⟨rfl,hc,hB⟩ hK
  gi_wp2_with fail
  refine⟨av,.inl ⟨_,_,rfl,run_takeDeferred hK,?_⟩⟩;have e1:=((hc.turned (.deferred none) hK rfl) _ (Zad ..)).1;have e2:=((hc.turned (.deferred none) hK rfl) _ (Z9 _ (Zad ..))).1;have hBB:=hB.trans (belowK_b (w:=w) lRn _ D _ (.deferred none) ae hK rfl rfl);generalize World.putObj _ D (.deferred none)=W5 at e1 e2 hBB ⊢;refine⟨.tuple #[ZU V.1,.bool V.2],?_,rfl,hBB⟩;rw[mH rfl];go_simp
def fU:Nat->Nat->ByteArray->Int×Bool
 | 0,_,_=>(0,false)
 | n+1,i,s=>if (fX (kF i) (kA i) (kW i) s).2=true then ((fX (kF i) (kA i) (kW i) s).1,true) else fU n (i+1) s
def bi(s:BAz):Int×Bool:=fU 7 0 s
theorem lK(s:BAz)(w:World)(hk:aX w):Zw 177 #[.string s] w (ZC (.tuple #[ZU (bi s).1,.bool (bi s).2]) w):=by
 obtain⟨V,hV⟩:∃V,bi s=V:=⟨_,rfl⟩;rw[hV];go_enter func177,ntmps177;refine wp_seq_k fun K1 hK1=>wp_region_lit ?_;refine fZ rfl (v:=ZU 0) (w':=w) dB ?_;refine fZ rfl (v:=.bool false) (w':=w) dB ?_;refine wpList_nil (hK1 _ _ ?_);clear hK1;refine wp_seq_k fun K2 hK2=>wp_seq_k fun K3 hK3=>wp_region_lit ?_;refine fZ rfl (tO hk _ _ _ _ _) ?_;obtain⟨kv,hkv⟩:∃kv,qH=kv:=⟨_,rfl⟩;rw[hkv];have run_kind':∀(w:World)(i:Nat)(hi:i<7),(Instr.index 288 kv (ZI i)).run prog w=.ok (.agg #[ZU (kF i),ZU (kL i),.string (kA i),.string (kW i)]) w:=fun w i hi=>hkv ▸ BS i hi;have HK:=hid run_kind';clear run_kind' hkv;go_wp2_with fail
 go_loopw [9] (fun p wr=>∃i:Nat,p=ZI i/\i<=7/\Zx w wr/\fU (7-i) i s=V) (fun p wr=>7-(intOf p).toNat)
 case atStart=>exact⟨0,rfl,au,ZT _ _,hV⟩
 case round =>
  clear hV;obtain⟨i,rfl,hi,hB,hV⟩:=hrel
  by_cases h7:i=7
  ·exact Gg
  have hlt:(i:Int)<7:=ae;have hix:=HK.out wr i ae;obtain⟨f0,f1,f2,f3,f4,f5⟩:=oH i ae;have HF:=hid (VW (kF i) (kL i) (kA i) (kW i) s (wr.alloc (ru (kF i) (kL i) (kA i) (kW i))) f0 f3 f4);have sq:=hid (hB.alloc hB.size (ru (kF i) (kL i) (kA i) (kW i)));obtain⟨n,hn⟩:∃n,7-i=n+1:=⟨6-i,ae⟩;rw[hn,fU]at hV;have hw:wrap64 ((i:Int)+1)=i+1:=dV;clear f0 f1 f2 f3 f4 f5 hB;generalize fX (kF i) (kA i) (kW i) s=R at *;obtain⟨r1,r2⟩:=R;have HV:=hid hV;clear hV;generalize kF i=f at *;generalize kL i=l at *;generalize kA i=a at *;generalize kW i=ws at *
  cases r2
  ·go_wp2_with fail;refine HF.out.mono ?_;rintro e w3⟨rfl,hb3⟩;have hB3:=Zy sq hb3;clear hb3;go_wp2_with fail
   exact⟨⟨i+1,av,ae,hB3.out,by have:=HV.out; rw[show 7-(i+1)=n by omega]; simpa using this⟩,bD⟩
  have hx:V=(r1,true):=by have:=HV.out; simpa using this.symm
  subst hx;go_wp2_with fail;refine HF.out.mono ?_;rintro e w3⟨rfl,hb3⟩;have hB3:=Zy sq hb3;clear hb3;go_wp2_with fail;go_ret2;exact⟨rfl,hB3.out⟩
abbrev PIn:=Int×Int×List Int
abbrev PFn:=Int×ByteArray×List PIn
structure PM where
 types:List Sg
 hosts:List Int
 globals:List Gl
 fi:Int
 mo:Int
 fns:List PFn
 data:List (Int×List Int)
 exps:List Ex
def plI(y:InM):PIn:=(y.1,y.2.1,y.2.2.2)
def plF(x:FuM):PFn:=(x.1,x.2.1,x.2.2.2.map plI)
def plD(x:DaM):Int×List Int:=(x.1,x.2.2)
def pl(m:MM):PM:=⟨m.types,m.hosts,m.globals,m.fi,m.mo,m.fns.map plF,m.data.map plD,m.exps⟩
structure LnM(m:MM):Prop where
 t:m.tn=m.types.length
 h:m.hn=m.hosts.length
 g:m.gn=m.globals.length
 f:m.fn=m.fns.length
 d:m.dn=m.data.length
 e:m.en=m.exps.length
def bQ(xs:Zai):ByteArray:=⟨(Lib.join (xs.map (·.data.toList)) [32]).toArray⟩
def uU:ByteArray:=⟨#[118,97,114]⟩
def qD:ByteArray:=⟨#[99,111,110,115,116]⟩
def wdx(ws:Zai)(i:Nat):ByteArray:=ws.getD i ⟨#[]⟩
def im(p:Int)(M:PM)(ws:Zai):Option (Int×PM):=if (0<=p/\p<1)/\ws.length=1 then some (1,M) else none
def gp(p:Int)(M:PM)(ws:Zai):Option (Int×PM):=if (1<=p/\p<=2)/\rdE (bQ ws.tail)=0 then some (2,{ M with types:=M.types++[(rdP (bQ ws.tail),rdR (bQ ws.tail))] }) else none
def gq(p:Int)(M:PM)(ws:Zai):Option (Int×PM):=if (1<=p/\p<=3)/\ws.length=2 then (nmV (wdx ws 1)).map fun v=>(3,{ M with hosts:=M.hosts++[v] }) else none
def gvV(l:BAz)(v:Int):Option (Int×Int):=if l.toList=[119] then (if v=wrap32 v then some (119,v%4294967296) else none) else if l.toList=[108] then some (108,v%18446744073709551616) else none
def dO(p:Int)(M:PM)(ws:Zai):Option (Int×PM):=if (1<=p/\p<=4)/\ws.length=4/\((wdx ws 2).toList=uU.toList\/(wdx ws 2).toList=qD.toList) then (nmV (wdx ws 3)).bind fun v=>(gvV (wdx ws 1) v).map fun x=>(4,{ M with globals:=M.globals++[(x.1,(wdx ws 2).toList==uU.toList,x.2)] }) else none
def jd(p:Int)(M:PM)(ws:Zai):Option (Int×PM):=if (1<=p/\p<5)/\ws.length=3 then (nmV (wdx ws 1)).bind fun a=>(nmV (wdx ws 2)).map fun b=>(5,{ M with fi:=a,mo:=b }) else none
def gX(l:BAz):ByteArray:=if l.toList=[45] then ⟨#[]⟩ else l
def iz(p:Int)(M:PM)(ws:Zai):Option (Int×PM):=if (5<=p/\p<=6)/\ws.length=3 then (nmV (wdx ws 1)).map fun v=>(6,{ M with fns:=M.fns++[(v,gX (wdx ws 2),[])] }) else none
def fD:List UInt8->Option (List Int)
 | []=>some []
 | [_]=>none
 | a::b::r=>if 0<=eH a.toNat/\0<=eH b.toNat then (fD r).map (fun t=>(eH a.toNat*16+eH b.toNat)::t) else none
def kP(s:BAz):Option (List Int):=fD s.data.toList
def jl(p:Int)(M:PM)(ws:Zai):Option (Int×PM):=if (5<=p/\p<=7)/\ws.length=3 then (nmV (wdx ws 1)).bind fun v=>(kP (wdx ws 2)).map fun b=>(7,{ M with data:=M.data++[(v,b)] }) else none
def jt(p:Int)(M:PM)(ws:Zai):Option (Int×PM):=if (5<=p/\p<=8)/\ws.length=3 then (nmV (wdx ws 2)).map fun v=>(8,{ M with exps:=M.exps++[(wdx ws 1,v)] }) else none
def bz:List ByteArray->Option (List Int)
 | []=>some []
 | x::r=>(nmV x).bind fun v=>(bz r).map fun t=>v::t
def qA(fs:List PFn)(y:PIn):List PFn:=match fs.getLast? with
 | none=>fs
 | some f=>fs.dropLast++[(f.1,f.2.1,f.2.2++[y])]
def iP(op:Int)(ws:Zai):Option PIn :=
 if (ofV op).1.2.2.1=0 then (if ws.length=1 then some (op,0,[]) else none) else if (ofV op).1.2.2.1=3 then (bz ws.tail).map (fun l=>(op,0,l)) else if ws.length=2 then (nmV (wdx ws 1)).map (fun a=>(op,a,[])) else none
def cj(p:Int)(M:PM)(ws:Zai):Option (Int×PM):=if (6<=p/\p<=6)/\(bi (wdx ws 0)).2=true then (iP (bi (wdx ws 0)).1 ws).map fun y=>(6,{ M with fns:=qA M.fns y }) else none
section
variable {base R:Nat} {mp:Value} {m:MM} {ln pt:Int} {w:World}
theorem cu(h:RQ base R mp m ln pt w)(f q:Int)(h1:f<=pt)(h2:pt<=q) :
  Zw 168 #[ZP R 0,ZI f,ZI q] w fun e w'=>e=.returned (.tuple #[])/\w'=w.setCell (ZA R 10) (ZI q):=Bb R f pt q w (h.cells 10) (h.free 10) h1 h2
theorem om(h:RQ base R mp m ln pt w)(f q:Int)(hn:¬(f<=pt/\pt<=q)) :
  Zw 168 #[ZP R 0,ZI f,ZI q] w fun e w'=>e=thL ln/\w'=w:=Ew R f pt q ln w (h.cells 9) (h.cells 10) hn
theorem tM(h:RQ base R mp m ln pt w)(f q:Int)(h1:f<=pt)(h2:pt<q) :
  Zw 167 #[ZP R 0,ZI f,ZI q] w fun e w'=>e=.returned (.tuple #[])/\w'=w.setCell (ZA R 10) (ZI q):=Ml R f pt q w (h.cells 10) (h.free 10) h1 h2
theorem OV(h:RQ base R mp m ln pt w)(f q:Int)(hn:¬(f<=pt/\pt<q)) :
  Zw 167 #[ZP R 0,ZI f,ZI q] w fun e w'=>e=thL ln/\w'=w:=RB R f pt q ln w (h.cells 9) (h.cells 10) hn
theorem iL(h:RQ base R mp m ln pt w):Zw 120 #[ZP R 0,.bool false] w fun e w'=>e=thL ln/\w'=w:=nJ R ln w (h.cells 9)
end
variable {w:World}{u:Value}{ws:Zai}
theorem Wds.setR{A n c R o base:Nat}(h:Wds w A n c ws)(hA:base<=A)(hR:R<base):Wds (w.setCell (ZA R o) u) A n c ws :=
 ⟨h.len,by have:=h.lt; simpa[World.setCell] using this,h.cap,fun j x hj=>((aB w R o u).cell (S:=fun k=>k=R) (h.at_ j x hj) (by show ¬A=R; omega)),h.sz,h.few⟩
def LnP(base R:Nat)(mp:Value)(ln:Int)(w:World)(res:Option (Int×PM))(e:Ending)(w':World):Prop :=
 KR base R w w'/\match res with
 | some (p,M)=>e=.returned (.tuple #[])/\∃m',RQ base R mp m' ln p w'/\pl m'=M
 | none=>e=thL ln
variable {mp:Value}{m:MM}{ln pt:Int}
theorem Uk{base R A n c:Nat}(h:RQ base R mp m ln pt w)(hw:Wds w A n c ws) :
  Zw 108 #[ZP R 0,ZL A n c] w (LnP base R mp ln w (im pt (pl m) ws)):=by
 have hl:=hw.len
 by_cases h1:0<=pt/\pt<1
 ·have HO:=hid (tM h 0 1 h1.1 h1.2);have HR:=hid (h.part 1 ae)
  by_cases h2:n=1
  ·have e:im pt (pl m) ws=some (1,pl m):=by unfold im; rw[if_pos ⟨h1,ae⟩]
   rw[e];subst h2;clear hw hl h;go_enter func108,ntmps108
   go_wp2_with fail;refine ZE HO.out ?_;go_wp2_with fail;refine ZE (aO R _) ?_;go_wp2_with fail;go_end0;exact⟨KR.set base R 10 w _,rfl,m,HR.out,rfl⟩
  have e:im pt (pl m) ws=none:=by unfold im; rw[if_neg (fun x=>h2 ae)]
  rw[e];have hne:((n:Int)==1)=false:=aA;have HM:=hid (iL HR.out);clear hw hl h;go_enter func108,ntmps108;exact oY
 have e:im pt (pl m) ws=none:=by unfold im; rw[if_neg (fun x=>h1 x.1)]
 rw[e];have HO:=hid (OV h 0 1 h1);clear hw hl h;go_enter func108,ntmps108;exact jy
variable {P:Program}{ops:Array Oper}{Q:Zan}{i fuel:Nat}{oi:Oper}{a:Act}
theorem tkQ{md:Region.Mode}{S:World->Prop}{v:Value}{listed:Array Bool}(hi:ops[i]? =some oi)(h:wpAnyH P md ops Q S fuel (listed.setIfInBounds i true) (a.put oi.dst v) w)(hv:∀w,S w->(execOp a.eval oi).run P w=.ok (.value v) w:=by (intro w h; (try dsimp only at h); go_simp; try with_reducible rfl))
  (hc:(Region.noSelect ops&&Region.free md ops listed i&&(Region.ready md ops listed).contains i)=true:=by kernel_rfl) (hw:Region.wanted oi (yielded ops a.tmps)=true:=by rfl) (hQ:∀c a w,Q (.panic c) (a.put oi.dst v) w->Q (.panic c) a w:=by exact fun _ _ _ h=>h) (hS:S w:=by assumption):wpAnyH P md ops Q S (fuel+1) listed a w:=by
 simp only[Bool.and_eq_true]at hc;exact xo
variable {o:Oper}
theorem rcQ{md:Region.Mode}{S:World->Prop}{listed:Array Bool}{rs:List Nat}(ho:ops[i]? =some o)(h:∀K:Act->World->Prop,Shut (∀a w,S w->(S w->wpAnyH P md ops Q S fuel (listed.setIfInBounds i true) a w)->K a w)->Oper.wp P o a w K Q)(hs:AllReadyH P md ops Q S fuel listed a w rs)(hw:Region.wanted o (yielded ops a.tmps)=true:=by rfl):AllReadyH P md ops Q S fuel listed a w (i::rs):=AllReadyH.cons ho (fun K hK=>by rw[if_pos hw]; exact h K hK) hs
theorem ryQ{md:Region.Mode}{S:World->Prop}{rs:List Nat}{listed:Array Bool}(h:AllReadyH P md ops Q S fuel listed a w rs)(hr:Region.ready md ops listed=rs:=by kernel_rfl)(hne:rs≠[]:=by simp):wpAnyH P md ops Q S (fuel+1) listed a w:=wpAnyH_ready hr hne h
def psz(M:PM):Nat:=M.types.length+M.hosts.length+M.globals.length+M.fns.length+(M.fns.map fun f=>f.2.2.length).sum+M.data.length+M.exps.length
variable {base e k n:Nat}
theorem cE{v:Value}{α:Type}{g:α->List Value}{l:List α}(hk:∀x,(g x).length=k)(hp:0<k)(h:w.ownsRow base e k v n (l.flatMap g)):l.length=n:=by
 have:=h.1;rw[oD g k hk]at this;exact Nat.eq_of_mul_eq_mul_right hp this
theorem AX:(prog.info? 3).map (fun i=>(i.zero,i.size,i.bytes))=some (some (ZI 0),1,8):=ak
theorem Lq{B base R A n c:Nat}(h:RQ base R mp m ln pt w)(hw:Wds w A n c ws)(hA:base<=A)(hE:cY B w)(Fo:B<=R)(hps:psz (pl m)<=2097152)(h1:1<=pt/\pt<=3)(h2:n=2){v:Int}(h3:nmV (wdx ws 1)=some v) :
  Zw 110 #[ZP R 0,ZL A n c] w (LnP base R mp ln w (gq pt (pl m) ws)):=by
 obtain⟨i0,hi,hz0,hz1,hz2⟩:=Z0 AX;obtain⟨x,hx⟩:=ZB ws 1 bN;have ex:wdx ws 1=x:=cX;have e:gq pt (pl m) ws=some (3,{ pl m with hosts:=(pl m).hosts++[v] }):=I9;rw[e];rw[ex]at h3;subst h2
 have hn:m.hn<=2097152:=by
  exact IL
 have HO:=hid (cu h 1 3 h1.1 h1.2);have q1:=h.part 3 h1.2;have d1:=hw.setR (o:=10) (u:=ZI 3) hA h.low;have k1:=KR.set base R 10 w (ZI 3);have e1:=hE.later (k1.below Fo cP hE.bw);have HM:=hid (aO R (w.setCell (ZA R 10) (ZI 3)));generalize w.setCell (ZA R 10) (ZI 3)=w1 at *;obtain⟨Q1,D1,HX,HK1⟩:=ZF q1 d1 hx k1;have hxs:=hw.sz x (ZO hx);have HI:=hid (fun(W:World) (hW:Zx w1 W)=>iV B R x v W (e1.tens.later (hW.mono e1.bw)) (ZW e1.bw hW.size) ae h3);have B1:=hid ((ZT w1.heap.size w1).drew);clear h hw hE hps h1 h3 q1 d1 k1 e1 e ex hx;go_enter func110,ntmps110
 go_wp2_with fail;refine ZE HO.out ?_;go_wp2_with fail;refine ZE HM.out ?_;go_wp2_with fail
 refine ZX (S:=fun _=>True) ak trivial (fun _=>?_)
 refine Zt 0 ?_;refine Zt 1 ?_;refine Zt 6 ?_;refine Zt 7 ?_;refine Zt 2 ?_;refine Zt 8 ?_;refine Zt 3 ?_;refine Zt 4 ?_;refine Zu 5 9 (fun K hK=>?_) fun K hK=>?_
 ·have c5:w1.drew.cell? (ZA R 2)=some (.slice m.ha m.hn m.hc):=(Q1.out.later B1.out).cells 2;go_simp
  refine Zv hK ?_;clear hK K;refine ZR 9 fun K hK=>?_;have c9:w1.drew.cell? (ZA A 1)=some (.string x):=sV;exact PF
 have c9:w1.drew.cell? (ZA A 1)=some (.string x):=sV;go_simp;refine Zv hK ?_;clear hK K;refine Zu 5 10 (fun K hK=>?_) fun K hK=>?_
 ·have c5:w1.drew.cell? (ZA R 2)=some (.slice m.ha m.hn m.hc):=(Q1.out.later B1.out).cells 2;exact PF
 go_simp;refine(HI.out _ B1.out).mono ?_;rintro e w5⟨rfl,AI⟩;have B5:=Zy B1 AI;clear AI;refine Zv hK ?_;clear hK K;refine Zu 5 11 (fun K hK=>?_) fun K hK=>?_
 ·have c5:w5.cell? (ZA R 2)=some (.slice m.ha m.hn m.hc):=(Q1.out.later B5.out).cells 2;go_simp
  refine Zv hK ?_;clear hK K;refine ZR 11 fun K hK=>?_;go_simp;have BN:=Zy B5 (aj w5 (bR v));exact OO
 go_simp;have BN:=Zy B5 (aj w5 (bR v));refine Zv hK ?_;clear hK K;refine ZR 5 fun K hK=>?_;have c5:(w5.alloc (bR v)).cell? (ZA R 2)=some (.slice m.ha m.hn m.hc):=(Q1.out.later BN.out).cells 2;go_simp;exact OO
theorem Rv{B base R A n c:Nat}(h:RQ base R mp m ln pt w)(hw:Wds w A n c ws)(hA:base<=A)(hE:cY B w)(Fo:B<=R)(hps:psz (pl m)<=2097152)(h1:1<=pt/\pt<=3)(h2:n=2)(h3:nmV (wdx ws 1)=none) :
  Zw 110 #[ZP R 0,ZL A n c] w (LnP base R mp ln w (gq pt (pl m) ws)):=by
 obtain⟨i0,hi,hz0,hz1,hz2⟩:=Z0 AX;obtain⟨x,hx⟩:=ZB ws 1 bN;have ex:wdx ws 1=x:=cX;have e:gq pt (pl m) ws=none:=I9;rw[e];rw[ex]at h3;subst h2
 have hn:m.hn<=2097152:=by
  exact IL
 have HO:=hid (cu h 1 3 h1.1 h1.2);have q1:=h.part 3 h1.2;have d1:=hw.setR (o:=10) (u:=ZI 3) hA h.low;have k1:=KR.set base R 10 w (ZI 3);have e1:=hE.later (k1.below Fo cP hE.bw);have HM:=hid (aO R (w.setCell (ZA R 10) (ZI 3)));generalize w.setCell (ZA R 10) (ZI 3)=w1 at *;obtain⟨Q1,D1,HX,HK1⟩:=ZF q1 d1 hx k1;have hxs:=hw.sz x (ZO hx);have HI:=hid (fun(W:World) (hW:Zx w1 W)=>oN B R x ln W (e1.tens.later (hW.mono e1.bw)) (e1.errs.later (hW.mono e1.bw)) (ZW e1.bw hW.size) ae ((q1.later hW).cells 9) h3);have B1:=hid ((ZT w1.heap.size w1).drew);clear h hw hE hps h1 h3 q1 d1 k1 e1 e ex hx;go_enter func110,ntmps110
 go_wp2_with fail;refine ZE HO.out ?_;go_wp2_with fail;refine ZE HM.out ?_;go_wp2_with fail
 refine ZX (S:=fun _=>True) ak trivial (fun _=>?_)
 refine Zt 0 ?_;refine Zt 1 ?_;refine Zt 6 ?_;refine Zt 7 ?_;refine Zt 2 ?_;refine Zt 8 ?_;refine Zt 3 ?_;refine Zt 4 ?_;refine Zu 5 9 (fun K hK=>?_) fun K hK=>?_
 ·have c5:w1.drew.cell? (ZA R 2)=some (.slice m.ha m.hn m.hc):=(Q1.out.later B1.out).cells 2;go_simp
  refine Zv hK ?_;clear hK K;refine ZR 9 fun K hK=>?_;have c9:w1.drew.cell? (ZA A 1)=some (.string x):=sV;exact MS
 have c9:w1.drew.cell? (ZA A 1)=some (.string x):=sV;go_simp;refine Zv hK ?_;clear hK K;refine Zu 5 10 (fun K hK=>?_) fun K hK=>?_
 ·have c5:w1.drew.cell? (ZA R 2)=some (.slice m.ha m.hn m.hc):=(Q1.out.later B1.out).cells 2;exact MS
 go_simp;refine(HI.out _ B1.out).mono ?_;rintro e w5⟨rfl,AI⟩;exact⟨rfl,HK1.out.trans (KR.later (B1.out.trans (AI.mono B1.out.size))),rfl⟩
theorem TX{base R A n c:Nat}(h:RQ base R mp m ln pt w)(h1:¬(1<=pt/\pt<=2)) :
  Zw 109 #[ZP R 0,ZL A n c] w (LnP base R mp ln w (gp pt (pl m) ws)):=by
 have e:gp pt (pl m) ws=none:=by unfold gp; rw[if_neg (fun x=>h1 x.1)]
 rw[e];have HO:=hid (om h 1 2 h1);clear h;go_enter func109,ntmps109;exact jy
theorem QW{base R A n c:Nat}(h:RQ base R mp m ln pt w)(h1:¬(1<=pt/\pt<=3)) :
  Zw 110 #[ZP R 0,ZL A n c] w (LnP base R mp ln w (gq pt (pl m) ws)):=by
 have e:gq pt (pl m) ws=none:=by unfold gq; rw[if_neg (fun x=>h1 x.1)]
 rw[e];have HO:=hid (om h 1 3 h1);clear h;go_enter func110,ntmps110;exact jy
theorem Ug{base R A n c:Nat}(h:RQ base R mp m ln pt w)(hw:Wds w A n c ws)(h1:1<=pt/\pt<=3)(h2:n≠2) :
  Zw 110 #[ZP R 0,ZL A n c] w (LnP base R mp ln w (gq pt (pl m) ws)):=by
 have e:gq pt (pl m) ws=none:=by unfold gq; rw[if_neg (fun x=>h2 tL)]
 rw[e];have HO:=hid (cu h 1 3 h1.1 h1.2);have HR:=hid (h.part 3 ae);have HM:=hid (iL HR.out);have hne:((n:Int)==2)=false:=aA;clear h hw;go_enter func110,ntmps110;exact oY
theorem RJ{base R A n c:Nat}(h:RQ base R mp m ln pt w)(h1:¬(1<=pt/\pt<=4)) :
  Zw 111 #[ZP R 0,ZL A n c] w (LnP base R mp ln w (dO pt (pl m) ws)):=by
 have e:dO pt (pl m) ws=none:=by unfold dO; rw[if_neg (fun x=>h1 x.1)]
 rw[e];have HO:=hid (om h 1 4 h1);clear h;go_enter func111,ntmps111;exact jy
theorem RP{base R A n c:Nat}(h:RQ base R mp m ln pt w)(hw:Wds w A n c ws)(h1:1<=pt/\pt<=4)(h2:n≠4) :
  Zw 111 #[ZP R 0,ZL A n c] w (LnP base R mp ln w (dO pt (pl m) ws)):=by
 have e:dO pt (pl m) ws=none:=by unfold dO; rw[if_neg (fun x=>h2 (by rw[<- hw.len]; exact x.2.1))]
 rw[e];have HO:=hid (cu h 1 4 h1.1 h1.2);have HR:=hid (h.part 4 ae);have HM:=hid (iL HR.out);have hne:((n:Int)==4)=false:=aA;clear h hw;go_enter func111,ntmps111;exact oY
theorem Tm{base R A n c:Nat}(h:RQ base R mp m ln pt w)(h1:¬(1<=pt/\pt<5)) :
  Zw 112 #[ZP R 0,ZL A n c] w (LnP base R mp ln w (jd pt (pl m) ws)):=by
 have e:jd pt (pl m) ws=none:=by unfold jd; rw[if_neg (fun x=>h1 x.1)]
 rw[e];have HO:=hid (OV h 1 5 h1);clear h;go_enter func112,ntmps112;exact jy
theorem TC{base R A n c:Nat}(h:RQ base R mp m ln pt w)(hw:Wds w A n c ws)(h1:1<=pt/\pt<5)(h2:n≠3) :
  Zw 112 #[ZP R 0,ZL A n c] w (LnP base R mp ln w (jd pt (pl m) ws)):=by
 have e:jd pt (pl m) ws=none:=by unfold jd; rw[if_neg (fun x=>h2 tL)]
 rw[e];have HO:=hid (tM h 1 5 h1.1 h1.2);have HR:=hid (h.part 5 ae);have HM:=hid (iL HR.out);have hne:((n:Int)==3)=false:=aA;clear h hw;go_enter func112,ntmps112;exact oY
theorem RL{base R A n c:Nat}(h:RQ base R mp m ln pt w)(h1:¬(5<=pt/\pt<=6)) :
  Zw 113 #[ZP R 0,ZL A n c] w (LnP base R mp ln w (iz pt (pl m) ws)):=by
 have e:iz pt (pl m) ws=none:=by unfold iz; rw[if_neg (fun x=>h1 x.1)]
 rw[e];have HO:=hid (om h 5 6 h1);clear h;go_enter func113,ntmps113;exact jy
theorem QS{base R A n c:Nat}(h:RQ base R mp m ln pt w)(hw:Wds w A n c ws)(h1:5<=pt/\pt<=6)(h2:n≠3) :
  Zw 113 #[ZP R 0,ZL A n c] w (LnP base R mp ln w (iz pt (pl m) ws)):=by
 have e:iz pt (pl m) ws=none:=by unfold iz; rw[if_neg (fun x=>h2 tL)]
 rw[e];have HO:=hid (cu h 5 6 h1.1 h1.2);have HR:=hid (h.part 6 ae);have HM:=hid (iL HR.out);have hne:((n:Int)==3)=false:=aA;clear h hw;go_enter func113,ntmps113;exact oY
theorem S0{base R A n c:Nat}(h:RQ base R mp m ln pt w)(h1:¬(5<=pt/\pt<=7)) :
  Zw 114 #[ZP R 0,ZL A n c] w (LnP base R mp ln w (jl pt (pl m) ws)):=by
 have e:jl pt (pl m) ws=none:=by unfold jl; rw[if_neg (fun x=>h1 x.1)]
 rw[e];have HO:=hid (om h 5 7 h1);clear h;go_enter func114,ntmps114;exact jy
theorem Ss{base R A n c:Nat}(h:RQ base R mp m ln pt w)(hw:Wds w A n c ws)(h1:5<=pt/\pt<=7)(h2:n≠3) :
  Zw 114 #[ZP R 0,ZL A n c] w (LnP base R mp ln w (jl pt (pl m) ws)):=by
 have e:jl pt (pl m) ws=none:=by unfold jl; rw[if_neg (fun x=>h2 tL)]
 rw[e];have HO:=hid (cu h 5 7 h1.1 h1.2);have HR:=hid (h.part 7 ae);have HM:=hid (iL HR.out);have hne:((n:Int)==3)=false:=aA;clear h hw;go_enter func114,ntmps114;exact oY
theorem Sp{base R A n c:Nat}(h:RQ base R mp m ln pt w)(h1:¬(5<=pt/\pt<=8)) :
  Zw 115 #[ZP R 0,ZL A n c] w (LnP base R mp ln w (jt pt (pl m) ws)):=by
 have e:jt pt (pl m) ws=none:=by unfold jt; rw[if_neg (fun x=>h1 x.1)]
 rw[e];have HO:=hid (om h 5 8 h1);clear h;go_enter func115,ntmps115;exact jy
theorem Tv{base R A n c:Nat}(h:RQ base R mp m ln pt w)(hw:Wds w A n c ws)(h1:5<=pt/\pt<=8)(h2:n≠3) :
  Zw 115 #[ZP R 0,ZL A n c] w (LnP base R mp ln w (jt pt (pl m) ws)):=by
 have e:jt pt (pl m) ws=none:=by unfold jt; rw[if_neg (fun x=>h2 tL)]
 rw[e];have HO:=hid (cu h 5 8 h1.1 h1.2);have HR:=hid (h.part 8 ae);have HM:=hid (iL HR.out);have hne:((n:Int)==3)=false:=aA;clear h hw;go_enter func115,ntmps115;exact oY
theorem Rw{base R A n c:Nat}(h:RQ base R mp m ln pt w)(h1:¬(6<=pt/\pt<=6)) :
  Zw 119 #[ZP R 0,ZL A n c] w (LnP base R mp ln w (cj pt (pl m) ws)):=by
 have e:cj pt (pl m) ws=none:=by unfold cj; rw[if_neg (fun x=>h1 x.1)]
 rw[e];have HO:=hid (om h 6 6 h1);clear h;go_enter func119,ntmps119;exact jy
theorem RD{B base R A n c:Nat}(h:RQ base R mp m ln pt w)(hw:Wds w A n c ws)(hA:base<=A)(hE:cY B w)(Fo:B<=R)(hps:psz (pl m)<=2097152) :
  Zw 110 #[ZP R 0,ZL A n c] w (LnP base R mp ln w (gq pt (pl m) ws)):=by
 by_cases h1:1<=pt/\pt<=3
 ·by_cases h2:n=2
  ·rcases h3:nmV (wdx ws 1) with _ | v
   ·exact Rv h hw hA hE Fo hps h1 h2 h3
   exact Lq h hw hA hE Fo hps h1 h2 h3
  exact Ug h hw h1 h2
 exact QW h h1
end
section
theorem Im:(prog.info? 73).map (fun i=>(i.zero,i.size,i.bytes))=some (some (.agg #[.string ⟨#[]⟩,.string ⟨#[]⟩]),2,32):=ak
variable {j:Nat}
theorem Cm{α:Type}{l:List α}  : l.tail[j]? =l[j+1]?:=by cases l <;> simp
variable {mp:Value}{m:MM}{ln pt:Int}{w:World}{ws:Zai}
theorem S9{B base R A n c:Nat}(h:RQ base R mp m ln pt w)(hw:Wds w A n c ws)(hA:base<=A)(hE:cY B w)(Fo:B<=R)(hps:psz (pl m)<=2097152)(hc:c=n)(hn0:2<=n)(hj:(bQ ws.tail).size<=8388608)(h1:1<=pt/\pt<=2)(h3:rdE (bQ ws.tail)=0) :
  Zw 109 #[ZP R 0,ZL A n c] w (LnP base R mp ln w (gp pt (pl m) ws)):=by
 have hc':=hc.symm;subst hc';obtain⟨i0,hi,hz0,hz1,hz2⟩:=Z0 Im
 have e:gp pt (pl m) ws=some (2,{ pl m with types:=(pl m).types++[(rdP (bQ ws.tail),rdR (bQ ws.tail))] }):=by unfold gp; rw[if_pos ⟨h1,h3⟩]
 rw[e]
 have hn:m.tn<=2097152:=by
  exact zT
 have HO:=hid (cu h 1 2 h1.1 h1.2);have q1:=h.part 2 h1.2;have d1:=hw.setR (o:=10) (u:=ZI 2) hA h.low;have k1:=KR.set base R 10 w (ZI 2);have e1:=hE.later (k1.below Fo cP hE.bw);generalize w.setCell (ZA R 10) (ZI 2)=w0 at *;have hlen:ws.tail.length=n-1:=uA;have HJ:=hid (Tryz.strings_Join A 1 (n-1) ws.tail ⟨#[32]⟩ w0 (fun j x hx=>Fj) d1.lt qV (by have:=hw.cap; omega) xP);rw[hlen]at HJ;have ej:(⟨(Lib.join (ws.tail.map (·.data.toList)) (⟨#[32]⟩:BAz).data.toList).toArray⟩:BAz)=bQ ws.tail:=rfl;rw[ej]at HJ;have HS:=hid (fun(W:World) (hW:Zx w0 W)=>oW (bQ ws.tail) W ae (e1.mx.later hW lRn));obtain⟨Ln,GT⟩:=Zz q1 k1;have hc2:¬n=1:=ae;have On:1<=n:=ae;generalize bQ ws.tail=jw at *;clear h hw hE hps h1 q1 d1 k1 e1 e ej hlen hj;go_enter func109,ntmps109
 go_wp2_with fail;refine ZE HO.out ?_;go_wp2_with fail;refine HJ.out.mono ?_;rintro e w2⟨rfl,hb2⟩;have B2:=hid hb2;clear hb2;go_wp2_with fail;refine(HS.out _ B2.out).mono ?_;rintro e w3⟨rfl,hb3⟩;have B3:=Zy B2 hb3;clear hb3;go_wp2_with fail;have HM:=hid (aO R (w3.alloc (aW (rdP jw) (rdR jw))));generalize rdP jw=rp at *;generalize rdR jw=rr at *;have B4:=Zy B3 (aj w3 (aW rp rr));have AT:=hid (hZn w3 (aW rp rr));have Q1:=hid (Ln.out.later B4.out);clear HS HJ HO;refine ZE HM.out ?_;go_wp2_with fail;generalize w3.alloc (aW rp rr)=w1 at *;generalize w3.heap.size=X at *;have B1:=hid ((ZT w1.heap.size w1).drew)
 refine ZX (S:=fun _=>True) ak trivial (fun _=>?_)
 generalize w1.drew=wd at *;refine Zt 0 ?_;refine Zt 1 ?_;refine Zt 2 ?_;refine Zt 3 ?_;refine Zt 4 ?_;refine Zu 5 6 (fun K hK=>?_) fun K hK=>?_
 ·have cH:wd.cell? (ZA R 1)=some (.slice m.ta m.tn m.tc):=(Q1.out.later B1.out).cells 1;go_simp
  refine Zv hK ?_;clear hK K;refine ZR 6 fun K hK=>?_;have y0:=iz0 (ar B1.out AT.out);have y1:=iz1 (ar B1.out AT.out);exact Qq
 have y0:=iz0 (ar B1.out AT.out);have y1:=iz1 (ar B1.out AT.out);go_simp;refine Zv hK ?_;clear hK K;refine Zu 5 7 (fun K hK=>?_) fun K hK=>?_
 ·have cH:wd.cell? (ZA R 1)=some (.slice m.ta m.tn m.tc):=(Q1.out.later B1.out).cells 1;exact Qq
 go_simp;have BN:=Zy B1 (aj wd (aW rp rr));refine Zv hK ?_;clear hK K;refine ZR 5 fun K hK=>?_;have cH:(wd.alloc (aW rp rr)).cell? (ZA R 1)=some (.slice m.ta m.tn m.tc):=(Q1.out.later BN.out).cells 1;go_simp;refine Zv hK ?_;clear hK K;refine ZR 8 fun K hK=>?_;refine wp_append_lies _ (.tmp 24) (.tmp 26) 22 rfl base 73 i0 (.agg #[.string ⟨#[]⟩,.string ⟨#[]⟩]) 2 32 underlying22 hi hz0 hz1 hz2 rfl au (.slice m.ta m.tn m.tc) m.tn (m.types.flatMap iy) rfl (Q1.out.later BN.out).rt (ZA wd.heap.size 0) 1 1 (iy (rp,rr)) rfl rfl ?n1 ?n2 au aP ae (Q1.out.later BN.out).bw _ rfl ?_
 case n1 =>
  exact Gi
 case n2=>intro u hu; simp[iy]at hu; rcases hu with rfl | rfl <;> rfl
 intro g cap w6 Ft BE _ _;have PX:=hid ((Q1.out).pushT BN.out (rp,rr) Ft BE);have z6:=hid (bF ((Q1.out.later BN.out).blk) (Q1.out).low ((Q1.out.later BN.out).rt) BE);clear Ft BE;refine hK.out _ _ trivial (fun _=>?_)
 clear hK K;refine Zt 9 ?_;refine Zt 10 ?_;refine Zt 11 ?_;refine ZR 12 fun K hK=>?_;have c16:=iz1 z6.out;have f16:=free_at (i:=1) z6.out;go_simp;refine Zv hK ?_;clear hK K;refine Z4 ak ?_ _;go_end0;exact⟨(GT.out.trans (KR.later B4.out)).trans PX.out.2,rfl,_,PX.out.1,gN⟩
theorem Vr{B base R A n c:Nat}(h:RQ base R mp m ln pt w)(hw:Wds w A n c ws)(hA:base<=A)(hE:cY B w)(Fo:B<=R)(hps:psz (pl m)<=2097152)(hc:c=n)(hn0:2<=n)(hj:(bQ ws.tail).size<=8388608)(h1:1<=pt/\pt<=2)(h3:rdE (bQ ws.tail)≠0) :
  Zw 109 #[ZP R 0,ZL A n c] w (LnP base R mp ln w (gp pt (pl m) ws)):=by
 have hc':=hc.symm;subst hc';obtain⟨i0,hi,hz0,hz1,hz2⟩:=Z0 Im;have e:gp pt (pl m) ws=none:=H0;rw[e]
 have hn:m.tn<=2097152:=by
  exact zT
 have HO:=hid (cu h 1 2 h1.1 h1.2);have q1:=h.part 2 h1.2;have d1:=hw.setR (o:=10) (u:=ZI 2) hA h.low;have k1:=KR.set base R 10 w (ZI 2);have e1:=hE.later (k1.below Fo cP hE.bw);generalize w.setCell (ZA R 10) (ZI 2)=w0 at *;have hlen:ws.tail.length=n-1:=uA;have HJ:=hid (Tryz.strings_Join A 1 (n-1) ws.tail ⟨#[32]⟩ w0 (fun j x hx=>Fj) d1.lt qV (by have:=hw.cap; omega) xP);rw[hlen]at HJ;have ej:(⟨(Lib.join (ws.tail.map (·.data.toList)) (⟨#[32]⟩:BAz).data.toList).toArray⟩:BAz)=bQ ws.tail:=rfl;rw[ej]at HJ;have HS:=hid (fun(W:World) (hW:Zx w0 W)=>oW (bQ ws.tail) W ae (e1.mx.later hW lRn));obtain⟨Ln,GT⟩:=Zz q1 k1;have hc2:¬n=1:=ae;have On:1<=n:=ae;exact Lj
theorem SS{B base R A n c:Nat}(h:RQ base R mp m ln pt w)(hw:Wds w A n c ws)(hA:base<=A)(hE:cY B w)(Fo:B<=R)(hps:psz (pl m)<=2097152)(hc:c=n)(hn0:n=1)(hj:(bQ ws.tail).size<=8388608)(h1:1<=pt/\pt<=2)(h3:rdE (bQ ws.tail)≠0) :
  Zw 109 #[ZP R 0,ZL A n c] w (LnP base R mp ln w (gp pt (pl m) ws)):=by
 have hc':=hc.symm;subst hc';obtain⟨i0,hi,hz0,hz1,hz2⟩:=Z0 Im;have e:gp pt (pl m) ws=none:=H0;rw[e]
 have hn:m.tn<=2097152:=by
  exact zT
 have HO:=hid (cu h 1 2 h1.1 h1.2);have q1:=h.part 2 h1.2;have d1:=hw.setR (o:=10) (u:=ZI 2) hA h.low;have k1:=KR.set base R 10 w (ZI 2);have e1:=hE.later (k1.below Fo cP hE.bw);generalize w.setCell (ZA R 10) (ZI 2)=w0 at *;have hlen:ws.tail.length=n-1:=uA;have HJ:=hid (Tryz.strings_Join A 0 0 ws.tail ⟨#[32]⟩ w0 (fun j x hx=>by have:=List.getElem?_eq_some_iff.1 hx; obtain⟨hl,_⟩:=this; omega) d1.lt qV (by have:=hw.cap; omega) xP);rw[hlen]at HJ;have ej:(⟨(Lib.join (ws.tail.map (·.data.toList)) (⟨#[32]⟩:BAz).data.toList).toArray⟩:BAz)=bQ ws.tail:=rfl;rw[ej]at HJ;have HS:=hid (fun(W:World) (hW:Zx w0 W)=>oW (bQ ws.tail) W ae (e1.mx.later hW lRn));obtain⟨Ln,GT⟩:=Zz q1 k1;subst hn0;exact Lj
theorem RA:rdE (bQ [])=15:=ak
theorem Vm{B base R A n c:Nat}(h:RQ base R mp m ln pt w)(hw:Wds w A n c ws)(hA:base<=A)(hE:cY B w)(Fo:B<=R)(hps:psz (pl m)<=2097152)(hc:c=n)(hn0:1<=n)(hj:(bQ ws.tail).size<=8388608) :
  Zw 109 #[ZP R 0,ZL A n c] w (LnP base R mp ln w (gp pt (pl m) ws)):=by
 by_cases h1:1<=pt/\pt<=2
 ·by_cases h2:n=1
  ·have e:ws.tail=[]:=by
    have:=hw.len;rw[h2]at this;exact Z6 (by rw[List.length_tail]; omega)
   exact SS h hw hA hE Fo hps hc h2 hj h1 (by rw[e,RA]; decide)
  by_cases h3:rdE (bQ ws.tail)=0
  ·exact S9 h hw hA hE Fo hps hc ae hj h1 h3
  exact Vr h hw hA hE Fo hps hc ae hj h1 h3
 exact TX h h1
variable {a b:Int}
theorem RS{B base R A n c:Nat}(h:RQ base R mp m ln pt w)(hw:Wds w A n c ws)(hA:base<=A)(hE:cY B w)(Fo:B<=R)(hps:psz (pl m)<=2097152)(h1:1<=pt/\pt<5)(h2:n=3)(h3:nmV (wdx ws 1)=some a)(h4:nmV (wdx ws 2)=some b) :
  Zw 112 #[ZP R 0,ZL A n c] w (LnP base R mp ln w (jd pt (pl m) ws)):=by
 obtain⟨x,hx⟩:=ZB ws 1 bN;have ex:wdx ws 1=x:=cX;obtain⟨y,hy⟩:∃x,ws[2]? =some x:=⟨_,aD bN⟩;have ey:wdx ws 2=y:=fy
 have e:jd pt (pl m) ws=some (5,{ pl m with fi:=a,mo:=b }):=by
  exact GD
 rw[e];subst h2;have HO:=hid (tM h 1 5 h1.1 h1.2);have q1:=h.part 5 ae;have d1:=hw.setR (o:=10) (u:=ZI 5) hA h.low;have k1:=KR.set base R 10 w (ZI 5);have e1:=hE.later (k1.below Fo cP hE.bw);have HM:=hid (aO R (w.setCell (ZA R 10) (ZI 5)));generalize w.setCell (ZA R 10) (ZI 5)=w1 at *;obtain⟨Ln,me,GT,aE⟩:=ZF q1 d1 k1 e1;have sx:=hw.sz x (ZO hx);have Kx:=ZJ d1 hx;have sy:=hw.sz y (ZO hy);have IN:=ZJ d1 hy;rw[ex]at h3;rw[ey]at h4;have Xs:=hid (fun(W:World) (hW:Zx w1 W)=>iV B R x a W (e1.tens.later (hW.mono e1.bw)) (ZW e1.bw hW.size) ae h3);have tr:=hid (fun(W:World) (hW:Zx w1 W)=>iV B R y b W (e1.tens.later (hW.mono e1.bw)) (ZW e1.bw hW.size) ae h4);clear h hw hE hps h1 q1 d1 k1 e1 e hx ex hy ey h3 h4;go_enter func112,ntmps112
 go_wp2_with fail;refine ZE HO.out ?_;go_wp2_with fail;refine ZE HM.out ?_;go_wp2_with fail;have B1:=hid ((ZT w1.heap.size w1).drew)
 refine ZX (S:=fun _=>True) ak trivial (fun _=>?_)
 generalize w1.drew=wd at *;refine Zt 0 ?_;refine Zt 1 ?_;refine Zt 2 ?_;refine Zt 3 ?_;refine Zt 7 ?_;refine Zt 8 ?_;refine Zt 4 ?_;refine Zt 9 ?_;refine Zu 5 10 (fun K hK=>?_) fun K hK=>?_
 ·have c5:wd.cell? (ZA A 1)=some (.string x):=Kx.out _ B1.out;go_simp
  refine Zv hK ?_;clear hK K;refine Zu 6 10 (fun K hK=>?_) fun K hK=>?_
  ·go_simp;refine(Xs.out _ B1.out).mono ?_;rintro e w5⟨rfl,AI⟩;have B5:=Zy B1 AI;clear AI
   refine Zv hK ?_;clear hK K;refine ZR 10 fun K hK=>?_;have c10:w5.cell? (ZA A 2)=some (.string y):=IN.out _ B5.out;go_simp;refine Zv hK ?_;clear hK K;refine ZR 11 fun K hK=>?_;go_simp;refine(tr.out _ B5.out).mono ?_;rintro e w6⟨rfl,LE⟩;have B6:=Zy B5 LE;clear LE;have Q6:=hid (Ln.out.later B6.out);refine hK.out _ _ trivial (fun _=>?_)
   clear hK K;refine Zt 12 ?_;refine Zt 13 ?_;refine Zt 14 ?_;refine ZR 15 fun K hK=>?_;have c16:=Q6.out.cells 4;have f16:=Q6.out.free 4;go_simp;have Q7:=hid (RQ.set (m':={ m with fi:=a }) Q6.out 4 (ZI a) rfl ⟨rfl,rfl,rfl,rfl⟩ ⟨rfl,rfl,rfl,rfl⟩ ⟨rfl,rfl,rfl,rfl⟩ ⟨rfl,rfl,rfl,rfl⟩ ⟨rfl,rfl,rfl,rfl⟩ ⟨rfl,rfl,rfl,rfl⟩ id);have K7:=hid ((KR.later B6.out).trans (KR.set base R 4 w6 (ZI a)));refine hK.out _ _ trivial (fun _=>?_)
   clear hK K;refine Zt 16 ?_;refine Zt 17 ?_;refine Zt 18 ?_;refine ZR 19 fun K hK=>?_;generalize w6.setCell (ZA R 4) (ZI a)=w7 at *;have c17:=Q7.out.cells 5;have f17:=Q7.out.free 5;go_simp;have Q8:=hid (RQ.set (m':={ m with fi:=a,mo:=b }) Q7.out 5 (ZI b) rfl ⟨rfl,rfl,rfl,rfl⟩ ⟨rfl,rfl,rfl,rfl⟩ ⟨rfl,rfl,rfl,rfl⟩ ⟨rfl,rfl,rfl,rfl⟩ ⟨rfl,rfl,rfl,rfl⟩ ⟨rfl,rfl,rfl,rfl⟩ id);have K8:=hid (K7.out.trans (KR.set base R 5 w7 (ZI b)));refine Zv hK ?_;clear hK K;refine Z4 ak ?_ _;go_end0;exact⟨GT.out.trans K8.out,rfl,_,Q8.out,gN⟩
  have c10:wd.cell? (ZA A 2)=some (.string y):=IN.out _ B1.out;exact Mp
 have c10:wd.cell? (ZA A 2)=some (.string y):=IN.out _ B1.out;go_simp;refine Zv hK ?_;clear hK K;refine ZR 5 fun K hK=>?_;have c5:wd.cell? (ZA A 1)=some (.string x):=Kx.out _ B1.out;exact Mp
theorem WW{B base R A n c:Nat}(h:RQ base R mp m ln pt w)(hw:Wds w A n c ws)(hA:base<=A)(hE:cY B w)(Fo:B<=R)(hps:psz (pl m)<=2097152)(h1:1<=pt/\pt<5)(h2:n=3)(h3:nmV (wdx ws 1)=none) :
  Zw 112 #[ZP R 0,ZL A n c] w (LnP base R mp ln w (jd pt (pl m) ws)):=by
 obtain⟨x,hx⟩:=ZB ws 1 bN;have ex:wdx ws 1=x:=cX;obtain⟨y,hy⟩:∃x,ws[2]? =some x:=⟨_,aD bN⟩;have ey:wdx ws 2=y:=fy
 have e:jd pt (pl m) ws=none:=by
  rw[ex]at h3;unfold jd; rw[if_pos ⟨h1,ig⟩,ex,ey]; rw[h3]; rfl
 rw[e];subst h2;have HO:=hid (tM h 1 5 h1.1 h1.2);have q1:=h.part 5 ae;have d1:=hw.setR (o:=10) (u:=ZI 5) hA h.low;have k1:=KR.set base R 10 w (ZI 5);have e1:=hE.later (k1.below Fo cP hE.bw);have HM:=hid (aO R (w.setCell (ZA R 10) (ZI 5)));generalize w.setCell (ZA R 10) (ZI 5)=w1 at *;obtain⟨Ln,me,GT,aE⟩:=ZF q1 d1 k1 e1;have sx:=hw.sz x (ZO hx);have Kx:=ZJ d1 hx;have sy:=hw.sz y (ZO hy);have IN:=ZJ d1 hy;rw[ex]at h3;have Xs:=hid (fun(W:World) (hW:Zx w1 W)=>oN B R x ln W (e1.tens.later (hW.mono e1.bw)) (e1.errs.later (hW.mono e1.bw)) (ZW e1.bw hW.size) ae ((q1.later hW).cells 9) h3);clear h hw hE hps h1 q1 d1 k1 e1 e hx ex hy ey h3;go_enter func112,ntmps112
 go_wp2_with fail;refine ZE HO.out ?_;go_wp2_with fail;refine ZE HM.out ?_;go_wp2_with fail;have B1:=hid ((ZT w1.heap.size w1).drew)
 refine ZX (S:=fun _=>True) ak trivial (fun _=>?_)
 generalize w1.drew=wd at *;refine Zt 0 ?_;refine Zt 1 ?_;refine Zt 2 ?_;refine Zt 3 ?_;refine Zt 7 ?_;refine Zt 8 ?_;refine Zt 4 ?_;refine Zt 9 ?_;refine Zu 5 10 (fun K hK=>?_) fun K hK=>?_
 ·have c5:wd.cell? (ZA A 1)=some (.string x):=Kx.out _ B1.out;go_simp
  refine Zv hK ?_;clear hK K;refine Zu 6 10 (fun K hK=>?_) fun K hK=>?_
  ·exact Gu
  have c10:wd.cell? (ZA A 2)=some (.string y):=IN.out _ B1.out;exact Oo
 have c10:wd.cell? (ZA A 2)=some (.string y):=IN.out _ B1.out;go_simp;refine Zv hK ?_;clear hK K;refine ZR 5 fun K hK=>?_;have c5:wd.cell? (ZA A 1)=some (.string x):=Kx.out _ B1.out;exact Oo
theorem WM{B base R A n c:Nat}(h:RQ base R mp m ln pt w)(hw:Wds w A n c ws)(hA:base<=A)(hE:cY B w)(Fo:B<=R)(hps:psz (pl m)<=2097152)(h1:1<=pt/\pt<5)(h2:n=3)(h3:nmV (wdx ws 1)=some a)(h4:nmV (wdx ws 2)=none) :
  Zw 112 #[ZP R 0,ZL A n c] w (LnP base R mp ln w (jd pt (pl m) ws)):=by
 obtain⟨x,hx⟩:=ZB ws 1 bN;have ex:wdx ws 1=x:=cX;obtain⟨y,hy⟩:∃x,ws[2]? =some x:=⟨_,aD bN⟩;have ey:wdx ws 2=y:=fy
 have e:jd pt (pl m) ws=none:=by
  exact GD
 rw[e];subst h2;have HO:=hid (tM h 1 5 h1.1 h1.2);have q1:=h.part 5 ae;have d1:=hw.setR (o:=10) (u:=ZI 5) hA h.low;have k1:=KR.set base R 10 w (ZI 5);have e1:=hE.later (k1.below Fo cP hE.bw);have HM:=hid (aO R (w.setCell (ZA R 10) (ZI 5)));generalize w.setCell (ZA R 10) (ZI 5)=w1 at *;obtain⟨Ln,me,GT,aE⟩:=ZF q1 d1 k1 e1;have sx:=hw.sz x (ZO hx);have Kx:=ZJ d1 hx;have sy:=hw.sz y (ZO hy);have IN:=ZJ d1 hy;rw[ex]at h3;rw[ey]at h4;have Xs:=hid (fun(W:World) (hW:Zx w1 W)=>iV B R x a W (e1.tens.later (hW.mono e1.bw)) (ZW e1.bw hW.size) ae h3);have tr:=hid (fun(W:World) (hW:Zx w1 W)=>oN B R y ln W (e1.tens.later (hW.mono e1.bw)) (e1.errs.later (hW.mono e1.bw)) (ZW e1.bw hW.size) ae ((q1.later hW).cells 9) h4);clear h hw hE hps h1 q1 d1 k1 e1 e hx ex hy ey h3 h4;go_enter func112,ntmps112
 go_wp2_with fail;refine ZE HO.out ?_;go_wp2_with fail;refine ZE HM.out ?_;go_wp2_with fail;have B1:=hid ((ZT w1.heap.size w1).drew)
 refine ZX (S:=fun _=>True) ak trivial (fun _=>?_)
 generalize w1.drew=wd at *;refine Zt 0 ?_;refine Zt 1 ?_;refine Zt 2 ?_;refine Zt 3 ?_;refine Zt 7 ?_;refine Zt 8 ?_;refine Zt 4 ?_;refine Zt 9 ?_;refine Zu 5 10 (fun K hK=>?_) fun K hK=>?_
 ·have c5:wd.cell? (ZA A 1)=some (.string x):=Kx.out _ B1.out;go_simp
  refine Zv hK ?_;clear hK K;refine Zu 6 10 (fun K hK=>?_) fun K hK=>?_
  ·go_simp;refine(Xs.out _ B1.out).mono ?_;rintro e w5⟨rfl,AI⟩;have B5:=Zy B1 AI;clear AI
   refine Zv hK ?_;clear hK K;refine ZR 10 fun K hK=>?_;have c10:w5.cell? (ZA A 2)=some (.string y):=IN.out _ B5.out;go_simp;refine Zv hK ?_;clear hK K;refine ZR 11 fun K hK=>?_;go_simp;refine(tr.out _ B5.out).mono ?_;rintro e w6⟨rfl,LE⟩;exact⟨rfl,GT.out.trans (KR.later (B5.out.trans (LE.mono B5.out.size))),rfl⟩
  have c10:wd.cell? (ZA A 2)=some (.string y):=IN.out _ B1.out;exact Px
 have c10:wd.cell? (ZA A 2)=some (.string y):=IN.out _ B1.out;go_simp;refine Zv hK ?_;clear hK K;refine ZR 5 fun K hK=>?_;have c5:wd.cell? (ZA A 1)=some (.string x):=Kx.out _ B1.out;exact Px
theorem Vi{B base R A n c:Nat}(h:RQ base R mp m ln pt w)(hw:Wds w A n c ws)(hA:base<=A)(hE:cY B w)(Fo:B<=R)(hps:psz (pl m)<=2097152) :
  Zw 112 #[ZP R 0,ZL A n c] w (LnP base R mp ln w (jd pt (pl m) ws)):=by
 by_cases h1:1<=pt/\pt<5
 ·by_cases h2:n=3
  ·rcases h3:nmV (wdx ws 1) with _ | a
   ·exact WW h hw hA hE Fo hps h1 h2 h3
   rcases h4:nmV (wdx ws 2) with _ | b
   ·exact WM h hw hA hE Fo hps h1 h2 h3 h4
   exact RS h hw hA hE Fo hps h1 h2 h3 h4
  exact TC h hw h1 h2
 exact Tm h h1
end
end Go.Proofs.YtheefojaplnnoaaGreatDoor
