/-
  Texts Rk Nd Ne Laid.
-/
import Derived.Test.YtepcmfegggdjfaaGreatDoorM00
import Derived.Test.YtepcmfegggdjfaaGreatDoorCards
import Derived.Test.YtepcmfegggdjfaaGreatDoorM03
import Derived.Test.YtepcmfegggdjfaaGreatDoorM13
import Derived.Test.YtepcmfegggdjfaaGreatDoorM18
import Derived.Test.YtepcmfegggdjfaaGreatDoorM19
set_option linter.unusedVariables false
set_option maxRecDepth 100000
set_option maxHeartbeats 16000000
namespace Go.Proofs.YtepcmfegggdjfaaGreatDoor
open Go.Proofs.Tryz
open Go.RowKit
structure Szs(m:MM):Prop where
 tn:m.tn<=100000
 hn:m.hn<=100000
 gn:m.gn<=100000
 fn:m.fn<=100000
 dn:m.dn<=100000
 en:m.en<=100000
 t:∀(j:Nat)x,m.types[j]? =some x->x.1.size<=100000/\x.2.size<=100000
 f:∀(j:Nat)x,m.fns[j]? =some x->x.2.1.size<=100000/\x.2.2.1.2.1<=100000
 d:∀(j:Nat)x,m.data[j]? =some x->x.2.1.2.1<=100000
 e:∀(j:Nat)x,m.exps[j]? =some x->x.1.size<=100000
theorem LU(m:MM):fw m=orE (orE (e1 m) (e2 m)) (orE (orE (e3 m) (orE (e4 m) (e5 m))) (orE (e6 m) (orE (e7 m) (e8 m)))):=by
 unfold fw orE
 by_cases h1:e1 m=0 <;> by_cases h2:e2 m=0 <;> by_cases h3:e3 m=0 <;> by_cases h4:e4 m=0 <;> by_cases h5:e5 m=0 <;> simp[h1,h2,h3,h4,h5]
theorem N9(m:MM)(w:World)(hm:MOk w w.heap.size w.heap.size m)(hz:Szs m) :
  Calls prog 51 #[.agg (mV m)] w fun e w'=>e=.returned (.int .i64 (fw m))/\Below w.heap.size w w':=by
 have HM:=hid (fun(W:World) (hb:Below w.heap.size w W)=>hm.later hb);have C1:=hid (fun(W:World) (hb:Below w.heap.size w W)=>uj m W (HM.out W hb).pt (HM.out W hb).ph (HM.out W hb).hr (fun j x hj=>⟨by have:=(hz.t j x hj).1; omega,by have:=(hz.t j x hj).2; omega⟩) (by have:=hz.tn; omega) (by have:=hz.hn; omega));have C2:=hid (fun(W:World) (hb:Below w.heap.size w W)=>qH m W (HM.out W hb).pg (HM.out W hb).gr (HM.out W hb).i0 (HM.out W hb).i1 (HM.out W hb).o0 (HM.out W hb).o1 (by have:=hz.gn; omega));have C3:=hid (fun(h1:e1 m=0)(W:World) (hb:Below w.heap.size w W)=>yM m W (HM.out W hb).pt (fun j x hj=>(dW (gv h1 j x hj)).1) (by have:=hz.tn; omega) (HM.out W hb).pf (by have:=hz.fn; omega) (fun j x hj=>⟨((HM.out W hb).fr j x hj).1,((HM.out W hb).fr j x hj).2.1,by have:=(hz.f j x hj).1; omega,by have:=(hz.f j x hj).2; omega,fun i y hi=>⟨(((HM.out W hb).fr j x hj).2.2.2 i y hi).1,(((HM.out W hb).fr j x hj).2.2.2 i y hi).2.1,(((HM.out W hb).fr j x hj).2.2.2 i y hi).2.2.1⟩⟩));have C4:=hid (fun(h4:e4 m=0)(W:World) (hb:Below w.heap.size w W)=>vH m W (HM.out W hb).pd (fun j x hj=>⟨((HM.out W hb).dr j x hj).1,((HM.out W hb).dr j x hj).2.1.1.symm,by have:=hz.d j x hj; omega⟩) (by have:=hz.dn; omega) Hn Hn (HM.out W hb).pe (fun j x hj=>⟨(HM.out W hb).er j x hj,by have:=hz.e j x hj; omega⟩) (by have:=hz.en; omega) (by have:=hz.fn; omega));have HC:=hid (LU m);have HP1:=hid (fun(h:orE (e1 m) (e2 m)=0)=>(aI h).1);have HP4:=hid (fun(h:orE (e3 m) (orE (e4 m) (e5 m))=0)=>(aI (aI h).2).1);unfold mV at C1 C2 C3 C4;clear hm hz;have B0:=aj w (.cells (mV m) 29);have b0:=hZn w (.cells (mV m) 29);have HW:w.alloc (bF m.ta m.tn m.tc m.ha m.hn m.hc m.ga m.gn m.gc m.fi m.mo m.fa m.fn m.fc m.da m.dn m.dc m.ea m.en m.ec)=w.alloc (.cells (mV m) 29):=rfl;generalize w.alloc (.cells (mV m) 29)=W0 at *;have HB:=hid (Below.refl W0.heap.size W0);have HB0:=hid B0;have HX:=hid (fun(W:World) (hb:Below W0.heap.size W0 W)=>(⟨ag hb (ai b0),ag hb (ai b0),ag hb (ai b0),ag hb (ai b0),ag hb (ai b0),ag hb (ai b0),ag hb (ai b0),ag hb (ai b0)⟩:W.cell? ⟨w.heap.size,0,none⟩=some (.slice m.ta m.tn m.tc)/\W.cell? ⟨w.heap.size,1,none⟩=some (.slice m.ha m.hn m.hc)/\W.cell? ⟨w.heap.size,2,none⟩=some (.slice m.ga m.gn m.gc)/\W.cell? ⟨w.heap.size,3,none⟩=some (.int .i64 m.fi)/\W.cell? ⟨w.heap.size,4,none⟩=some (.int .i64 m.mo)/\W.cell? ⟨w.heap.size,5,none⟩=some (.slice m.fa m.fn m.fc)/\W.cell? ⟨w.heap.size,6,none⟩=some (.slice m.da m.dn m.dc)/\W.cell? ⟨w.heap.size,7,none⟩=some (.slice m.ea m.en m.ec)));obtain⟨m0,m1,m2,m3,m4,m5,m6,m7⟩:=HX.out W0 (Below.refl _ _);clear B0 b0;show Calls prog 51 #[.agg #[.slice m.ta m.tn m.tc,.slice m.ha m.hn m.hc,.slice m.ga m.gn m.gc,.int .i64 m.fi,.int .i64 m.mo,.slice m.fa m.fn m.fc,.slice m.da m.dn m.dc,.slice m.ea m.en m.ec]] w _;rw[HC.out];have C3:=hid (fun(h:orE (e1 m) (e2 m)=0)=>C3.out (HP1.out h));have C4:=hid (fun(h:orE (e3 m) (orE (e4 m) (e5 m))=0)=>C4.out (HP4.out h));clear HC HP1 HP4;generalize orE (e1 m) (e2 m)=A1 at *;generalize orE (e3 m) (orE (e4 m) (e5 m))=A2 at *;generalize e6 m=A3 at *;generalize orE (e7 m) (e8 m)=A4 at *;go_enter func51,ntmps51
 go_wp2_with fail;refine(C1.out _ (HB0.out.trans (HB.out.mono HB0.out.size))).mono ?_;rintro e w1⟨rfl,hb1⟩
 replace HB:=hid (HB.out.trans (hb1.mono HB.out.size));obtain⟨m0,m1,m2,m3,m4,m5,m6,m7⟩:=HX.out _ HB.out;clear hb1
 by_cases z1:A1=0
 rotate_left
 ·have d1:(A1==0)=false:=by simpa using z1
  have HV:=hid (show orE A1 (orE A2 (orE A3 A4))=A1 from dE z1);exact iN
 subst z1;have HV1:=hid (show orE 0 (orE A2 (orE A3 A4))=orE A2 (orE A3 A4) from aX rfl);replace C3:=hid (C3.out rfl)
 go_wp2_with fail;refine(C2.out _ (HB0.out.trans (HB.out.mono HB0.out.size))).mono ?_;rintro e w2⟨rfl,hb2⟩
 replace HB:=hid (HB.out.trans (hb2.mono HB.out.size));obtain⟨m0,m1,m2,m3,m4,m5,m6,m7⟩:=HX.out _ HB.out;clear hb2
 by_cases z2:A2=0
 rotate_left
 ·have d1:(A2==0)=false:=by simpa using z2
  have HV:=hid (show orE A2 (orE A3 A4)=A2 from dE z2);go_wp2_with fail;go_ret;exact⟨by rw[HV1.out,HV.out]; rfl,HB0.out.trans (HB.out.mono HB0.out.size)⟩
 subst z2;have HV2:=hid (show orE 0 (orE A3 A4)=orE A3 A4 from aX rfl);replace C4:=hid (C4.out rfl)
 go_wp2_with fail;refine(C3.out _ (HB0.out.trans (HB.out.mono HB0.out.size))).mono ?_;rintro e w3⟨rfl,hb3⟩
 replace HB:=hid (HB.out.trans (hb3.mono HB.out.size));obtain⟨m0,m1,m2,m3,m4,m5,m6,m7⟩:=HX.out _ HB.out;clear hb3
 by_cases z3:A3=0
 rotate_left
 ·have d1:(A3==0)=false:=by simpa using z3
  have HV:=hid (show orE A3 A4=A3 from dE z3);go_wp2_with fail;go_ret;exact⟨by rw[HV1.out,HV2.out,HV.out]; rfl,HB0.out.trans (HB.out.mono HB0.out.size)⟩
 subst z3;have HV3:=hid (show orE 0 A4=A4 from aX rfl);go_wp2_with fail;refine(C4.out _ (HB0.out.trans (HB.out.mono HB0.out.size))).mono ?_;rintro e w4⟨rfl,hb4⟩;replace HB:=hid (HB.out.trans (hb4.mono HB.out.size));obtain⟨m0,m1,m2,m3,m4,m5,m6,m7⟩:=HX.out _ HB.out;clear hb4;go_wp2_with fail;go_ret;exact⟨by rw[HV1.out,HV2.out,HV3.out]; rfl,HB0.out.trans (HB.out.mono HB0.out.size)⟩
theorem KY(m:MM)(w:World)(hm:∀R g,w.heap.size<=R->w.heap.size<=g->MOk w R g m)(hz:Szs m) :
  Calls prog 28 #[.agg (mV m)] w fun e w'=>∃v,e=.returned (.tuple #[v,.int .i64 (bO m)])/\Below w.heap.size w w':=by
 have C1:=hid (fun(W:World) (hb:Below w.heap.size w W)=>N9 m W ((hm _ _ hb.size hb.size).later hb) hz);have C2:=hid (fun(h:fw m=0)(W:World) (hb:Below w.heap.size w W)=>Qj m W h ((hm _ _ hb.size hb.size).later hb) (fun j x hj=>by have:=hz.e j x hj; omega) (fun j x hj=>by have h1:=hz.d j x hj; have h2:=((hm _ _ hb.size hb.size).later hb).dr j x hj; have:=h2.2.1.1; omega));have HC:=hid (show bO m=orE (fw m) (if 65536<(eA++qG m).length then 13 else 0) from rfl);unfold mV at C1 C2;clear hm hz;have B0:=aj w (.cells (mV m) 29);have b0:=hZn w (.cells (mV m) 29);have HW:w.alloc (bF m.ta m.tn m.tc m.ha m.hn m.hc m.ga m.gn m.gc m.fi m.mo m.fa m.fn m.fc m.da m.dn m.dc m.ea m.en m.ec)=w.alloc (.cells (mV m) 29):=rfl;generalize w.alloc (.cells (mV m) 29)=W0 at *;have HB:=hid (Below.refl W0.heap.size W0);have HB0:=hid B0;have HX:=hid (fun(W:World) (hb:Below W0.heap.size W0 W)=>(⟨ag hb (ai b0),ag hb (ai b0),ag hb (ai b0),ag hb (ai b0),ag hb (ai b0),ag hb (ai b0),ag hb (ai b0),ag hb (ai b0)⟩:W.cell? ⟨w.heap.size,0,none⟩=some (.slice m.ta m.tn m.tc)/\W.cell? ⟨w.heap.size,1,none⟩=some (.slice m.ha m.hn m.hc)/\W.cell? ⟨w.heap.size,2,none⟩=some (.slice m.ga m.gn m.gc)/\W.cell? ⟨w.heap.size,3,none⟩=some (.int .i64 m.fi)/\W.cell? ⟨w.heap.size,4,none⟩=some (.int .i64 m.mo)/\W.cell? ⟨w.heap.size,5,none⟩=some (.slice m.fa m.fn m.fc)/\W.cell? ⟨w.heap.size,6,none⟩=some (.slice m.da m.dn m.dc)/\W.cell? ⟨w.heap.size,7,none⟩=some (.slice m.ea m.en m.ec)));obtain⟨m0,m1,m2,m3,m4,m5,m6,m7⟩:=HX.out W0 (Below.refl _ _);clear B0 b0;show Calls prog 28 #[.agg #[.slice m.ta m.tn m.tc,.slice m.ha m.hn m.hc,.slice m.ga m.gn m.gc,.int .i64 m.fi,.int .i64 m.mo,.slice m.fa m.fn m.fc,.slice m.da m.dn m.dc,.slice m.ea m.en m.ec]] w _;generalize fw m=A1 at *;generalize eA++qG m=BB at *;go_enter func28,ntmps28
 go_wp2_with fail;refine(C1.out _ (HB0.out.trans (HB.out.mono HB0.out.size))).mono ?_;rintro e w1⟨rfl,hb1⟩
 replace HB:=hid (HB.out.trans (hb1.mono HB.out.size));obtain⟨m0,m1,m2,m3,m4,m5,m6,m7⟩:=HX.out _ HB.out;clear hb1
 by_cases z1:A1=0
 rotate_left
 ·have d1:(A1 != 0)=true:=by simpa using z1
  have HV:=hid (show bO m=A1 from HC.out.trans (dE z1));exact xX
 subst z1;have HC2:=hid (HC.out.trans (aX rfl));replace C2:=hid (C2.out rfl)
 go_wp2_with fail;refine(C2.out _ (HB0.out.trans (HB.out.mono HB0.out.size))).mono ?_;rintro e w2⟨y,rfl,hby,hb2⟩;obtain⟨ya,yc,rfl⟩:=Kl hby
 replace HB:=hid (HB.out.trans (hb2.mono HB.out.size));clear hby hb2
 by_cases h6:65536<BB.length
 ·have HV:=hid (show bO m=13 by rw[HC2.out,if_pos h6])
  have d6:(65536:Int)<(BB.length:Int):=ae;exact xX
 have HV:=hid (show bO m=0 by rw[HC2.out,if_neg h6]);have d6:¬(65536:Int)<(BB.length:Int):=ae;exact xX
theorem Lt(m:MM)(w:World)(hm:∀R g,w.heap.size<=R->w.heap.size<=g->MOk w R g m)(hz:Szs m) :
  Calls prog 19 #[.agg (mV m)] w fun e w'=>e=.returned (.int .i64 (bO m))/\Below w.heap.size w w':=by
 have C1:=hid (fun(W:World) (hb:Below w.heap.size w W)=>KY m W (fun R g h1 h2=>(hm R g (Nat.le_trans hb.size h1) (Nat.le_trans hb.size h2)).later hb) hz);unfold mV at C1;clear hm hz;have B0:=aj w (.cells (mV m) 29);have b0:=hZn w (.cells (mV m) 29);have HW:w.alloc (bF m.ta m.tn m.tc m.ha m.hn m.hc m.ga m.gn m.gc m.fi m.mo m.fa m.fn m.fc m.da m.dn m.dc m.ea m.en m.ec)=w.alloc (.cells (mV m) 29):=rfl;generalize w.alloc (.cells (mV m) 29)=W0 at *;have HB:=hid (Below.refl W0.heap.size W0);have HB0:=hid B0;have HX:=hid (fun(W:World) (hb:Below W0.heap.size W0 W)=>(⟨ag hb (ai b0),ag hb (ai b0),ag hb (ai b0),ag hb (ai b0),ag hb (ai b0),ag hb (ai b0),ag hb (ai b0),ag hb (ai b0)⟩:W.cell? ⟨w.heap.size,0,none⟩=some (.slice m.ta m.tn m.tc)/\W.cell? ⟨w.heap.size,1,none⟩=some (.slice m.ha m.hn m.hc)/\W.cell? ⟨w.heap.size,2,none⟩=some (.slice m.ga m.gn m.gc)/\W.cell? ⟨w.heap.size,3,none⟩=some (.int .i64 m.fi)/\W.cell? ⟨w.heap.size,4,none⟩=some (.int .i64 m.mo)/\W.cell? ⟨w.heap.size,5,none⟩=some (.slice m.fa m.fn m.fc)/\W.cell? ⟨w.heap.size,6,none⟩=some (.slice m.da m.dn m.dc)/\W.cell? ⟨w.heap.size,7,none⟩=some (.slice m.ea m.en m.ec)));obtain⟨m0,m1,m2,m3,m4,m5,m6,m7⟩:=HX.out W0 (Below.refl _ _);clear B0 b0;show Calls prog 19 #[.agg #[.slice m.ta m.tn m.tc,.slice m.ha m.hn m.hc,.slice m.ga m.gn m.gc,.int .i64 m.fi,.int .i64 m.mo,.slice m.fa m.fn m.fc,.slice m.da m.dn m.dc,.slice m.ea m.en m.ec]] w _;generalize bO m=A1 at *;go_enter func19,ntmps19
 go_wp2_with fail;refine(C1.out _ (HB0.out.trans (HB.out.mono HB0.out.size))).mono ?_;rintro e w1⟨v,rfl,hb1⟩
 replace HB:=hid (HB.out.trans (hb1.mono HB.out.size));clear hb1;go_wp2_with fail;go_ret;exact⟨rfl,HB0.out.trans (HB.out.mono HB0.out.size)⟩
variable {m:MM}
theorem Q9(hs:m.tn+m.hn+m.gn+m.fn+m.dn+m.en+(tu m.types+ke m.fns+pF m.data+mR m.exps)<=20000):Szs m:=by
 have hsm:mr m:=by unfold mr; omega
 obtain⟨s1,s2,s3,s4⟩:=hsm.parts
 have s5:∀(j:Nat)x,m.fns[j]? =some x->x.2.2.1.2.1<=20000:=fun j x hj=>by
  have:x.2.1.size+szG x.2.2.2 x.2.2.1.2.1<=ke m.fns:=oL (f:=fun x:FuM=>x.2.1.size+szG x.2.2.2 x.2.2.1.2.1) (List.mem_of_getElem? hj);exact(tE x.2.2.2 x.2.2.1.2.1 ae).1
 refine⟨ae,ae,ae,ae,ae,ae,fun j x hj=>?_,fun j x hj=>?_,fun j x hj=>?_,fun j x hj=>?_⟩
 ·have:=s1 j x hj
  omega
 ·have:=s2 j x hj
  have:=s5 j x hj;omega
 ·have:=s3 j x hj
  omega
 have:=s4 j x hj;omega
def UG(m:MM)(w:World)(e:Ending)(w':World):Prop :=
 Below w.heap.size w w'/\∃v E f pc,e=.returned (.tuple #[v,.int .i64 E,.int .i64 f,.int .i64 pc])/\(bO m=0->Hy m->E=0)
structure MdS(w:World)(m:MM)(j:Nat)(v:Value)(wr:World):Prop where
 b:Below w.heap.size w wr
 o:∃xs,wr.ownsRow (w.heap.size+1) 74 5 v j xs
 mb:wr.heap[w.heap.size]? =some (bF m.ta m.tn m.tc m.ha m.hn m.hc m.ga m.gn m.gc m.fi m.mo m.fa m.fn m.fc m.da m.dn m.dc m.ea m.en m.ec)
variable {w:World}{v:Value}{xs:List Value}
theorem Cq{base e k n b:Nat}(h:w.ownsRow base e k v n xs)(hb:v.ownBlock=some b):base<=b/\b<w.heap.size:=by
 exact CL
variable {w':World}
theorem tj{base e k n:Nat}(h:w.ownsRow base e k v n xs)(hb:Below w.heap.size w w'):w'.ownsRow base e k v n xs :=
 ⟨h.1,h.2.imp id fun⟨g,cp,cur,h1,h2,h3,h4⟩=>⟨g,cp,cur,h1,h2,(hb.block g (Array.getElem?_eq_some_iff.1 h3).1).trans h3,h4⟩⟩
variable {B:Nat}{t0 t1 t2 t3 t4:Value}
theorem cells5(h:w.heap[B]? =some (.cells #[t0,t1,t2,t3,t4] 74))(q:Nat)(u:Value)(hq:[t0,t1,t2,t3,t4][q]? =some u):w.cell? ((⟨B,0,none⟩:Addr).add q)=some u:=by
 have hplain:(⟨B,0,none⟩:Addr).add q=⟨B,q,none⟩:=eJ;rw[hplain,ai h]
 simpa using hq
variable {wr wr':World}{j:Nat}
theorem MdS.later(h:MdS w m j v wr)(hb:Below wr.heap.size wr wr'):MdS w m j v wr' :=
 ⟨h.b.trans (hb.mono h.b.size),by obtain⟨xs,hx⟩:=h.o; exact⟨xs,tj hx hb⟩,ak hb h.mb⟩
theorem Bb{base e k n:Nat}(h:w.ownsRow base e k v n xs):∃a c,v=.slice a n c:=by
 exact Gt
theorem UR(m:MM)(w:World)(hk:bg w)(hp:0<w.heap.size)(hm:∀R g,w.heap.size<=R->w.heap.size<=g->MOk w R g m)(hcap:∀x∈m.fns,x.2.2.1.2.1<=x.2.2.1.2.2)(hz:Szs m) :
  Calls prog 8 #[.agg (mV m)] w (UG m w):=by
 have B0:=aj w (.cells (mV m) 29);have b0:=hZn w (.cells (mV m) 29);have hsz:(w.alloc (.cells (mV m) 29)).heap.size=w.heap.size+1:=aw;have HE:=hid (Lt m (w.alloc (.cells (mV m) 29)) (fun R g h1 h2=>(hm R g ae ae).later B0) hz);have HT:=hid (fun(h0:bO m=0)(W:World)(hb:Below w.heap.size w W)(k:Nat)(y:FuM) (hy:m.fns[k]? =some y)=>Uw h0 ((hm W.heap.size W.heap.size hb.size hb.size).later hb) (hk.later hb hp) (Nat.lt_of_lt_of_le hp hb.size) hy (hcap y (List.mem_of_getElem? hy)));have HP:=hid (hm w.heap.size w.heap.size lRn lRn).pf;have HFN:=hid (fun(h0:bO m=0)=>(Bj h0 (hm w.heap.size w.heap.size lRn lRn) hk hp).f128);have HB0:=hid B0;have HSZ:=hid hsz;have HBX:=hid b0;have m0:=iz0 b0;have m1:=iz1 b0;have m2:=iz2 b0;have m3:=iz3 b0;have m4:=iz4 b0;have m5:=iz5 b0;have m6:=iz6 b0;have m7:=iz7 b0;clear hm hk hcap B0 b0 hz hsz;unfold mV at HE HB0 HSZ HBX HT m0 m1 m2 m3 m4 m5 m6 m7;show Calls prog 8 #[.agg #[.slice m.ta m.tn m.tc,.slice m.ha m.hn m.hc,.slice m.ga m.gn m.gc,.int .i64 m.fi,.int .i64 m.mo,.slice m.fa m.fn m.fc,.slice m.da m.dn m.dc,.slice m.ea m.en m.ec]] w _;go_enter func8,ntmps8
 go_wp2_with fail;clear m0 m1 m2 m3 m4 m5 m6 m7;refine HE.out.mono ?_;rintro e w2⟨rfl,hb2⟩;have HB2:=hid (HB0.out.trans (hb2.mono HB0.out.size));have HBX:=hid (ak hb2 HBX.out)
 have HN:Hid (w.heap.size+1<=w2.heap.size):=hid (by have:=hb2.size; rw[HSZ.out]at this; exact this);clear hb2 HE HB0 HSZ
 by_cases h0:bO m=0
 rotate_left
 ·have h0':(bO m != 0)=true:=gX;have HX:=hid h0;clear h0;generalize hce:bO m=ce at *;go_wp2_with fail
  exact bodyPost_ret (v:=.tuple #[.slice none 0 0,.int .i64 ce,.int .i64 (-1),.int .i64 0]) yi rfl ⟨HB2.out,_,_,_,_,rfl,fun h=>absurd (hce.symm.trans h) HX.out⟩
 have HX:=hid h0;rw[h0];clear h0;go_wp2_with fail
 go_loopw [7,8] (fun lv fv wr=>∃(j:Nat)(v:Value),j<=m.fn/\v=lv/\fv=.int .i64 j/\Hid (MdS w m j v wr)) (fun _ fv _=>m.fn-(intOf fv).toNat)
 case atStart=>exact⟨0,_,Nat.zero_le _,rfl,rfl,hid ⟨HB2.out,⟨[],rfl,.inl ⟨rfl,rfl⟩⟩,HBX.out⟩⟩
 case round =>
  obtain⟨j,lv,hj,hlv,rfl,HS⟩:=hrel;subst hlv;have m0:=iz0 HS.out.mb;have m1:=iz1 HS.out.mb;have m2:=iz2 HS.out.mb;have m3:=iz3 HS.out.mb;have m4:=iz4 HS.out.mb;have m5:=iz5 HS.out.mb;have m6:=iz6 HS.out.mb;have m7:=iz7 HS.out.mb
  by_cases hlt:j<m.fn
  ·have hlt':(j:Int)<(m.fn:Int):=ae
   obtain⟨y,hy⟩:∃y,m.fns[j]? =some y:=⟨_,aY (by rw[HP.out.1]; exact hlt)⟩;have HC:=hid (HT.out HX.out wr HS.out.b j y hy);have HY:=hid hy;clear hy;go_wp2_with fail;clear m0 m1 m2 m3 m4 m5 m6 m7;refine HC.out.mono ?_;rintro e w3⟨hb3,a0,a1,a2,a3,n0,n1,n2,n3,c0,c1,c2,c3,hi,E,pc,rfl,hE⟩;have ob:=aj w3 (fk a0 n0 c0 a1 n1 c1 a2 n2 c2 a3 n3 c3 hi);have HS3:=hid ((HS.out.later hb3).later ob);have k3:=hZn w3 (fk a0 n0 c0 a1 n1 c1 a2 n2 c2 a3 n3 c3 hi);have HEE:=hid hE;have HK3:=hid k3;clear hb3 hE ob HC HS k3
   by_cases hE0:E=0
   rotate_left
   ·have hE1:(E != 0)=true:=by simpa using hE0
    have HNE:=hid hE0;clear hE0;go_wp2_with fail;exact bodyPost_ret (v:=.tuple #[.slice none 0 0,.int .i64 E,.int .i64 j,.int .i64 pc]) yi rfl ⟨HS3.out.b,_,_,_,_,rfl,fun _ hA=>absurd (HEE.out (hA j y HY.out)) HNE.out⟩
   subst hE0;clear HEE;have d0:=iz0 HK3.out;have d1:=iz1 HK3.out;have d2:=iz2 HK3.out;have d3:=iz3 HK3.out;have d4:=iz4 HK3.out;obtain⟨xs,hxs⟩:=HS3.out.o;obtain⟨la,lc,rfl⟩:=Bb hxs;have o4:=aj (w3.alloc (fk a0 n0 c0 a1 n1 c1 a2 n2 c2 a3 n3 c3 hi)) (fk a0 n0 c0 a1 n1 c1 a2 n2 c2 a3 n3 c3 hi);have HS5:=hid (HS3.out.later o4);have k5:=hZn (w3.alloc (fk a0 n0 c0 a1 n1 c1 a2 n2 c2 a3 n3 c3 hi)) (fk a0 n0 c0 a1 n1 c1 a2 n2 c2 a3 n3 c3 hi);have hs3:(w3.alloc (fk a0 n0 c0 a1 n1 c1 a2 n2 c2 a3 n3 c3 hi)).heap.size=w3.heap.size+1:=aw;rw[hs3]at k5;have HK5:=hid k5;clear hs3;have HO5:=hid (tj hxs o4);have HJ:Hid (j+1<=1000000/\w.heap.size+1<=((w3.alloc (fk a0 n0 c0 a1 n1 c1 a2 n2 c2 a3 n3 c3 hi)).alloc (fk a0 n0 c0 a1 n1 c1 a2 n2 c2 a3 n3 c3 hi)).heap.size):=hid ⟨by have:=HFN.out HX.out; omega,by have:=aN HS5.out.mb; omega⟩;have HW64:=hid (show wrap64 ((j:Int)+1)=(j:Int)+1 by have:=HFN.out HX.out; unfold wrap64; omega);clear o4 k5 hxs HS3;obtain⟨i0,hi0,hz0,hz1,hz2⟩:=info_parts Tryz.infTab;have HI:=hid (And.intro hi0 (And.intro hz0 (And.intro hz1 hz2)));clear hi0 hz0 hz1 hz2
   go_wp2_with (first
    | (at_builtin; refine wpList_append_own _ rfl (.tmp 36) (.tmp 38) 41 rfl (w.heap.size+1) 74 i0 _ 5 104 underlying41 HI.out.1 HI.out.2.1 HI.out.2.2.1 HI.out.2.2.2 rfl aA (.slice la j lc) j xs rfl HO5.out ⟨w3.heap.size+1,0,none⟩ 1 1 [.slice a0 n0 c0,.slice a1 n1 c1,.slice a2 n2 c2,.slice a3 n3 c3,.int .i64 hi] rfl rfl (cells5 HK5.out) (by intro u hu; simp at hu; rcases hu with rfl | rfl | rfl | rfl | rfl <;> rfl) (by have:=HJ.out.1; unfold maxLen; omega) (by have:=HJ.out.1; omega) HJ.out.2 ?_; intro v' w' ho' hg' _; have HG:=hid (Kept.of_grown hg'); have HO':=hid ho'; clear ho' hg'))
   refine⟨⟨j+1,_,ae,rfl,by first | (rw[HW64.out]; rfl) | go_num,hid ⟨?_,⟨_,HO'.out⟩,?_⟩⟩,Et⟩
   ·exact bw HS5.out.b HG.out HS5.out.b.size (fun b hb=>Fl)
   exact(HG.out.block _ (aN HS5.out.mb) (fun hb=>Fl)).trans HS5.out.mb
  have hlt':¬(j:Int)<(m.fn:Int):=ae;clear m0 m1 m2 m3 m4 m6 m7;go_wp2_with fail;exact bodyPost_ret (v:=.tuple #[lv,.int .i64 0,.int .i64 0,.int .i64 0]) yi rfl ⟨HS.out.b,_,_,_,_,rfl,fun _ _=>rfl⟩
variable {s:BAz}{zs:LIz}{FB GB LB R LO n:Nat}
theorem Beg.later{base:Nat}(h:Beg m s zs base w FB GB LB R LO n)(hb:Below w.heap.size w w'):Beg m s zs base w' FB GB LB R LO n:=by
 obtain⟨k,y,P,f1,f2,f3,f4⟩:=h.fn;exact⟨h.chk,h.fi,⟨k,y,P,f1,f2,ak hb f3,f4.later hb⟩,h.gl.later hb,ak hb h.pg,h.by_.later hb,h.l0,h.l1,h.l2,h.l3,h.l4,h.all⟩
theorem Pq(m:MM)(s:BAz)(a:OAz)(n c:Nat)(zs:LIz)(w:World)(hk:bg w)(hp:0<w.heap.size)(hr:Raw w m)(hn:n<=281474976710656)(hs8:s.size<=281474976710656)(hz:n<=20000->sN w a n c zs) :
  Calls prog 3 #[.agg (mV m),.string s,.slice a n c] w fun e w'=>e=.returned (.bool true)/\Below w.heap.size w w':=by
 have HK:=hid (fun(W:World) (hb:Below w.heap.size w W)=>And.intro (hk.later hb hp) (Nat.lt_of_lt_of_le hp hb.size));have HR:=hid (fun(W:World) (hb:Below w.heap.size w W)=>hr.later hb);have HM:=hid (fun(hs:mr m)=>hr.ok hs);have HCP:=hid hr.cap;have HZ:=hid hz;have B0:=aj w (.cells (mV m) 29);have bx:(w.alloc (.cells (mV m) 29)).heap[w.heap.size]? =some (.cells (mV m) 29):=hZn w (.cells (mV m) 29);have HW:w.alloc (bF m.ta m.tn m.tc m.ha m.hn m.hc m.ga m.gn m.gc m.fi m.mo m.fa m.fn m.fc m.da m.dn m.dc m.ea m.en m.ec)=w.alloc (.cells (mV m) 29):=rfl;clear hk hr hz;generalize w.alloc (.cells (mV m) 29)=W0 at *;have HB0:=hid B0;have HBX:=hid bx;clear B0 bx;show Calls prog 3 #[.agg #[.slice m.ta m.tn m.tc,.slice m.ha m.hn m.hc,.slice m.ga m.gn m.gc,.int .i64 m.fi,.int .i64 m.mo,.slice m.fa m.fn m.fc,.slice m.da m.dn m.dc,.slice m.ea m.en m.ec],.string s,.slice a n c] w _;go_enter func3,ntmps3
 go_wp2_with fail;refine(Ro W0 (HK.out W0 HB0.out).1).mono ?_;rintro e w1⟨rfl,hb⟩;have HB1:=hid (HB0.out.trans (hb.mono HB0.out.size));have HBX:=hid (ak hb HBX.out);clear hb HB0 HW;obtain⟨z1,z2,z3,z4,z5⟩:=HR.out w1 HB1.out;have H9:=Ta m w1 z1 z2 z3 z4 z5;unfold mV at H9;have HH9:=hid H9;clear H9 z1 z2 z3 z4 z5;have m0:=iz0 HBX.out;have m1:=iz1 HBX.out;have m2:=iz2 HBX.out;have m3:=iz3 HBX.out;have m4:=iz4 HBX.out;have m5:=iz5 HBX.out;have m6:=iz6 HBX.out;have m7:=iz7 HBX.out;go_wp2_with fail;clear m0 m1 m2 m3 m4 m5 m6 m7;refine HH9.out.mono ?_;rintro e w2⟨sz,rfl,hb,hs⟩;have HB2:=hid (HB1.out.trans (hb.mono HB1.out.size));have HBX:=hid (ak hb HBX.out);clear hb HH9 HB1
 by_cases hs4:sz<=20000
 rotate_left
 ·have h4':(20000:Int)<(sz:Int):=ae;clear hs hs4;exact vF
 have h4':¬(20000:Int)<(sz:Int):=ae;have hcs:=hs hs4
 have hsm:mr m:=by unfold mr; omega
 have HZS:=hid (Q9 hcs);clear hs hs4 hcs
 by_cases hs5:n<=20000
 rotate_left
 ·have h5':(20000:Int)<(n:Int):=ae;clear hs5;exact vF
 have h5':¬(20000:Int)<(n:Int):=ae
 by_cases hs6:s.size<=20000
 rotate_left
 ·have h6':(20000:Int)<(s.size:Int):=ae;clear hs6;exact vF
 have h6':¬(20000:Int)<(s.size:Int):=ae;have HMO:=hid (fun(W:World) (hb:Below w.heap.size w W)=>fun R g h1 h2=>(HM.out hsm R g (Nat.le_trans hb.size h1) (Nat.le_trans hb.size h2)).later hb);have H7:=hid (Sk m s a n c zs w2 (HK.out w2 HB2.out).1 (HK.out w2 HB2.out).2 (HMO.out w2 HB2.out) HCP.out ((HZ.out hs5).later HB2.out lRn));unfold mV at H7;have m0:=iz0 HBX.out;have m1:=iz1 HBX.out;have m2:=iz2 HBX.out;have m3:=iz3 HBX.out;have m4:=iz4 HBX.out;have m5:=iz5 HBX.out;have m6:=iz6 HBX.out;have m7:=iz7 HBX.out;go_wp2_with fail;clear m0 m1 m2 m3 m4 m5 m6 m7;refine H7.out.mono ?_;intro e w3 hO;have hb3:=hO.1;have HB3:=hid (HB2.out.trans (hb3.mono HB2.out.size));have HBX:=hid (ak hb3 HBX.out);clear h4' h5' h6' hs5 hs6 H7 HB2
 rcases hO.2 with ⟨E,hE,_,rfl⟩ | ⟨XB,YB,LB,R,LO,N,hB,rfl⟩
 ·have hE':(E==0)=false:=oY;have hE'':(E != 0)=true:=oY;clear hO hb3 hE;have hS:=aj w3 (cB none 0 0 none 0 0 none 0 0 0 0 none 0 0 0 0);have HBS:=hid (HB3.out.trans (hS.mono HB3.out.size));have HSB:=hid (hZn w3 (cB none 0 0 none 0 0 none 0 0 0 0 none 0 0 0 0));have HBX:=hid (ak hS HBX.out);have HMD:=hid (UR m (w3.alloc (cB none 0 0 none 0 0 none 0 0 0 0 none 0 0 0 0)) (HK.out _ HBS.out).1 (HK.out _ HBS.out).2 (HMO.out _ HBS.out) HCP.out HZS.out);unfold mV at HMD;clear hS;have m0:=iz0 HBX.out;have m1:=iz1 HBX.out;have m2:=iz2 HBX.out;have m3:=iz3 HBX.out;have m4:=iz4 HBX.out;have m5:=iz5 HBX.out;have m6:=iz6 HBX.out;have m7:=iz7 HBX.out;go_wp2_with fail;clear m0 m1 m2 m3 m4 m5 m6 m7;refine HMD.out.mono ?_;rintro e w4⟨hb4,v,E2,f2,pc2,rfl,_⟩;have HB4:=hid (HBS.out.trans (hb4.mono HBS.out.size));have HS4:=hid (ak hb4 HSB.out);clear hb4 HMD;have s0:=iz0 HS4.out;have s1:=iz1 HS4.out
  have s2:=iz2 HS4.out;have s3:=iz3 HS4.out;have s4:=iz4 HS4.out;have s5:=iz5 HS4.out;have s6:=iz6 HS4.out;have s7:=iz7 HS4.out;go_wp2_with fail;go_ret;exact⟨rfl,HB4.out⟩
 have hS:=aj w3 (cB (some ⟨XB,0,none⟩) 1 1 (some ⟨YB,0,none⟩) m.gn m.gn (some ⟨LB,0,none⟩) N N 0 1 none 0 0 0 0);have HBS:=hid (HB3.out.trans (hS.mono HB3.out.size));have HSB:=hid (hZn w3 (cB (some ⟨XB,0,none⟩) 1 1 (some ⟨YB,0,none⟩) m.gn m.gn (some ⟨LB,0,none⟩) N N 0 1 none 0 0 0 0));have HBX:=hid (ak hS HBX.out);have HBG:=hid (hB.later hS);have HMD:=hid (UR m (w3.alloc (cB (some ⟨XB,0,none⟩) 1 1 (some ⟨YB,0,none⟩) m.gn m.gn (some ⟨LB,0,none⟩) N N 0 1 none 0 0 0 0)) (HK.out _ HBS.out).1 (HK.out _ HBS.out).2 (HMO.out _ HBS.out) HCP.out HZS.out);have HOK:=hid (And.intro hB.chk hB.all);unfold mV at HMD;clear hS hO hb3 hB;have m0:=iz0 HBX.out;have m1:=iz1 HBX.out;have m2:=iz2 HBX.out;have m3:=iz3 HBX.out;have m4:=iz4 HBX.out;have m5:=iz5 HBX.out;have m6:=iz6 HBX.out;have m7:=iz7 HBX.out;unfold tP;go_wp2_with fail;clear m0 m1 m2 m3 m4 m5 m6 m7;refine HMD.out.mono ?_;rintro e w4⟨hb4,v,E2,f2,pc2,rfl,hE2⟩;obtain rfl:E2=0:=hE2 HOK.out.1 HOK.out.2;have HB4:=hid (HBS.out.trans (hb4.mono HBS.out.size));have HS4:=hid (ak hb4 HSB.out);have HBX:=hid (ak hb4 HBX.out);have HBG4:=hid (HBG.out.later hb4);have HCK:=hid (Pb w4 (HK.out _ HB4.out).1 (HK.out _ HB4.out).2 (HMO.out _ HB4.out) HCP.out HBG4.out);unfold mV tP at HCK;clear hb4 hE2 HMD HBG;have m0:=iz0 HBX.out;have m1:=iz1 HBX.out;have m2:=iz2 HBX.out;have m3:=iz3 HBX.out;have m4:=iz4 HBX.out;have m5:=iz5 HBX.out;have m6:=iz6 HBX.out;have m7:=iz7 HBX.out;have s0:=iz0 HS4.out;have s1:=iz1 HS4.out;have s2:=iz2 HS4.out;have s3:=iz3 HS4.out;have s4:=iz4 HS4.out;have s5:=iz5 HS4.out;have s6:=iz6 HS4.out;have s7:=iz7 HS4.out;go_wp2_with fail;clear m0 m1 m2 m3 m4 m5 m6 m7 s0 s1 s2 s3 s4 s5 s6 s7;refine HCK.out.mono ?_;rintro e w5⟨rfl,hb5⟩;have HB5:=hid (HB4.out.trans (hb5.mono HB4.out.size));have HS5:=hid (ak hb5 HS4.out);obtain⟨k,y,P,_,_,hf,_⟩:=(HBG4.out.later hb5).fn;have f3:=iz3 hf;clear hf hb5 HCK HBG4;have s0:=iz0 HS5.out;have s1:=iz1 HS5.out;have s2:=iz2 HS5.out;have s3:=iz3 HS5.out;have s4:=iz4 HS5.out;have s5:=iz5 HS5.out;have s6:=iz6 HS5.out;have s7:=iz7 HS5.out;go_wp2_with fail;go_ret;exact⟨rfl,HB5.out⟩
theorem Tryz.cells221:prog.cellsOf 221=4:=ar
theorem Tryz.cells222:prog.cellsOf 222=28:=ar
theorem Tryz.cells5:prog.cellsOf 5=1:=ar
theorem Tryz.cells9:prog.cellsOf 9=1:=ar
theorem Tryz.kindsAt:prog.globalNamed "flagon/ops.kinds" = some 0:=ar
theorem Tryz.kindsType:(prog.globals[0]?).map (·.type)=some 222:=ar
theorem Ua{α:Type}:∀(l:List α),l.length=4->∃a b c d,l=[a,b,c,d]
 | [a,b,c,d],_=>⟨a,b,c,d,rfl⟩
theorem VM{α:Type}:∀(l:List α),l.length=7->∃a b c d e f g,l=[a,b,c,d,e,f,g]
 | [a,b,c,d,e,f,g],_=>⟨a,b,c,d,e,f,g,rfl⟩
variable {held:Bool}{fuel:Nat}{cs:List Value}{f l:Int}
theorem f9{H:Type}{enc:TypeId×Value->H}{base:Nat}{sp:Nat->Bool}{a s:List UInt8}{p:List MemPlace}
  (h:DataW.trod enc prog w base sp held fuel 221 cs=some (.agg [.lit (.int .u8 f),.lit (.int .u8 l),.lit (.string a),.lit (.string s)],p)) :
  cs=[.int .u8 f,.int .u8 l,.string ⟨a.toArray⟩,.string ⟨s.toArray⟩]:=by
 obtain⟨xs,n,_,hx,hl,hxl,hel⟩:=DataW.trod_struct underlying221 h;rw[Tryz.cells221]at hl;obtain⟨c0,c1,c2,c3,rfl⟩:=Ua cs hl;obtain⟨x0,x1,x2,x3,rfl⟩:=Ua xs hxl;have e:=congrArg Prod.fst hx;simp only[List.map_cons,List.map_nil,DataW.agg.injEq,List.cons.injEq,and_true]at e;obtain⟨e0,e1,e2,e3⟩:=e;have h0:DataW.trod enc prog w base sp held n 5 (([c0,c1,c2,c3].drop 0).take (prog.cellsOf 5))=some x0:=hel 0 _ rfl;have h1:DataW.trod enc prog w base sp held n 5 (([c0,c1,c2,c3].drop 1).take (prog.cellsOf 5))=some x1:=hel 1 _ rfl;have h2:DataW.trod enc prog w base sp held n 9 (([c0,c1,c2,c3].drop 2).take (prog.cellsOf 9))=some x2:=hel 2 _ rfl;have h3:DataW.trod enc prog w base sp held n 9 (([c0,c1,c2,c3].drop 3).take (prog.cellsOf 9))=some x3:=hel 3 _ rfl;rw[Tryz.cells5]at h0 h1;rw[Tryz.cells9]at h2 h3;obtain⟨n0,g0,k0,_⟩:=DataW.trod_int underlying5 h0;obtain⟨n1,g1,k1,_⟩:=DataW.trod_int underlying5 h1;obtain⟨s2,g2,k2,_⟩:=DataW.trod_string underlying9 h2;obtain⟨s3,g3,k3,_⟩:=DataW.trod_string underlying9 h3;clear hel h hx h0 h1 h2 h3;rw[k0]at e0;rw[k1]at e1;rw[k2]at e2;rw[k3]at e3;simp only[DataW.lit.injEq,Lit.int.injEq,true_and,Lit.string.injEq]at e0 e1 e2 e3;simp only[List.drop_zero,List.drop_succ_cons,List.take_succ_cons,List.take_zero,List.cons.injEq,and_true]at g0 g1 g2 g3;rw[g0,g1,g2,g3,e0,e1,e2,e3]
theorem chunks(l:List Value)(h:l.length=28):l=l.take 4++((l.drop 4).take 4++((l.drop 8).take 4++((l.drop 12).take 4++((l.drop 16).take 4++((l.drop 20).take 4++(l.drop 24).take 4))))):=by
 have e:∀n,l.drop n=(l.drop n).take 4++l.drop (n+4):=fun n=>by
  have:=(List.take_append_drop 4 (l.drop n)).symm
  rwa [List.drop_drop]at this
 have e6:l.drop 24=(l.drop 24).take 4:=by rw[List.take_of_length_le aK]
 have e5:=e 20; have e4:=e 16; have e3:=e 12; have e2:=e 8; have e1:=e 4; have e0:=e 0;simp only[List.drop_zero,Nat.zero_add,Nat.reduceAdd]at e0 e1 e2 e3 e4 e5;rw[<- e6,<- e5,<- e4,<- e3,<- e2,<- e1,<- e0]
variable {W:World}
theorem tY{rest:List (String×DataW Unit)}(h:laidMet prog (("flagon/ops.kinds",Rows.laid_flagon_ops_kinds)::rest) W):bg W:=by
 obtain⟨ps,⟨g',t',cs,fuel,p,q,hg',ht',hvar,hd,_,_⟩,_⟩:=h;obtain rfl:=Option.some.inj (Tryz.kindsAt.symm.trans hg');obtain rfl:=Option.some.inj (Tryz.kindsType.symm.trans ht');obtain⟨xs,n,_,hx,hl,hxl,hel⟩:=DataW.trod_array underlying222 hd;rw[Tryz.cells222]at hl;obtain⟨x0,x1,x2,x3,x4,x5,x6,rfl⟩:=VM xs hxl;have e:=congrArg Prod.fst hx;simp only[Rows.laid_flagon_ops_kinds,List.map_cons,List.map_nil,DataW.agg.injEq,List.cons.injEq,and_true]at e;obtain⟨e0,e1,e2,e3,e4,e5,e6⟩:=e;have h0:=hel 0 aA; have h1:=hel 1 aA; have h2:=hel 2 aA; have h3:=hel 3 aA; have h4:=hel 4 aA; have h5:=hel 5 aA; have h6:=hel 6 aA;simp only[Tryz.cells221,Nat.reduceMul,List.drop_zero,List.getElem?_cons_zero,List.getElem?_cons_succ]at h0 h1 h2 h3 h4 h5 h6;obtain⟨d0,p0⟩:=x0; obtain⟨d1,p1⟩:=x1; obtain⟨d2,p2⟩:=x2; obtain⟨d3,p3⟩:=x3; obtain⟨d4,p4⟩:=x4; obtain⟨d5,p5⟩:=x5; obtain⟨d6,p6⟩:=x6;simp only at e0 e1 e2 e3 e4 e5 e6;subst e0 e1 e2 e3 e4 e5 e6
 have hcs:cs.toList=oW:=by
  rw[chunks _ hl,f9 h0,f9 h1,f9 h2,f9 h3,f9 h4,f9 h5,f9 h6];rfl
 intro j v hj;rw[World.var?_cell Tryz.kindsAt hvar j,<- Array.getElem?_toList,hcs];exact hj
end Go.Proofs.YtepcmfegggdjfaaGreatDoor
