/-
  Texts Qk Ua Uc Ud Ut Rf Rg.
-/
import Derived.Test.YtheefojaplnnoaaGreatDoorY12
set_option linter.unusedVariables false
set_option maxRecDepth 100000
set_option maxHeartbeats 16000000
namespace Go.Proofs.YtheefojaplnnoaaGreatDoor
open Go.Proofs.Tryz
open Go.RowKit
theorem SD(x y:InM)(w:World)(hs:vz w x)(h:vz w y)(hm:Oc x y) :
  Zw 215 #[.agg #[ZU y.1,ZI y.2.1,.slice y.2.2.1.1 y.2.2.1.2.1 y.2.2.1.2.2],.agg #[ZU x.1,ZI x.2.1,.slice x.2.2.1.1 x.2.2.1.2.1 x.2.2.1.2.2]] w (ZC (.bool true) w):=by
 obtain⟨c,a,⟨xa,xn,xc⟩,xl⟩:=x;obtain⟨c2,a2,⟨ya,n,yc⟩,l⟩:=y;unfold Oc at hm
 try dsimp only at *
 obtain⟨h1,h2,h3,h4⟩:=hm
 try dsimp only at *
 subst h1 h2 h3 h4;have hb:Zx w ((w.alloc (aH c2 a2 ya n yc)).alloc (aH c2 a2 xa n xc)):=((ZT _ _).alloc lRn _).alloc av _;have HE:=hid (XV ya xa n yc xc l _ (h.later hb).1 (hs.later hb).1 (by have:=hs.2; dsimp only at this; omega));have HB:=hid hb;have hcc:(c2==c2)=true:=av;have haa:(a2==a2)=true:=av;clear hs h hb;go_enter func215,ntmps215;exact zf
theorem YV(a1:OAz)(n c1:Nat)(a2:OAz)(c2:Nat)(ys xs:List InM)(w:World)(hn:n<=200000)(h:AtIn w a1 n ys)(hw:∀y∈ys,vz w y)(h2:AtIn w a2 n xs)(hs:∀x∈xs,vz w x)(hm:∀(j:Nat)x y,xs[j]? =some x->ys[j]? =some y->Oc x y) :
  Zw 164 #[.slice a1 n c1,.slice a2 n c2] w (ZC (.bool true) w):=by
 have hne:((n:Int) != n)=false:=av;have H1:=hid h;have hl:=h.1;obtain⟨H2,HW,HS,HM⟩:=ZF h2 hw hs hm;have hl2:=h2.1;clear h h2 hw hs hm;go_enter func164,ntmps164;go_wp2_with fail
 go_loopw [5] (fun p wr=>∃t:Nat,t<=n/\p=ZI t/\Hid (Zx w wr)) (fun p _=>n-(intOf p).toNat)
 case atStart=>exact⟨0,ae,rfl,hid (ZT _ _)⟩
 case round =>
  obtain⟨t,ht,rfl,HB⟩:=hrel
  by_cases hlt:t<n
  ·have hlt':(t:Int)<(n:Int):=ae;obtain⟨y,hy⟩:=ZB ys t ae;obtain⟨x,hx⟩:=ZB xs t ae;obtain⟨b1,o1,rfl,dk⟩:=H1.out.2.resolve_left ae;obtain⟨b2,o2,rfl,X2⟩:=H2.out.2.resolve_left ae;obtain⟨f0,f1,f2⟩:=dk t y hy;obtain⟨g0,g1,g2⟩:=X2 t x hx
   have kd:Zx wr wr.drew:=(Kept.drewN (fun _=>False) wr 1).to_below lRn (fun _ _ x=>x);have hbd:=HB.out.trans (kd.mono HB.out.size);have HQ2:=hid ((SD x y wr.drew ((HS.out x (ZO hx)).later hbd) ((HW.out y (ZO hy)).later hbd) (HM.out t x y hx hy)).mono (fun e w' h=>(⟨h.1,kd.trans h.2⟩:e=.returned (.bool true)/\Zx wr w')));have dy:=hid (fun(W:World) (hW:Zx wr W)=>(⟨ai (HB.out.trans (hW.mono HB.out.size)) f0,ai (HB.out.trans (hW.mono HB.out.size)) f1,ai (HB.out.trans (hW.mono HB.out.size)) f2,ai (HB.out.trans (hW.mono HB.out.size)) g0,ai (HB.out.trans (hW.mono HB.out.size)) g1,ai (HB.out.trans (hW.mono HB.out.size)) g2⟩:W.cell? (ZA b1 (o1+t*3))=some (ZU y.1)/\W.cell? (ZA b1 (o1+t*3+1))=some (ZI y.2.1)/\W.cell? (ZA b1 (o1+t*3+2))=some (.slice y.2.2.1.1 y.2.2.1.2.1 y.2.2.1.2.2)/\W.cell? (ZA b2 (o2+t*3))=some (ZU x.1)/\W.cell? (ZA b2 (o2+t*3+1))=some (ZI x.2.1)/\W.cell? (ZA b2 (o2+t*3+2))=some (.slice x.2.2.1.1 x.2.2.1.2.1 x.2.2.1.2.2)));obtain⟨v0,v1,v2,v3,v4,v5⟩:=dy.out wr (ZT _ _);clear dk X2 kd hbd f0 f1 f2 g0 g1 g2;go_wp2_with fail
   go_region_held3 (fun W=>W.cell? (ZA b1 (o1+t*3))=some (ZU y.1)/\W.cell? (ZA b1 (o1+t*3+1))=some (ZI y.2.1)/\W.cell? (ZA b1 (o1+t*3+2))=some (.slice y.2.2.1.1 y.2.2.1.2.1 y.2.2.1.2.2)/\W.cell? (ZA b2 (o2+t*3))=some (ZU x.1)/\W.cell? (ZA b2 (o2+t*3+1))=some (ZI x.2.1)/\W.cell? (ZA b2 (o2+t*3+2))=some (.slice x.2.2.1.1 x.2.2.1.2.1 x.2.2.1.2.2)) (go_keep)
    (first | (go_at_call 215; refine HQ2.out.mono ?_; rintro e w5⟨rfl,AI⟩; obtain⟨t0,t1,t2,t3,t4,t5⟩:=dy.out _ AI; have de:=Zy HB AI; clear AI))
   exact zl
  exact sj
theorem RG(x y:DaM)(w:World)(hs:tT w x)(h:tT w y)(hm:MO x y) :
  Zw 105 #[.agg #[ZI y.1,.slice y.2.1.1 y.2.1.2.1 y.2.1.2.2],.agg #[ZI x.1,.slice x.2.1.1 x.2.1.2.1 x.2.1.2.2]] w (ZC (.bool true) w):=by
 obtain⟨c,⟨xa,xn,xc⟩,xl⟩:=x;obtain⟨c2,⟨ya,n,yc⟩,l⟩:=y;unfold MO at hm
 try dsimp only at *
 obtain⟨h1,h3,h4⟩:=hm
 try dsimp only at *
 subst h1 h3 h4;have hb:Zx w ((w.alloc (bo c2 ya n yc)).alloc (bo c2 xa n xc)):=((ZT _ _).alloc lRn _).alloc av _;have HE:=hid (Zr ya xa n yc xc l _ (h.later hb).1 (hs.later hb).1 (by have:=hs.2; dsimp only at this; omega));have HB:=hid hb;have hcc:(c2==c2)=true:=av;clear hs h hb;go_enter func105,ntmps105;exact zf
theorem Y2(a1:OAz)(n c1:Nat)(a2:OAz)(c2:Nat)(ys xs:List DaM)(w:World)(hn:n<=200000)(h:qM w a1 n ys)(hw:∀y∈ys,tT w y)(h2:qM w a2 n xs)(hs:∀x∈xs,tT w x)(hm:∀(j:Nat)x y,xs[j]? =some x->ys[j]? =some y->MO x y) :
  Zw 44 #[.slice a1 n c1,.slice a2 n c2] w (ZC (.bool true) w):=by
 have hne:((n:Int) != n)=false:=av;have H1:=hid h;have hl:=h.1;obtain⟨H2,HW,HS,HM⟩:=ZF h2 hw hs hm;have hl2:=h2.1;clear h h2 hw hs hm;go_enter func44,ntmps44;go_wp2_with fail
 go_loopw [5] (fun p wr=>∃t:Nat,t<=n/\p=ZI t/\Hid (Zx w wr)) (fun p _=>n-(intOf p).toNat)
 case atStart=>exact⟨0,ae,rfl,hid (ZT _ _)⟩
 case round =>
  obtain⟨t,ht,rfl,HB⟩:=hrel
  by_cases hlt:t<n
  ·have hlt':(t:Int)<(n:Int):=ae;obtain⟨y,hy⟩:=ZB ys t ae;obtain⟨x,hx⟩:=ZB xs t ae;obtain⟨b1,o1,rfl,dk⟩:=H1.out.2.resolve_left ae;obtain⟨b2,o2,rfl,X2⟩:=H2.out.2.resolve_left ae;obtain⟨f0,f1⟩:=dk t y hy;obtain⟨g0,g1⟩:=X2 t x hx
   have kd:Zx wr wr.drew:=(Kept.drewN (fun _=>False) wr 1).to_below lRn (fun _ _ x=>x);have hbd:=HB.out.trans (kd.mono HB.out.size);have HQ2:=hid ((RG x y wr.drew ((HS.out x (ZO hx)).later hbd) ((HW.out y (ZO hy)).later hbd) (HM.out t x y hx hy)).mono (fun e w' h=>(⟨h.1,kd.trans h.2⟩:e=.returned (.bool true)/\Zx wr w')));have dy:=hid (fun(W:World) (hW:Zx wr W)=>(⟨ai (HB.out.trans (hW.mono HB.out.size)) f0,ai (HB.out.trans (hW.mono HB.out.size)) f1,ai (HB.out.trans (hW.mono HB.out.size)) g0,ai (HB.out.trans (hW.mono HB.out.size)) g1⟩:W.cell? (ZA b1 (o1+t*2))=some (ZI y.1)/\W.cell? (ZA b1 (o1+t*2+1))=some (.slice y.2.1.1 y.2.1.2.1 y.2.1.2.2)/\W.cell? (ZA b2 (o2+t*2))=some (ZI x.1)/\W.cell? (ZA b2 (o2+t*2+1))=some (.slice x.2.1.1 x.2.1.2.1 x.2.1.2.2)));obtain⟨v0,v1,v2,v3⟩:=dy.out wr (ZT _ _);clear dk X2 kd hbd f0 f1 g0 g1;go_wp2_with fail
   go_region_held3 (fun W=>W.cell? (ZA b1 (o1+t*2))=some (ZI y.1)/\W.cell? (ZA b1 (o1+t*2+1))=some (.slice y.2.1.1 y.2.1.2.1 y.2.1.2.2)/\W.cell? (ZA b2 (o2+t*2))=some (ZI x.1)/\W.cell? (ZA b2 (o2+t*2+1))=some (.slice x.2.1.1 x.2.1.2.1 x.2.1.2.2)) (go_keep)
    (first | (go_at_call 105; refine HQ2.out.mono ?_; rintro e w5⟨rfl,AI⟩; obtain⟨t0,t1,t2,t3⟩:=dy.out _ AI; have de:=Zy HB AI; clear AI))
   exact zl
  exact sj
theorem TM(x y:FuM)(w:World)(hs:pS w x)(h:pS w y)(hm:MD x y) :
  Zw 104 #[.agg #[ZI y.1,.string y.2.1,.slice y.2.2.1.1 y.2.2.1.2.1 y.2.2.1.2.2],.agg #[ZI x.1,.string x.2.1,.slice x.2.2.1.1 x.2.2.1.2.1 x.2.2.1.2.2]] w (ZC (.bool true) w):=by
 obtain⟨c,a,⟨xa,xn,xc⟩,xl⟩:=x;obtain⟨c2,a2,⟨ya,n,yc⟩,l⟩:=y;unfold MD at hm
 try dsimp only at *
 obtain⟨h1,h2,h3,h5,h4⟩:=hm
 try dsimp only at *
 subst h1 h2 h3;have hb:Zx w ((w.alloc (aN c2 a2 ya n yc)).alloc (aN c2 a2 xa n xc)):=((ZT _ _).alloc lRn _).alloc av _;have HE:=hid (YV ya n yc xa xc l xl _ (hs.later hb).2.1 (h.later hb).1 (h.later hb).2.2 (hs.later hb).1 (hs.later hb).2.2 h4);have HB:=hid hb;have hcc:(c2==c2)=true:=av;have haa:(a2.toList==a2.toList)=true:=av;clear hs h hb h5 h4;go_enter func104,ntmps104;exact zf
theorem Y1(a1:OAz)(n c1:Nat)(a2:OAz)(c2:Nat)(ys xs:List FuM)(w:World)(hn:n<=200000)(h:pC w a1 n ys)(hw:∀y∈ys,pS w y)(h2:pC w a2 n xs)(hs:∀x∈xs,pS w x)(hm:∀(j:Nat)x y,xs[j]? =some x->ys[j]? =some y->MD x y) :
  Zw 43 #[.slice a1 n c1,.slice a2 n c2] w (ZC (.bool true) w):=by
 have hne:((n:Int) != n)=false:=av;have H1:=hid h;have hl:=h.1;obtain⟨H2,HW,HS,HM⟩:=ZF h2 hw hs hm;have hl2:=h2.1;clear h h2 hw hs hm;go_enter func43,ntmps43;go_wp2_with fail
 go_loopw [5] (fun p wr=>∃t:Nat,t<=n/\p=ZI t/\Hid (Zx w wr)) (fun p _=>n-(intOf p).toNat)
 case atStart=>exact⟨0,ae,rfl,hid (ZT _ _)⟩
 case round =>
  obtain⟨t,ht,rfl,HB⟩:=hrel
  by_cases hlt:t<n
  ·have hlt':(t:Int)<(n:Int):=ae;obtain⟨y,hy⟩:=ZB ys t ae;obtain⟨x,hx⟩:=ZB xs t ae;obtain⟨b1,o1,rfl,dk⟩:=H1.out.2.resolve_left ae;obtain⟨b2,o2,rfl,X2⟩:=H2.out.2.resolve_left ae;obtain⟨f0,f1,f2⟩:=dk t y hy;obtain⟨g0,g1,g2⟩:=X2 t x hx
   have kd:Zx wr wr.drew:=(Kept.drewN (fun _=>False) wr 1).to_below lRn (fun _ _ x=>x);have hbd:=HB.out.trans (kd.mono HB.out.size);have HQ2:=hid ((TM x y wr.drew ((HS.out x (ZO hx)).later hbd) ((HW.out y (ZO hy)).later hbd) (HM.out t x y hx hy)).mono (fun e w' h=>(⟨h.1,kd.trans h.2⟩:e=.returned (.bool true)/\Zx wr w')));have dy:=hid (fun(W:World) (hW:Zx wr W)=>(⟨ai (HB.out.trans (hW.mono HB.out.size)) f0,ai (HB.out.trans (hW.mono HB.out.size)) f1,ai (HB.out.trans (hW.mono HB.out.size)) f2,ai (HB.out.trans (hW.mono HB.out.size)) g0,ai (HB.out.trans (hW.mono HB.out.size)) g1,ai (HB.out.trans (hW.mono HB.out.size)) g2⟩:W.cell? (ZA b1 (o1+t*3))=some (ZI y.1)/\W.cell? (ZA b1 (o1+t*3+1))=some (.string y.2.1)/\W.cell? (ZA b1 (o1+t*3+2))=some (.slice y.2.2.1.1 y.2.2.1.2.1 y.2.2.1.2.2)/\W.cell? (ZA b2 (o2+t*3))=some (ZI x.1)/\W.cell? (ZA b2 (o2+t*3+1))=some (.string x.2.1)/\W.cell? (ZA b2 (o2+t*3+2))=some (.slice x.2.2.1.1 x.2.2.1.2.1 x.2.2.1.2.2)));obtain⟨v0,v1,v2,v3,v4,v5⟩:=dy.out wr (ZT _ _);clear dk X2 kd hbd f0 f1 f2 g0 g1 g2;go_wp2_with fail
   go_region_held3 (fun W=>W.cell? (ZA b1 (o1+t*3))=some (ZI y.1)/\W.cell? (ZA b1 (o1+t*3+1))=some (.string y.2.1)/\W.cell? (ZA b1 (o1+t*3+2))=some (.slice y.2.2.1.1 y.2.2.1.2.1 y.2.2.1.2.2)/\W.cell? (ZA b2 (o2+t*3))=some (ZI x.1)/\W.cell? (ZA b2 (o2+t*3+1))=some (.string x.2.1)/\W.cell? (ZA b2 (o2+t*3+2))=some (.slice x.2.2.1.1 x.2.2.1.2.1 x.2.2.1.2.2)) (go_keep)
    (first | (go_at_call 104; refine HQ2.out.mono ?_; rintro e w5⟨rfl,AI⟩; obtain⟨t0,t1,t2,t3,t4,t5⟩:=dy.out _ AI; have de:=Zy HB AI; clear AI))
   exact zl
  exact sj
structure SmM(x y:MM):Prop where
 tn:y.tn=x.tn
 t:y.types=x.types
 hn:y.hn=x.hn
 h:y.hosts=x.hosts
 gn:y.gn=x.gn
 g:y.globals=x.globals
 i:y.fi=x.fi
 o:y.mo=x.mo
 fn:y.fn=x.fn
 f:∀(j:Nat)a b,x.fns[j]? =some a->y.fns[j]? =some b->MD a b
 dn:y.dn=x.dn
 d:∀(j:Nat)a b,x.data[j]? =some a->y.data[j]? =some b->MO a b
 en:y.en=x.en
 e:y.exps=x.exps
structure Y6(x y:MM)(w:World):Prop where
 pt:jP w y.ta x.tn x.types
 ph:mE w y.ha x.hn x.hosts
 pg:qI w y.ga x.gn x.globals
 pf:pC w y.fa x.fn y.fns
 fx:∀z∈y.fns,pS w z
 pd:qM w y.da x.dn y.data
 dx:∀z∈y.data,tT w z
 pe:qw w y.ea x.en x.exps
variable {x y:MM}{w:World}
theorem SmM.at(h:SmM x y)(hy:MSr w y):Y6 x y w:=by
 refine⟨?_,?_,?_,?_,hy.fx,?_,hy.dx,?_⟩
 ·have:=hy.pt; rw[h.tn,h.t]at this; exact this
 ·have:=hy.ph; rw[h.hn,h.h]at this; exact this
 ·have:=hy.pg; rw[h.gn,h.g]at this; exact this
 ·have:=hy.pf; rw[h.fn]at this; exact this
 ·have:=hy.pd; rw[h.dn]at this; exact this
 have:=hy.pe; rw[h.en,h.e]at this; exact this
variable {m:MM}
theorem PU(hm:MSr w m)(hy:MSr w y)(hs:SmM m y) :
  Zw 13 #[.agg (mV y),.agg (mV m)] w (ZC (.bool true) w):=by
 have ev:mV y=#[.slice y.ta m.tn y.tc,.slice y.ha m.hn y.hc,.slice y.ga m.gn y.gc,ZI m.fi,ZI m.mo,.slice y.fa m.fn y.fc,.slice y.da m.dn y.dc,.slice y.ea m.en y.ec]:=by
  unfold mV;rw[hs.tn,hs.hn,hs.gn,hs.i,hs.o,hs.fn,hs.dn,hs.en]
 rw[ev];clear ev;have HH:=hid (fun(W:World) (hb:Zx w W)=>hs.at (hy.later hb));have HSF:=hid hs.f;have HSD:=hid hs.d;have HM:=hid (fun(W:World) (hb:Zx w W)=>hm.later hb);have B1:=aj w (bM y.ta m.tn y.tc y.ha m.hn y.hc y.ga m.gn y.gc m.fi m.mo y.fa m.fn y.fc y.da m.dn y.dc y.ea m.en y.ec);have B2:=aj (w.alloc (bM y.ta m.tn y.tc y.ha m.hn y.hc y.ga m.gn y.gc m.fi m.mo y.fa m.fn y.fc y.da m.dn y.dc y.ea m.en y.ec)) (bM m.ta m.tn m.tc m.ha m.hn m.hc m.ga m.gn m.gc m.fi m.mo m.fa m.fn m.fc m.da m.dn m.dc m.ea m.en m.ec);have b1:=ar B2 (hZn w (bM y.ta m.tn y.tc y.ha m.hn y.hc y.ga m.gn y.gc m.fi m.mo y.fa m.fn y.fc y.da m.dn y.dc y.ea m.en y.ec));have b2:((w.alloc (bM y.ta m.tn y.tc y.ha m.hn y.hc y.ga m.gn y.gc m.fi m.mo y.fa m.fn y.fc y.da m.dn y.dc y.ea m.en y.ec)).alloc (bM m.ta m.tn m.tc m.ha m.hn m.hc m.ga m.gn m.gc m.fi m.mo m.fa m.fn m.fc m.da m.dn m.dc m.ea m.en m.ec)).heap[w.heap.size+1]? =some (bM m.ta m.tn m.tc m.ha m.hn m.hc m.ga m.gn m.gc m.fi m.mo m.fa m.fn m.fc m.da m.dn m.dc m.ea m.en m.ec):=alloc_at av;have B0:Zx w ((w.alloc (bM y.ta m.tn y.tc y.ha m.hn y.hc y.ga m.gn y.gc m.fi m.mo y.fa m.fn y.fc y.da m.dn y.dc y.ea m.en y.ec)).alloc (bM m.ta m.tn m.tc m.ha m.hn m.hc m.ga m.gn m.gc m.fi m.mo m.fa m.fn m.fc m.da m.dn m.dc m.ea m.en m.ec)):=B1.trans (B2.mono av);have HX:=hid (fun(W:World) (hb:Below ((w.alloc (bM y.ta m.tn y.tc y.ha m.hn y.hc y.ga m.gn y.gc m.fi m.mo y.fa m.fn y.fc y.da m.dn y.dc y.ea m.en y.ec)).alloc (bM m.ta m.tn m.tc m.ha m.hn m.hc m.ga m.gn m.gc m.fi m.mo m.fa m.fn m.fc m.da m.dn m.dc m.ea m.en m.ec)).heap.size ((w.alloc (bM y.ta m.tn y.tc y.ha m.hn y.hc y.ga m.gn y.gc m.fi m.mo y.fa m.fn y.fc y.da m.dn y.dc y.ea m.en y.ec)).alloc (bM m.ta m.tn m.tc m.ha m.hn m.hc m.ga m.gn m.gc m.fi m.mo m.fa m.fn m.fc m.da m.dn m.dc m.ea m.en m.ec)) W)=>(⟨ai hb (ag b1),ai hb (ag b1),ai hb (ag b1),ai hb (ag b1),ai hb (ag b1),ai hb (ag b1),ai hb (ag b1),ai hb (ag b1),ai hb (ag b2),ai hb (ag b2),ai hb (ag b2),ai hb (ag b2),ai hb (ag b2),ai hb (ag b2),ai hb (ag b2),ai hb (ag b2)⟩:W.cell? (ZA w.heap.size 0)=some (.slice y.ta m.tn y.tc)/\W.cell? (ZA w.heap.size 1)=some (.slice y.ha m.hn y.hc)/\W.cell? (ZA w.heap.size 2)=some (.slice y.ga m.gn y.gc)/\W.cell? (ZA w.heap.size 3)=some (ZI m.fi)/\W.cell? (ZA w.heap.size 4)=some (ZI m.mo)/\W.cell? (ZA w.heap.size 5)=some (.slice y.fa m.fn y.fc)/\W.cell? (ZA w.heap.size 6)=some (.slice y.da m.dn y.dc)/\W.cell? (ZA w.heap.size 7)=some (.slice y.ea m.en y.ec)/\W.cell? (ZA (w.heap.size+1) 0)=some (.slice m.ta m.tn m.tc)/\W.cell? (ZA (w.heap.size+1) 1)=some (.slice m.ha m.hn m.hc)/\W.cell? (ZA (w.heap.size+1) 2)=some (.slice m.ga m.gn m.gc)/\W.cell? (ZA (w.heap.size+1) 3)=some (ZI m.fi)/\W.cell? (ZA (w.heap.size+1) 4)=some (ZI m.mo)/\W.cell? (ZA (w.heap.size+1) 5)=some (.slice m.fa m.fn m.fc)/\W.cell? (ZA (w.heap.size+1) 6)=some (.slice m.da m.dn m.dc)/\W.cell? (ZA (w.heap.size+1) 7)=some (.slice m.ea m.en m.ec)));obtain⟨m0,m1,m2,m3,m4,m5,m6,m7,k0,k1,k2,k3,k4,k5,k6,k7⟩:=HX.out _ (ZT _ _);have FS:=hid B0;have AT:=hid (ZT ((w.alloc (bM y.ta m.tn y.tc y.ha m.hn y.hc y.ga m.gn y.gc m.fi m.mo y.fa m.fn y.fc y.da m.dn y.dc y.ea m.en y.ec)).alloc (bM m.ta m.tn m.tc m.ha m.hn m.hc m.ga m.gn m.gc m.fi m.mo m.fa m.fn m.fc m.da m.dn m.dc m.ea m.en m.ec)).heap.size ((w.alloc (bM y.ta m.tn y.tc y.ha m.hn y.hc y.ga m.gn y.gc m.fi m.mo y.fa m.fn y.fc y.da m.dn y.dc y.ea m.en y.ec)).alloc (bM m.ta m.tn m.tc m.ha m.hn m.hc m.ga m.gn m.gc m.fi m.mo m.fa m.fn m.fc m.da m.dn m.dc m.ea m.en m.ec)));have f1:(m.fi==m.fi)=true:=av;have f2:(m.mo==m.mo)=true:=av;clear hy hs hm B0 B1 B2 b1 b2;show Zw 13 #[.agg #[.slice y.ta m.tn y.tc,.slice y.ha m.hn y.hc,.slice y.ga m.gn y.gc,ZI m.fi,ZI m.mo,.slice y.fa m.fn y.fc,.slice y.da m.dn y.dc,.slice y.ea m.en y.ec],.agg #[.slice m.ta m.tn m.tc,.slice m.ha m.hn m.hc,.slice m.ga m.gn m.gc,ZI m.fi,ZI m.mo,.slice m.fa m.fn m.fc,.slice m.da m.dn m.dc,.slice m.ea m.en m.ec]] w _;go_enter func13,ntmps13;go_wp2_with fail;refine(Zn y.ta m.ta m.tn y.tc m.tc m.types _ (HH.out _ FS.out).pt (HM.out _ FS.out).pt (by have:=(HM.out _ FS.out).tn; omega)).mono ?_;rintro e w1⟨rfl,hb⟩;have SO:=Zy FS hb;have AT:=Zy AT hb;obtain⟨m0,m1,m2,m3,m4,m5,m6,m7,k0,k1,k2,k3,k4,k5,k6,k7⟩:=HX.out _ AT.out;clear hb;go_wp2_with fail;refine(XV y.ha m.ha m.hn y.hc m.hc m.hosts _ (HH.out _ SO.out).ph (HM.out _ SO.out).ph (by have:=(HM.out _ SO.out).hn; omega)).mono ?_;rintro e w2⟨rfl,hb⟩;have P2:=Zy SO hb;have AT:=Zy AT hb;obtain⟨m0,m1,m2,m3,m4,m5,m6,m7,k0,k1,k2,k3,k4,k5,k6,k7⟩:=HX.out _ AT.out;clear hb;go_wp2_with fail;refine(YU y.ga m.ga m.gn y.gc m.gc m.globals _ (HH.out _ P2.out).pg (HM.out _ P2.out).pg (by have:=(HM.out _ P2.out).gn; omega)).mono ?_;rintro e w3⟨rfl,hb⟩;have cq:=Zy P2 hb;have AT:=Zy AT hb;obtain⟨m0,m1,m2,m3,m4,m5,m6,m7,k0,k1,k2,k3,k4,k5,k6,k7⟩:=HX.out _ AT.out;clear hb;go_wp2_with fail;refine(Y1 y.fa m.fn y.fc m.fa m.fc y.fns m.fns _ (HM.out _ cq.out).fn (HH.out _ cq.out).pf (HH.out _ cq.out).fx (HM.out _ cq.out).pf (HM.out _ cq.out).fx HSF.out).mono ?_;rintro e w4⟨rfl,hb⟩;have pi:=Zy cq hb;have AT:=Zy AT hb;obtain⟨m0,m1,m2,m3,m4,m5,m6,m7,k0,k1,k2,k3,k4,k5,k6,k7⟩:=HX.out _ AT.out;clear hb;go_wp2_with fail;refine(Y2 y.da m.dn y.dc m.da m.dc y.data m.data _ (HM.out _ pi.out).dn (HH.out _ pi.out).pd (HH.out _ pi.out).dx (HM.out _ pi.out).pd (HM.out _ pi.out).dx HSD.out).mono ?_;rintro e w5⟨rfl,hb⟩;have de:=Zy pi hb;have AT:=Zy AT hb;obtain⟨m0,m1,m2,m3,m4,m5,m6,m7,k0,k1,k2,k3,k4,k5,k6,k7⟩:=HX.out _ AT.out;clear hb;go_wp2_with fail;refine(Zm y.ea m.ea m.en y.ec m.ec m.exps _ (HH.out _ de.out).pe (HM.out _ de.out).pe (by have:=(HM.out _ de.out).en; omega)).mono ?_
 rintro e w6⟨rfl,hb⟩;have HB6:=Zy de hb;have AT:=Zy AT hb;obtain⟨m0,m1,m2,m3,m4,m5,m6,m7,k0,k1,k2,k3,k4,k5,k6,k7⟩:=HX.out _ AT.out;clear hb;go_wp2_with fail;go_ret;exact⟨rfl,HB6.out⟩
def wkM(b:Nat):MM :=
 { ta:=some (ZA b 0),tn:=1,tc:=1,types:=[(⟨#[119]⟩,⟨#[]⟩)],ha:=none,hn:=0,hc:=0,hosts:=[],ga:=none,gn:=0,gc:=0,globals:=[],fi:=1,mo:=2,fa:=some (ZA (b+1+1+1) 0),fn:=1,fc:=1,fns:=[(0,⟨#[108]⟩,(some (ZA (b+1+1) 0),2,2),[(9,0,(some (ZA (b+1) 0),2,2),[0,1]),(6,0,(none,0,0),[])])],da:=none,dn:=0,dc:=0,data:=[],ea:=none,en:=0,ec:=0,exps:=[] }
def wkP:PM:=⟨[(⟨#[119]⟩,⟨#[]⟩)],[],[],1,2,[(0,⟨#[108]⟩,[(9,0,[0,1]),(6,0,[])])],[],[]⟩
def wkT:ByteArray:=⟨#[102,108,97,103,111,110,10,116,121,112,101,32,119,32,45,62,32,45,10,109,101,109,111,114,121,32,49,32,50,10,102,117,110,99,32,48,32,108,10,32,32,98,114,116,97,98,108,101,32,48,32,49,10,32,32,101,110,100,10]⟩
def wkE:ByteArray:=⟨#[102,108,97,103,111,110,10,101,120,116,101,114,110]⟩
theorem Uw(b:Nat):pl (wkM b)=wkP:=rfl
theorem Ei(b:Nat):cJ (wkM b)=0:=ak
theorem Vl(b:Nat):(⟨(mz (wkM b)).toArray⟩:BAz)=wkT:=ak
theorem VE(b:Nat):C9 (wkM b)=wkT:=by
 unfold C9;rw[if_pos (Ei b)];exact Vl b
theorem OA:iO 0 0 pm0 (bg wkT)=(7,some (6,wkP)):=ak
theorem JW:iO 0 0 pm0 (bg wkE)=(2,none):=ak
theorem VH(b:Nat):LnM (wkM b):=⟨rfl,rfl,rfl,rfl,rfl,rfl⟩
structure m9(b:Nat)(W:World):Prop where
 t:W.heap[b]? =some (aW ⟨#[119]⟩ ⟨#[]⟩)
 l:W.heap[b+1]? =some (.cells #[ZI 0,ZI 1] 3)
 c:W.heap[b+1+1]? =some (.cells #[ZU 9,ZI 0,ZL (b+1) 2 2,ZU 6,ZI 0,ZN] 75)
 f:W.heap[b+1+1+1]? =some (aN 0 ⟨#[108]⟩ (some (ZA (b+1+1) 0)) 2 2)
variable {b:Nat}{W W':World}
theorem m9.later(h:m9 b W)(hb:Zx W W'):m9 b W':=⟨ar hb h.t,ar hb h.l,ar hb h.c,ar hb h.f⟩
theorem m9.sig(h:m9 b W):jP W (some (ZA b 0)) 1 [(⟨#[119]⟩,⟨#[]⟩)]:=by
 refine⟨rfl,.inr ⟨b,0,rfl,fun j x hj=>?_⟩⟩
 match j,hj with
 | 0,hj =>
  obtain rfl:=i9 hj;exact⟨ag h.t,ag h.t⟩
theorem m9.fu(h:m9 b W):pC W (some (ZA (b+1+1+1) 0)) 1 (wkM b).fns:=by
 refine⟨rfl,.inr ⟨b+1+1+1,0,rfl,fun j x hj=>?_⟩⟩
 match j,hj with
 | 0,hj =>
  obtain rfl:=i9 hj;exact⟨ag h.f,ag h.f,ag h.f⟩
theorem m9.ins(h:m9 b W):AtIn W (some (ZA (b+1+1) 0)) 2 [(9,0,(some (ZA (b+1) 0),2,2),[0,1]),(6,0,(none,0,0),[])]:=by
 refine⟨rfl,.inr ⟨b+1+1,0,rfl,fun j x hj=>?_⟩⟩
 match j,hj with
 | 0,hj =>
  obtain rfl:=i9 hj;exact⟨ag h.c,ag h.c,ag h.c⟩
 | 1,hj =>
  obtain rfl:=i9 hj;exact⟨ag (i:=3) h.c,ag (i:=4) h.c,ag (i:=5) h.c⟩
theorem m9.lab(h:m9 b W):mE W (some (ZA (b+1) 0)) 2 [0,1]:=by
 refine⟨rfl,.inr ⟨b+1,0,rfl,fun j x hj=>?_⟩⟩
 match j,hj with
 | 0,hj =>
  obtain rfl:=i9 hj;exact ag h.l
 | 1,hj =>
  obtain rfl:=i9 hj;exact ag (i:=1) h.l
theorem Ms(W:World):mE W none 0 []:=⟨rfl,.inl rfl⟩
theorem m9.sr(h:m9 b W):MSr W (wkM b):=by
 refine⟨h.sig,eQ,⟨rfl,.inl rfl⟩,eQ,⟨rfl,.inl rfl⟩,eQ,h.fu,eQ,?_,⟨rfl,.inl rfl⟩,eQ,?_,⟨rfl,.inl rfl⟩,eQ⟩
 ·intro x hx
  obtain rfl:x=(0,⟨#[108]⟩,(some (ZA (b+1+1) 0),2,2),[(9,0,(some (ZA (b+1) 0),2,2),[0,1]),(6,0,(none,0,0),[])]):=by simpa[wkM] using hx
  refine⟨h.ins,eQ,fun y hy=>?_⟩;simp only[List.mem_cons,List.not_mem_nil,or_false]at hy
  rcases hy with rfl | rfl
  ·exact⟨h.lab,eQ⟩
  exact⟨Ms W,eQ⟩
 intro x hx;simp[wkM]at hx
theorem m9.ok(h:m9 b W):∀R g,W.heap.size<=R->W.heap.size<=g->MOk W R g (wkM b):=by
 intro R g hR hg
 have far:∀(a:OAz),(∀b off cc,a=some ⟨b,off,cc⟩->b<W.heap.size)->Far W R g a:=fun a h b off cc hb=>by have:=h b off cc hb; omega
 have fn:Far W R g none:=far none (fun b off cc h=>bS);refine⟨h.sig,far _ (fun b off cc hh=>by cases hh; exact aK h.t),⟨rfl,.inl rfl⟩,fn,fun j x hj=>sA,⟨rfl,.inl rfl⟩,fn,fun j x hj=>sA,eQ,eQ,eQ,eQ,h.fu,far _ (fun b off cc hh=>by cases hh; exact aK h.f),?_,⟨rfl,.inl rfl⟩,fn,fun j x hj=>sA,⟨rfl,.inl rfl⟩,fn,fun j x hj=>sA⟩;intro j x hj
 match j,hj with
 | 0,hj =>
  obtain rfl:=i9 hj;refine⟨eQ,h.ins,(far _ (fun b off cc hh=>by cases hh; exact aK h.c)).nz _,fun i y hi=>?_⟩
  match i,hi with
  | 0,hi =>
   obtain rfl:=i9 hi;refine⟨eQ,eQ,⟨rfl,eQ,eQ,fun z hz=>?_,.inr ⟨b+1,0,rfl,fun j hj=>?_⟩⟩,(far _ (fun b off cc hh=>by cases hh; exact aK h.l)).nz _⟩
   ·simp only[List.mem_cons,List.not_mem_nil,or_false]at hz
    rcases hz with rfl | rfl <;> decide
   match j,hj with
   | 0,_=>exact ag h.l
   | 1,_=>exact ag (i:=1) h.l
  | 1,hi =>
   obtain rfl:=i9 hi;exact⟨eQ,eQ,⟨rfl,Z5 _,Z5 _,fun z hz=>by simp at hz,.inl rfl⟩,fn.nz _⟩
theorem QZ(b:Nat):Ym (wkM b):=by
 intro j x hj i y hi
 match j,hj with
 | 0,hj =>
  obtain rfl:=i9 hj
  match i,hi with
  | 0,hi =>
   obtain rfl:=i9 hi
   (try dsimp only); omega
  | 1,hi =>
   obtain rfl:=i9 hi
   (try dsimp only); omega
variable {j:Nat}
theorem Di{α β:Type}{f:α->β}{xs ys:List α}(h:xs.map f=ys.map f){a b:α}(ha:xs[j]? =some a)(hb:ys[j]? =some b):f a=f b:=by
 have:=congrArg (fun l=>l[j]?) h;simp only[List.getElem?_map,ha,hb,Option.map_some,Option.some.injEq]at this;exact this
variable {w':World}{a b:InM}
theorem WJ(h:plI a=plI b)(ha:vz w a)(hb:vz w' b):Oc a b:=by
 obtain⟨a1,a2,⟨aa,an,ac⟩,al⟩:=a;obtain⟨b1,b2,⟨ba,bn,bc⟩,bl⟩:=b;unfold plI at h;obtain⟨rfl,h⟩:=Prod.mk.inj h;obtain⟨rfl,rfl⟩:=Prod.mk.inj h;have h1:al.length=an:=ha.1.1;have h2:al.length=bn:=hb.1.1;exact⟨rfl,rfl,uf,rfl⟩
variable {a b:DaM}
theorem U2(h:plD a=plD b)(ha:tT w a)(hb:tT w' b):MO a b:=by
 obtain⟨a1,⟨aa,an,ac⟩,al⟩:=a;obtain⟨b1,⟨ba,bn,bc⟩,bl⟩:=b;unfold plD at h;obtain⟨rfl,rfl⟩:=Prod.mk.inj h;have h1:al.length=an:=ha.1.1;have h2:al.length=bn:=hb.1.1;exact⟨rfl,uf,rfl⟩
variable {a b:FuM}
theorem U1(h:plF a=plF b)(ha:pS w a)(hb:pS w' b):MD a b:=by
 obtain⟨a1,a2,⟨aa,an,ac⟩,al⟩:=a;obtain⟨b1,b2,⟨ba,bn,bc⟩,bl⟩:=b;unfold plF at h;obtain⟨h1,h⟩:=Prod.mk.inj h;obtain⟨h2,h⟩:=Prod.mk.inj h;dsimp only at h1 h2 h;have l1:al.length=an:=ha.1.1;have l2:bl.length=bn:=hb.1.1
 have l3:al.length=bl.length:=by have:=congrArg List.length h; simpa using this
 refine⟨h1.symm,h2.symm,?_,l3.symm,fun j x y hx hy=>?_⟩
 ·dsimp only; omega
 exact WJ (Di h hx hy) (ha.2.2 x (ZO hx)) (hb.2.2 y (ZO hy))
theorem Ql(h:pl x=pl y)(hx:MSr w x)(hy:MSr w' y):SmM x y:=by
 unfold pl at h;obtain⟨h1,h2,h3,h4,h5,h6,h7,h8⟩:=PM.mk.inj h;have lx:=hx.len;have ly:=hy.len
 have l6:x.fns.length=y.fns.length:=by have:=congrArg List.length h6; simpa using this
 have l7:x.data.length=y.data.length:=by have:=congrArg List.length h7; simpa using this
 refine⟨?_,h1.symm,?_,h2.symm,?_,h3.symm,h4.symm,h5.symm,?_,fun j a b ha hb=>?_,?_,fun j a b ha hb=>?_,?_,h8.symm⟩
 ·rw[ly.t,lx.t,h1]
 ·rw[ly.h,lx.h,h2]
 ·rw[ly.g,lx.g,h3]
 ·rw[ly.f,lx.f,l6]
 ·exact U1 (Di h6 ha hb) (hx.fx a (ZO ha)) (hy.fx b (ZO hb))
 ·rw[ly.d,lx.d,l7]
 ·exact U2 (Di h7 ha hb) (hx.dx a (ZO ha)) (hy.dx b (ZO hb))
 rw[ly.e,lx.e,h8]
variable {a:OAz}{l:LIz}
theorem Yn{n c:Nat}(h:gW w a n c l):mE w a n l:=by
 refine⟨h.1,?_⟩
 rcases h.2.2.2.2 with h0 | ⟨b,off,e,hc⟩
 ·exact .inl h0
 refine .inr ⟨b,off,e,fun j x hj=>?_⟩;have hl:=aF hj;rw[h.1]at hl;have:=hc j hl;rw[Z3,hj]at this;exact this
variable {R g:Nat}
theorem MOk.sr(h:MOk w R g m)(hp:Pas m):MSr w m:=by
 have l:=h.len;have n1:=hp.nt;have n2:=hp.nh;have n3:=hp.ng;have n4:=hp.nf;have n5:=hp.nd;have n6:=hp.ne;refine⟨h.pt,by rw[l.t]; omega,h.ph,by rw[l.h]; omega,h.pg,by rw[l.g]; omega,h.pf,by rw[l.f]; omega,fun x hx=>?_,h.pd,by rw[l.d]; omega,fun x hx=>?_,h.pe,by rw[l.e]; omega⟩
 ·obtain⟨j,hj⟩:=iU hx;have hf:=h.fr j x hj;have hq:=hp.fn j x hj
  refine⟨hf.2.1,?_,fun y hy=>?_⟩
  ·rw[<- hf.2.1.1]; omega
  obtain⟨i,hi⟩:=iU hy;have hi1:=(hf.2.2.2 i y hi).2.2.1;have hc:=Ak (hq.2.2.2.2.2 i y hi);exact⟨Yn hi1,by rw[<- hi1.1]; omega⟩
 obtain⟨j,hj⟩:=iU hx;have hd:=h.dr j x hj;have hq:=hp.da j x hj;exact⟨zk.of hd.2.1,by rw[<- hd.2.1.1]; omega⟩
def wkW(w:World):World:=((((w.alloc (Obj.cells #[Value.string ⟨#[119]⟩,Value.string ⟨#[]⟩] 73)).alloc (Obj.cells #[Value.int IntKind.i64 0,Value.int IntKind.i64 1] 3)).alloc (Obj.cells #[Value.int IntKind.u8 9,Value.int IntKind.i64 0,ZL (w.heap.size+1) 2 2,Value.int IntKind.u8 6,Value.int IntKind.i64 0,ZN] 75)).alloc (Obj.cells #[Value.int IntKind.i64 0,Value.string ⟨#[108]⟩,ZL (w.heap.size+1+1) 2 2] 78)).alloc (Obj.cells (mV (wkM w.heap.size)) 29)
theorem WR(w:World):m9 w.heap.size (wkW w)/\(wkW w).heap[w.heap.size+1+1+1+1]? =some (.cells (mV (wkM w.heap.size)) 29)/\Zx w (wkW w)/\w.heap.size+1+1+1+1<(wkW w).heap.size:=by
 obtain⟨y0,h0⟩:∃y,w.alloc (Obj.cells #[Value.string ⟨#[119]⟩,Value.string ⟨#[]⟩] 73)=y:=⟨_,rfl⟩;obtain⟨y1,h1⟩:∃y,y0.alloc (Obj.cells #[Value.int IntKind.i64 0,Value.int IntKind.i64 1] 3)=y:=⟨_,rfl⟩;obtain⟨y2,h2⟩:∃y,y1.alloc (Obj.cells #[Value.int IntKind.u8 9,Value.int IntKind.i64 0,ZL (w.heap.size+1) 2 2,Value.int IntKind.u8 6,Value.int IntKind.i64 0,ZN] 75)=y:=⟨_,rfl⟩;obtain⟨y3,h3⟩:∃y,y2.alloc (Obj.cells #[Value.int IntKind.i64 0,Value.string ⟨#[108]⟩,ZL (w.heap.size+1+1) 2 2] 78)=y:=⟨_,rfl⟩;obtain⟨y4,h4⟩:∃y,y3.alloc (Obj.cells (mV (wkM w.heap.size)) 29)=y:=⟨_,rfl⟩
 have e:wkW w=y4:=by unfold wkW; rw[h0,h1,h2,h3,h4]
 have z0:y0.heap.size=w.heap.size+1:=by rw[<- h0]; simp
 have z1:y1.heap.size=w.heap.size+1+1:=by rw[<- h1]; simp[z0]
 have z2:y2.heap.size=w.heap.size+1+1+1:=by rw[<- h2]; simp[z1]
 have z3:y3.heap.size=w.heap.size+1+1+1+1:=by rw[<- h3]; simp[z2]
 have z4:y4.heap.size=w.heap.size+1+1+1+1+1:=by rw[<- h4]; simp[z3]
 have b0:=h0 ▸ aj w (Obj.cells #[Value.string ⟨#[119]⟩,Value.string ⟨#[]⟩] 73);have b1:=h1 ▸ aj y0 (Obj.cells #[Value.int IntKind.i64 0,Value.int IntKind.i64 1] 3);have b2:=h2 ▸ aj y1 (Obj.cells #[Value.int IntKind.u8 9,Value.int IntKind.i64 0,ZL (w.heap.size+1) 2 2,Value.int IntKind.u8 6,Value.int IntKind.i64 0,ZN] 75);have b3:=h3 ▸ aj y2 (Obj.cells #[Value.int IntKind.i64 0,Value.string ⟨#[108]⟩,ZL (w.heap.size+1+1) 2 2] 78);have b4:=h4 ▸ aj y3 (Obj.cells (mV (wkM w.heap.size)) 29)
 have c0:y0.heap[w.heap.size]? =some (Obj.cells #[Value.string ⟨#[119]⟩,Value.string ⟨#[]⟩] 73):=by rw[<- h0]; exact hZn _ _
 have c1:y1.heap[w.heap.size+1]? =some (Obj.cells #[Value.int IntKind.i64 0,Value.int IntKind.i64 1] 3):=by rw[<- h1,<- z0]; exact hZn _ _
 have c2:y2.heap[w.heap.size+1+1]? =some (Obj.cells #[Value.int IntKind.u8 9,Value.int IntKind.i64 0,ZL (w.heap.size+1) 2 2,Value.int IntKind.u8 6,Value.int IntKind.i64 0,ZN] 75):=by rw[<- h2,<- z1]; exact hZn _ _
 have c3:y3.heap[w.heap.size+1+1+1]? =some (Obj.cells #[Value.int IntKind.i64 0,Value.string ⟨#[108]⟩,ZL (w.heap.size+1+1) 2 2] 78):=by rw[<- h3,<- z2]; exact hZn _ _
 have c4:y4.heap[w.heap.size+1+1+1+1]? =some (Obj.cells (mV (wkM w.heap.size)) 29):=by rw[<- h4,<- z3]; exact hZn _ _
 rw[e];refine⟨⟨?_,?_,?_,?_⟩,c4,?_,ae⟩
 ·exact ar b4 (ar b3 (ar b2 (ar b1 c0)))
 ·exact ar b4 (ar b3 (ar b2 c1))
 ·exact ar b4 (ar b3 c2)
 ·exact ar b4 c3
 exact(((b0.trans (b1.mono b0.size)).trans (b2.mono ae)).trans (b3.mono ae)).trans (b4.mono ae)
variable {B B':Nat}
theorem vC.up(h:vC B w)(hb:B<=B'):vC B' w :=
 ⟨h.syn.imp fun _ ⟨p,h⟩=>⟨p,fun W hW=>h W (hW.mono hb)⟩,h.ran.imp fun _ ⟨p,h⟩=>⟨p,fun W hW=>h W (hW.mono hb)⟩⟩
variable {e:Ending}
theorem WB(h:vp wkT w e w'):∃m,pl m=wkP/\MSr w' m/\e=rt3 (mV m) 0 0/\Zx w w':=by
 obtain⟨hb,-,h2⟩:=h;have h3:=((h2 au _ _ OA).2 _ _ rfl).2 au;obtain⟨m,hpl,hlen,tw,-,h5⟩:=h3;have hc:cJ m=0:=(VM hlen (VH 0) (hpl.trans (Uw 0).symm)).trans (Ei 0);obtain⟨he,base,R,mp,ln,hR,hq⟩:=h5 hc;exact⟨m,hpl,(hq.mok (by rw[hpl]; exact tw) _ _ lRn lRn).sr (zx hc),he,hb⟩
theorem TA(h:vp wkE w e w'):e=rt3 zV 22 2/\Zx w w':=by
 obtain⟨hb,-,h2⟩:=h;exact⟨(h2 au _ _ JW).1 rfl,hb⟩
theorem WT(w:World)(hE:cY w.heap.size w):Zw 8 #[] w (ZC (.bool true) w):=by
 have HE:=hid (fun(W:World) (hb:Zx w W)=>(⟨(hE.later hb).tens.up hb.size,(hE.later hb).errs.up hb.size,(hE.later hb).kinds,(hE.later hb).mx,Z8 hE.b3 hb.size,Nat.le_refl _⟩:cY W.heap.size W));obtain⟨ha,hm,hb,hl⟩:=WR w;have H11:=hid (TK w.heap.size (wkM w.heap.size) (wkW w) hb.size (hE.later hb).tens (hE.later hb).kinds ha.ok (QZ _));rw[VE,Ei]at H11;obtain⟨HA,HM,HB,HL⟩:=ZF ha hm hb hl;have HEQ:=hid (fun(m:MM)(W:World)(h1:MSr W m)(h2:m9 w.heap.size W) (hp:pl m=wkP)=>PU h2.sr h1 (Ql (hp.symm ▸ Uw w.heap.size) h2.sr h1));clear hE ha hm hb hl;go_enter func8,ntmps8;go_wp2_with fail
 change Zw 11 #[.agg (mV (wkM w.heap.size))] (wkW w) _
 generalize wkW w=W0 at *;refine H11.out.mono ?_;rintro e w1⟨rfl,hb1⟩;replace HA:=hid (HA.out.later hb1);replace HM:=hid (ar hb1 HM.out);replace HB:=Zy HB hb1;clear hb1 H11 HL;have H15:=hid (sO wkT w1 (HE.out w1 HB.out));have e0:wkT=⟨#[102,108,97,103,111,110,10,116,121,112,101,32,119,32,45,62,32,45,10,109,101,109,111,114,121,32,49,32,50,10,102,117,110,99,32,48,32,108,10,32,32,98,114,116,97,98,108,101,32,48,32,49,10,32,32,101,110,100,10]⟩:=rfl;rw[<- e0];have HPA:=hid (fun(e:Ending) (w':World)=>WB (w:=w1) (e:=e) (w':=w'));clear e0;generalize wkT=T at *;go_wp2_with fail;refine H15.out.mono ?_;intro e w2 hp;obtain⟨m,hpl,hms,rfl,hb2⟩:=HPA.out _ _ hp;replace HA:=hid (HA.out.later hb2);replace HM:=hid (ar hb2 HM.out);replace HB:=Zy HB hb2;obtain⟨HMS,HPL⟩:=Zz hms hpl;clear hp hb2 H15 HPA hms hpl;unfold rt3 mV;go_wp2_with fail;have BN:=aj w2 (bM m.ta m.tn m.tc m.ha m.hn m.hc m.ga m.gn m.gc m.fi m.mo m.fa m.fn m.fc m.da m.dn m.dc m.ea m.en m.ec);have bx:=hZn w2 (bM m.ta m.tn m.tc m.ha m.hn m.hc m.ga m.gn m.gc m.fi m.mo m.fa m.fn m.fc m.da m.dn m.dc m.ea m.en m.ec);replace HA:=hid (HA.out.later BN);replace HM:=hid (ar BN HM.out);replace HB:=Zy HB BN;replace HMS:=hid (HMS.out.later BN);have HX:=hid bx;clear BN bx;generalize w2.alloc (bM m.ta m.tn m.tc m.ha m.hn m.hc m.ga m.gn m.gc m.fi m.mo m.fa m.fn m.fc m.da m.dn m.dc m.ea m.en m.ec)=w3 at *;generalize w2.heap.size=X at *;have H15:=hid (sO wkE w3 (HE.out w3 HB.out));unfold wkE at H15;refine H15.out.mono ?_;intro e w4 hp;obtain⟨rfl,hb4⟩:=TA hp;replace HA:=hid (HA.out.later hb4);replace HM:=hid (ar hb4 HM.out);replace HX:=hid (ar hb4 HX.out);replace HB:=Zy HB hb4;replace HMS:=hid (HMS.out.later hb4);clear hp hb4 H15;unfold rt3 zV;have BN:=aj w4 (bM none 0 0 none 0 0 none 0 0 0 0 none 0 0 none 0 0 none 0 0);replace HA:=hid (HA.out.later BN);replace HM:=hid (ar BN HM.out);replace HX:=hid (ar BN HX.out);replace HB:=Zy HB BN;replace HMS:=hid (HMS.out.later BN);clear BN;have HQ:=hid (HEQ.out m _ HMS.out HA.out HPL.out);unfold wkM mV at HQ HM;dsimp only at HQ HM;obtain⟨⟨m0,m1,m2,m3,m4,m5,m6,m7⟩,-⟩:=ax HX.out;obtain⟨⟨n0,n1,n2,n3,n4,n5,n6,n7⟩,-⟩:=ax HM.out;have hTT:(T.toList==T.toList)=true:=av;go_wp2_with fail;refine HQ.out.mono ?_;rintro e w6⟨rfl,LE⟩;have HB6:=Zy HB LE;clear LE;go_wp2_with fail;go_ret;exact⟨rfl,HB6.out⟩
theorem cY.top(h:cY B w)(hb:Below B w W):cY W.heap.size W :=
 ⟨(h.later hb).tens.up (ZW h.bw hb.size),(h.later hb).errs.up (ZW h.bw hb.size),(h.later hb).kinds,(h.later hb).mx,Z8 h.b3 (ZW h.bw hb.size),Nat.le_refl _⟩
theorem N8{sg:List Sg}{ah:List FuM}{x:FuM}{t:Nat}{P Q:BAz}(ht:x.1=t)(hp:sg[t]? =some (P,Q))(hP:P.size<=8) :
  dX sg ah x=orE (ltE x.2.1 (64-P.size)) (if 2048<x.2.2.2.length then 20 else if 16384<cG ah+x.2.2.2.length then 20 else bj (fun _ y=>d9 y) [] x.2.2.2):=by
 unfold dX gv;have hl:=aF hp;rw[if_neg (by rw[ht]; omega),ht,vF hp];unfold ltE orE
 by_cases h1:64<x.2.1.size+P.size
 ·simp[h1,show 64-P.size<x.2.1.size by omega]
 rw[if_neg h1,if_neg (show ¬64-P.size<x.2.1.size by omega),gg x.2.1 (64-P.size) 64 ae ae]
 by_cases h2:bY x.2.1 64=false
 ·rw[if_pos h2,if_pos h2]; rfl
 rw[if_neg h2,if_neg h2];simp only[ne_eq,not_true_eq_false,if_false]
 by_cases h3:2048<x.2.2.2.length
 ·rw[if_pos h3,if_pos ae]
 rw[if_neg h3]
 by_cases h4:16384<cG ah+x.2.2.2.length
 ·rw[if_pos h4,if_pos ae]
 rw[if_neg h4,if_neg ae]
theorem J4{sg:List Sg}{ah:List FuM}{x:FuM}(h:x.1<0\/(sg.length:Int)<=x.1):dX sg ah x=30:=by
 unfold dX gv;rw[if_pos h]
theorem BO(m:MM)(w:World)(pt:jP w m.ta m.tn m.types)(hT:∀(j:Nat)x,m.types[j]? =some x->x.1.size<=8)(htn:m.tn<=281474976710656)(pf:pC w m.fa m.fn m.fns)(hfn:m.fn<=281474976710656)
  (fr:∀(j:Nat)x,m.fns[j]? =some x->(-9223372036854775808<=x.1/\x.1<9223372036854775808)/\AtIn w x.2.2.1.1 x.2.2.1.2.1 x.2.2.2/\x.2.1.size<=281474976710656/\x.2.2.1.2.1<=281474976710656/\∀(i:Nat)y,x.2.2.2[i]? =some y->0<=y.1/\y.1<=255/\gW w y.2.2.1.1 y.2.2.1.2.1 y.2.2.1.2.2 y.2.2.2) :
  Zw 208 #[.agg (mV m)] w (ZC (ZI (e6 m)) w):=by
 have HPT:=hid (fun(W:World) (hb:Zx w W)=>pt.kept (bC hb) (fun _ _ _ _=>id));have HPF:=hid (fun(W:World) (hb:Zx w W)=>pf.kept (bC hb) (fun _ _ _ _=>id));have HFR:=hid (fun(W:World)(hb:Zx w W) (j:Nat) x (hj:m.fns[j]? =some x)=>(⟨(fr j x hj).1,(fr j x hj).2.1.kept (bC hb) (fun _ _ _ _=>id),(fr j x hj).2.2.1,(fr j x hj).2.2.2.1,fun i y hi=>⟨((fr j x hj).2.2.2.2 i y hi).1,((fr j x hj).2.2.2.2 i y hi).2.1,((fr j x hj).2.2.2.2 i y hi).2.2.later hb lRn⟩⟩:(-9223372036854775808<=x.1/\x.1<9223372036854775808)/\AtIn W x.2.2.1.1 x.2.2.1.2.1 x.2.2.2/\x.2.1.size<=281474976710656/\x.2.2.1.2.1<=281474976710656/\∀(i:Nat)y,x.2.2.2[i]? =some y->0<=y.1/\y.1<=255/\gW W y.2.2.1.1 y.2.2.1.2.1 y.2.2.1.2.2 y.2.2.2));have HT8:=hid hT;have tl:=pt.1;have fl:=pf.1;clear pt pf fr hT;have B0:=aj w (.cells (mV m) 29);have b0:=hZn w (.cells (mV m) 29);have HW:w.alloc (bM m.ta m.tn m.tc m.ha m.hn m.hc m.ga m.gn m.gc m.fi m.mo m.fa m.fn m.fc m.da m.dn m.dc m.ea m.en m.ec)=w.alloc (.cells (mV m) 29):=rfl;generalize w.alloc (.cells (mV m) 29)=W0 at *;have FS:=hid B0;have HX:=hid (fun(W:World) (hb:Zx W0 W)=>(⟨ai hb (ag b0),ai hb (ag b0)⟩:W.cell? (ZA w.heap.size 0)=some (.slice m.ta m.tn m.tc)/\W.cell? (ZA w.heap.size 5)=some (.slice m.fa m.fn m.fc)));obtain⟨m0,m5⟩:=HX.out W0 (ZT _ _);clear B0 b0;show Zw 208 #[.agg #[.slice m.ta m.tn m.tc,.slice m.ha m.hn m.hc,.slice m.ga m.gn m.gc,ZI m.fi,ZI m.mo,.slice m.fa m.fn m.fc,.slice m.da m.dn m.dc,.slice m.ea m.en m.ec]] w _
 by_cases ht:128<m.fn
 ·have HV:=hid (show e6 m=20 by unfold e6 bG; rw[if_pos ae])
  have ht':(128:Int)<(m.fn:Int):=ae;go_enter func208,ntmps208;exact sD
 have ht':¬(128:Int)<(m.fn:Int):=ae;have HE6:=hid (show e6 m=bj (dX m.types) [] m.fns by unfold e6 bG; rw[if_neg ae]);go_enter func208,ntmps208
 go_wp2_with fail;clear m0 m5 HW
 go_loopw [3,4] (fun al i wr=>∃t:Nat,t<=m.fn/\al=ZI (cG (m.fns.take t):Nat)/\i=ZI t/\cG (m.fns.take t)<=16384/\Hid (bj (dX m.types) [] (m.fns.take t)=0)/\Hid (Zx W0 wr)) (fun _ i _=>m.fn-(intOf i).toNat)
 case atStart=>exact⟨0,Z5 _,rfl,rfl,by simp[cG],hid rfl,hid (ZT _ _)⟩
 case round =>
  obtain⟨t,htf,rfl,rfl,hal,HF,HB⟩:=hrel;obtain⟨m0,m5⟩:=HX.out wr HB.out
  by_cases hlt:t<m.fn
  ·have hlt':(t:Int)<(m.fn:Int):=ae;obtain⟨x,hx⟩:=ZB m.fns t ae;obtain⟨fb,fof,vb,hat⟩:=(HPF.out wr (FS.out.trans (HB.out.mono FS.out.size))).2.resolve_left ae;obtain⟨g0,g1,g2⟩:=hat t x hx;obtain⟨⟨r0,r1⟩,-,r2,r3,-⟩:=HFR.out wr (FS.out.trans (HB.out.mono FS.out.size)) t x hx
   have HFX:=hid (fun(W:World) (hb:Zx w W)=>HFR.out W hb t x hx);have HH:=hid (fun hne=>fY (dX m.types) m.fns t x hx HF.out hne);have HT:=hid (fun hz=>fV (dX m.types) m.fns t x hx HF.out hz);have hcs:=pH hx;have HCS:=hid hcs;clear hat;rw[vb]at m5
   try rw[vb]
   have FQ:=hid (fun(sg:List Sg)(ah:List FuM)(t:Nat) (P Q:BAz)=>@N8 sg ah x t P Q);have FX:=hid (fun(sg:List Sg) (ah:List FuM)=>@J4 sg ah x);obtain⟨ty,lo,⟨ca,cn,cc⟩,ins⟩:=x;dsimp only at *;have BN:=aj wr (aN ty lo ca cn cc);have bn:=hZn wr (aN ty lo ca cn cc);have SO:=Zy HB BN;have HY:=hid (fun(W:World) (hb:Below (wr.alloc (aN ty lo ca cn cc)).heap.size (wr.alloc (aN ty lo ca cn cc)) W)=>(⟨ai hb (ag bn),ai hb (ag bn),ai hb (ag bn)⟩:W.cell? (ZA wr.heap.size 0)=some (ZI ty)/\W.cell? (ZA wr.heap.size 1)=some (.string lo)/\W.cell? (ZA wr.heap.size 2)=some (.slice ca cn cc)));obtain⟨y0,y1,y2⟩:=HY.out _ (ZT _ _);have m0:=ai BN m0;clear BN bn HF hcs hx
   by_cases hb:ty<0\/(m.tn:Int)<=ty
   ·have HV:=hid (show e6 m=30 by
     have hc:=FX.out m.types (m.fns.take t) (by rw[tl]; exact hb)
     rw[HE6.out,HH.out jk,hc])
    by_cases h0:ty<0
    ·have d0:decide (ty<0)=true:=iJ;exact se
    have d0:decide (ty<0)=false:=iJ;have d1:decide ((m.tn:Int)<=ty)=true:=aA;exact se
   have d0:decide (ty<0)=false:=aA;have d1:decide ((m.tn:Int)<=ty)=false:=aA;obtain⟨q,hq⟩:∃q:Nat,ty=q:=⟨ty.toNat,ae⟩;subst hq;clear r0 r1;have hqn:(q:Int)<(m.tn:Int):=ae;obtain⟨P,hP⟩:=ZB m.types q ae;obtain⟨tb,tof,Up,hatT⟩:=(HPT.out _ (FS.out.trans (SO.out.mono FS.out.size))).2.resolve_left ae;obtain⟨p0,-⟩:=hatT q P hP;have h8:=HT8.out q P hP;have HC:=hid (FQ.out m.types (m.fns.take t) q P.1 P.2 rfl hP h8);rw[Up]at m0
   try rw[Up]
   clear hatT hP FQ FX hb;obtain⟨P,Q⟩:=P;dsimp only at *;have HSUB:=hid (show(64:Int)-(P.size:Int)=((64-P.size:Nat):Int) by omega)
   have HL:=hid (fun(W:World)=>by
    have hL:=oz lo (64-P.size) W r2 ae;rw[<- HSUB.out]at hL;exact hL)
   have pw:=hid (fun(n:Nat)=>(show Zx W0 ((wr.alloc (aN (q:Int) lo ca cn cc)).drewN n) from dY SO.out (Kept.drewN (fun _=>False) _ n) SO.out.size (fun _ x=>x.elim)));have HYD:=hid (fun(n:Nat)=>HY.out ((wr.alloc (aN (q:Int) lo ca cn cc)).drewN n) (dY (ZT _ _) (Kept.drewN (fun _=>False) _ n) lRn (fun _ x=>x.elim)))
   by_cases z0:ltE lo (64-P.size)=0
   rotate_left
   ·have HV:=hid (show e6 m=ltE lo (64-P.size) by
     have hc:=HC.out.trans (eo z0)
     rw[HE6.out,HH.out (by rw[hc]; exact z0),hc])
    generalize ltE lo (64-P.size)=E at *;have hE:(E != 0)=true:=s9;exact wT
   rw[z0]at HL;have hlen:ins.length=cn:=(HFX.out _ (FS.out.trans (SO.out.mono FS.out.size))).2.1.1;have HC2:=hid (HC.out.trans (aM z0));rw[hlen]at HC2 HCS;clear HC z0
   by_cases z1:2048<cn
   ·have HV:=hid (show e6 m=20 by
     have hc:=HC2.out;rw[if_pos z1]at hc
     rw[HE6.out,HH.out jk,hc])
    have z1':(2048:Int)<(cn:Int):=ae;exact wT
   have z1':¬(2048:Int)<(cn:Int):=ae
   by_cases z2:16384<cG (m.fns.take t)+cn
   ·have HV:=hid (show e6 m=20 by
     have hc:=HC2.out;rw[if_neg z1,if_pos z2]at hc
     rw[HE6.out,HH.out jk,hc])
    generalize cG (m.fns.take t)=al at *;have z2':(16384:Int)<(al:Int)+(cn:Int):=ae;exact wT
   have HC3:=hid (show dX m.types (m.fns.take t) (q,lo,(ca,cn,cc),ins)=bj (fun _ y=>d9 y) [] ins by
    have hc:=HC2.out;rw[if_neg z1,if_neg z2]at hc;exact hc)
   clear HC2;generalize hal9:cG (m.fns.take t)=al at *;have HAL:=hid hal9;clear hal9;have z2':¬(16384:Int)<(al:Int)+(cn:Int):=ae;go_wp2_with fail
   go_quiet ((go_at_call 240; exact Calls.quiet_of_same (HL.out _)))
   go_wp2_with fail;have HBE:=hid (pw.out nq)
   have HBF:=hid (show Below (wr.alloc (aN (q:Int) lo ca cn cc)).heap.size (wr.alloc (aN (q:Int) lo ca cn cc)) ((wr.alloc (aN (q:Int) lo ca cn cc)).drewN nq) from dY (ZT _ _) (Kept.drewN (fun _=>False) _ nq) lRn (fun _ x=>x.elim));clear y0 y1 y2 p0 g0 g1 g2 m0 m5 HL pw HYD;generalize (wr.alloc (aN (q:Int) lo ca cn cc)).drewN nq=WL at *
   go_loopw [6,7] (fun _ k wq=>∃j:Nat,j<=cn/\k=ZI j/\Hid (bj (fun _ y=>d9 y) [] (ins.take j)=0)/\Hid (Zx W0 wq)/\Hid (Below (wr.alloc (aN (q:Int) lo ca cn cc)).heap.size (wr.alloc (aN (q:Int) lo ca cn cc)) wq)) (fun _ k _=>cn-(intOf k).toNat)
   case atStart=>exact⟨0,Z5 _,rfl,hid rfl,HBE,HBF⟩
   case round =>
    obtain⟨j,hj,rfl,HFI,HBJ,HBK⟩:=hrel;clear HBE HBF;obtain⟨y0,y1,y2⟩:=HY.out _ HBK.out
    by_cases hjn:j<cn
    ·have hjn':(j:Int)<(cn:Int):=ae;obtain⟨y,hy⟩:=ZB ins j ae;obtain⟨-,hin,-,-,hiy⟩:=HFX.out _ (FS.out.trans (HBJ.out.mono FS.out.size));obtain⟨cb,cof,rfl,qar⟩:=hin.2.resolve_left ae;obtain⟨g0,g1,g2⟩:=qar j y hy;obtain⟨v0,v1,v2⟩:=hiy j y hy;have F':=hid (Bn y.1 y.2.1 _ _ _ y.2.2.2 _ v0 v1 v2);unfold jW at F'
     have HH2:=hid (fun hne=>fY (fun _ y=>d9 y) ins j y hy HFI.out hne);have HT2:=hid (fun hz=>fV (fun _ y=>d9 y) ins j y hy HFI.out hz);have It:(0:Int)<=(j:Int):=ae;have HE:=hid (show d9 y=chk (tkV y.1) (lgV y.1) y.2.1 y.2.2.2 from rfl);clear hin hiy qar v0 v1 v2 hy;generalize chk (tkV y.1) (lgV y.1) y.2.1 y.2.2.2=E at *
     by_cases z3:E=0
     ·subst z3;have HN:=hid (HT2.out HE.out);go_wp2_with fail;refine F'.out.mono ?_;rintro e w9⟨rfl,gR⟩;have HB9:=Zy HBJ gR;have HB8:=Zy HBK gR;clear gR;go_wp2_with fail;exact⟨⟨j+1,ae,bu,HN,HB9,HB8⟩,bD⟩
     have HV:=hid (show e6 m=E by
      have h2:=HH2.out (by rw[HE.out]; exact z3)
      rw[HE6.out,HH.out (by rw[HC3.out,h2,HE.out]; exact z3),HC3.out,h2,HE.out])
     have hE:(E != 0)=true:=by simpa using z3
     go_wp2_with fail;refine F'.out.mono ?_;rintro e w9⟨rfl,gR⟩;have HB9:=Zy HBJ gR;clear gR;go_wp2_with fail;go_ret;exact⟨dS,FS.out.trans (HB9.out.mono FS.out.size)⟩
    obtain rfl:j=cn:=ae;have HN:=hid (HT.out (by rw[HC3.out]; have:=HFI.out; rwa [jS hlen]at this));go_wp2_with fail;refine⟨⟨t+1,ae,by rw[HCS.out]; go_num,bu,by rw[HCS.out]; omega,HN,HBJ⟩,bD⟩
  obtain rfl:t=m.fn:=ae;have HV:=hid (show e6 m=0 by rw[HE6.out]; have:=HF.out; rwa [jS fl]at this);exact ju
section
variable {t:Nat}{y:DaM}
theorem OP{l:List DaM}(h:l[t]? =some y)(v:Int):fF (l.take (t+1)) v=decide (v<=y.1+(y.2.2.length:Int)):=by
 unfold fF;rw[List.take_add_one,h];simp
variable {y:Ex}
theorem Wo{l:List Ex}(h:l[t]? =some y)(s:BAz):gP (l.take (t+1)) s=!(sGt s y.1):=by
 unfold gP;rw[List.take_add_one,h];simp
def ahd(l:List Ex):ByteArray:=match l.getLast? with | none=>⟨#[]⟩ | some y=>y.1
variable {x:Ex}
theorem PL(nf:Int)(l:List Ex)(hx:l[t]? =some x):eI nf (l.take t) x=orE (nmE x.1 (ahd (l.take t)) (decide (t=0))) (cO nf x.2):=by
 unfold eI nmE orE
 by_cases h1:32<x.1.size
 ·simp[h1]
 rw[if_neg h1,if_neg h1]
 by_cases h2:kU x.1=false
 ·simp[h2]
 rw[if_neg h2,if_neg h2]
 cases t with
 | zero=>simp[gP]
 | succ t =>
  have hl:=aF hx;obtain⟨y,hy⟩:=ZB l t ae
  have ha:ahd (l.take (t+1))=y.1:=by unfold ahd; rw[List.take_add_one,hy]; simp
  rw[Wo hy,ha]
  cases hg:sGt x.1 y.1 <;> simp
theorem Af(m:MM)(w:World)(pd:qM w m.da m.dn m.data)(dr:∀(j:Nat)x,m.data[j]? =some x->(-9223372036854775808<=x.1/\x.1<9223372036854775808)/\x.2.1.2.1=x.2.2.length/\x.2.1.2.1<=281474976710656)(eh:m.dn<=281474976710656)(i0:0<=m.fi)(i1:m.fi<=64)
  (pe:qw w m.ea m.en m.exps) (er:∀(j:Nat)x,m.exps[j]? =some x->(-9223372036854775808<=x.2/\x.2<9223372036854775808)/\x.1.size<=281474976710656) (hen:m.en<=281474976710656) (hfn:m.fn<=281474976710656) :
  Zw 209 #[.agg (mV m)] w (ZC (ZI (orE (e7 m) (e8 m))) w):=by
 have HPD:=hid (fun(W:World) (hb:Zx w W)=>pd.kept (bC hb) (fun _ _ _ _=>id));have HPE:=hid (fun(W:World) (hb:Zx w W)=>pe.kept (bC hb) (fun _ _ _ _=>id));obtain⟨HDR,HER⟩:=Zz dr er;have dl:=pd.1;have el:=pe.1;clear pd pe dr er;have B0:=aj w (.cells (mV m) 29);have b0:=hZn w (.cells (mV m) 29);have HW:w.alloc (bM m.ta m.tn m.tc m.ha m.hn m.hc m.ga m.gn m.gc m.fi m.mo m.fa m.fn m.fc m.da m.dn m.dc m.ea m.en m.ec)=w.alloc (.cells (mV m) 29):=rfl;generalize w.alloc (.cells (mV m) 29)=W0 at *;have FS:=hid B0;have HX:=hid (fun(W:World) (hb:Zx W0 W)=>(⟨ai hb (ag b0),ai hb (ag b0),ai hb (ag b0),ai hb (ag b0)⟩:W.cell? (ZA w.heap.size 3)=some (ZI m.fi)/\W.cell? (ZA w.heap.size 5)=some (.slice m.fa m.fn m.fc)/\W.cell? (ZA w.heap.size 6)=some (.slice m.da m.dn m.dc)/\W.cell? (ZA w.heap.size 7)=some (.slice m.ea m.en m.ec)));obtain⟨m3,m5,m6,m7⟩:=HX.out W0 (ZT _ _);clear B0 b0;show Zw 209 #[.agg #[.slice m.ta m.tn m.tc,.slice m.ha m.hn m.hc,.slice m.ga m.gn m.gc,ZI m.fi,ZI m.mo,.slice m.fa m.fn m.fc,.slice m.da m.dn m.dc,.slice m.ea m.en m.ec]] w _
 by_cases ht:64<m.dn
 ·have HV:=hid (show orE (e7 m) (e8 m)=20 by
   have:e7 m=20:=by unfold e7 bG; rw[if_pos ae]
   rw[this]; rfl)
  have ht':(64:Int)<(m.dn:Int):=ae;go_enter func209,ntmps209;exact sD
 have ht':¬(64:Int)<(m.dn:Int):=ae;have HE7:=hid (show e7 m=bj (fun(ah:List DaM) x=>cg (m.fi*4096) ah x) [] m.data by unfold e7 bG; rw[if_neg ae]);go_enter func209,ntmps209
 go_wp2_with fail;clear m3 m5 m6 m7 HW
 go_loopw [3] (fun i wr=>∃t:Nat,t<=m.dn/\i=ZI t/\Hid (bj (fun(ah:List DaM) x=>cg (m.fi*4096) ah x) [] (m.data.take t)=0)/\Hid (Zx W0 wr)) (fun i _=>m.dn-(intOf i).toNat)
 case atStart=>exact⟨0,Z5 _,rfl,hid rfl,hid (ZT _ _)⟩
 case round =>
  obtain⟨t,htd,rfl,HF,HB⟩:=hrel;obtain⟨m3,m5,m6,m7⟩:=HX.out wr HB.out
  by_cases hlt:t<m.dn
  ·have hlt':(t:Int)<(m.dn:Int):=ae;obtain⟨x,hx⟩:=ZB m.data t ae;obtain⟨db,dof,hda,hat⟩:=(HPD.out wr (FS.out.trans (HB.out.mono FS.out.size))).2.resolve_left ae;obtain⟨g0,g1⟩:=hat t x hx;obtain⟨⟨r0,r1⟩,r2,r3⟩:=HDR.out t x hx
   have HH:=hid (fun hne=>fY (fun(ah:List DaM) x=>cg (m.fi*4096) ah x) m.data t x hx HF.out hne);have HT:=hid (fun hz=>fV (fun(ah:List DaM) x=>cg (m.fi*4096) ah x) m.data t x hx HF.out hz);have rn:=hid hat;rw[hda]at m6
   try rw[hda]
   obtain⟨pl,⟨ba,bn,bc⟩,bl⟩:=x;dsimp only at *;subst r2;have BN:=aj wr (bo pl ba bl.length bc);have bnn:=hZn wr (bo pl ba bl.length bc);have SO:=Zy HB BN;have y0:=iz0 bnn;have y1:=iz1 bnn;have yk:=ai BN m3;have xT:=ai BN m6;have HBN:=hid BN;have pw:=hid (fun(n:Nat)=>(show Zx W0 ((wr.alloc (bo pl ba bl.length bc)).drewN n) from dY SO.out (Kept.drewN (fun _=>False) _ n) SO.out.size (fun _ x=>x.elim)));have hwm:(m.fi*4096:Int)<=262144:=ae;have hww:wrap64 (m.fi*4096)=m.fi*4096:=dV;have hwm0:(0:Int)<=m.fi*4096:=ae;clear hat hx BN bnn
   by_cases hb:pl<0\/m.fi*4096<pl
   ·have HV:=hid (show orE (e7 m) (e8 m)=17 by
     have hc:cg (m.fi*4096) (m.data.take t) (pl,(ba,bl.length,bc),bl)=17:=by unfold cg; rw[if_pos hb]
     rw[HE7.out,HH.out jk,hc]; rfl)
    by_cases h0:pl<0
    ·have d0:decide (pl<0)=true:=iJ;exact se
    have d0:decide (pl<0)=false:=iJ;have d1:decide (m.fi*4096<pl)=true:=aA;exact se
   have d0:decide (pl<0)=false:=aA;have d1:decide (m.fi*4096<pl)=false:=aA;have hp0:(0:Int)<=pl:=ae;have hp1:pl<=262144:=ae;clear r0 r1;have hsb:wrap64 (m.fi*4096-pl)=m.fi*4096-pl:=dV
   have HC:=hid (show ∀b,fF (m.data.take t) pl=b->cg (m.fi*4096) (m.data.take t) (pl,(ba,bl.length,bc),bl)=if b=true then 18 else if m.fi*4096-pl<(bl.length:Int) then 13 else if bl.length=0 then 17 else 0 by
    intro b h1;unfold cg;rw[if_neg hb];dsimp only
    rw[h1])
   have HV18:=hid (show fF (m.data.take t) pl=true->orE (e7 m) (e8 m)=18 by
    intro h1;have hc:=HC.out _ h1;rw[if_pos rfl]at hc
    rw[HE7.out,HH.out jk,hc]; rfl)
   have qav:=hid (show fF (m.data.take t) pl=false->m.fi*4096-pl<(bl.length:Int)->orE (e7 m) (e8 m)=13 by
    intro h1 h2;have hc:=HC.out _ h1;rw[if_neg au,if_pos h2]at hc
    rw[HE7.out,HH.out jk,hc]; rfl)
   have qau:=hid (show fF (m.data.take t) pl=false->¬m.fi*4096-pl<(bl.length:Int)->bl.length=0->orE (e7 m) (e8 m)=17 by
    intro h1 h2 h3;have hc:=HC.out _ h1;rw[if_neg au,if_neg h2,if_pos h3]at hc
    rw[HE7.out,HH.out jk,hc]; rfl)
   have HVN:=hid (show fF (m.data.take t) pl=false->¬m.fi*4096-pl<(bl.length:Int)->¬bl.length=0->bj (fun(ah:List DaM) x=>cg (m.fi*4096) ah x) [] (m.data.take (t+1))=0 by
    intro h1 h2 h3;have hc:=HC.out _ h1;rw[if_neg au,if_neg h2,if_neg h3]at hc;exact HT.out hc)
   have HYB:=hid (fun(s:Nat)(y:DaM)(hs:t=s+1) (hy:m.data[s]? =some y)=>(show 0<=y.1/\y.1<=m.fi*4096/\(y.2.2.length:Int)<=m.fi*4096-y.1 by
    have h1:=br (fun(ah:List DaM) x=>cg (m.fi*4096) ah x) (m.data.take t) [] HF.out s y (by rw[List.getElem?_take,if_pos ae]; exact hy);unfold cg at h1
    split at h1
    ·cases h1
    split at h1
    ·cases h1
    split at h1
    ·cases h1
    omega))
   clear HC HH HT hb HF
   by_cases ht0:t=0
   ·subst ht0;have hz:fF (m.data.take 0) pl=false:=rfl
    simp only[Nat.zero_mul,Nat.add_zero]at g0 g1;have qav:=hid (qav.out hz);have qau:=hid (qau.out hz);have HVN:=hid (HVN.out hz);clear HV18 hz rn
    by_cases h13:m.fi*4096-pl<(bl.length:Int)
    ·exact LU
    have d3:decide (m.fi*4096-pl<(bl.length:Int))=false:=by simpa using h13
    by_cases h17:bl.length=0
    ·exact Oj
    have HN:=hid (HVN.out h13 h17)
    have d4:((bl.length:Int)==0)=false:=by simpa using h17
    go_wp2_with fail
    go_quiet (fail)
    go_wp2_with fail
    exact⟨⟨0+1,ae,by first | rfl | go_num,HN,hid (pw.out _)⟩,bD⟩
   obtain⟨s,rfl⟩:∃s,t=s+1:=⟨t-1,ae⟩;clear ht0;obtain⟨y,hy⟩:=ZB m.data s ae;obtain⟨v0,v1⟩:=rn.out s y hy;have v0:=ai HBN.out v0;have v1:=ai HBN.out v1;obtain⟨⟨q0,q1⟩,q2,q3⟩:=HDR.out s y hy;have Up:=OP hy pl;have HYS:=hid hy;obtain⟨yp,⟨ya,yn,yc⟩,yl⟩:=y;dsimp only at *;subst q2;clear hy rn;obtain⟨b0,b1,b2⟩:=HYB.out s _ rfl HYS.out;dsimp only at b0 b1 b2;have hsum:wrap64 (yp+(yl.length:Int))=yp+(yl.length:Int):=dV;have hs2:(0:Int)<(s:Int)+1:=ae;have hsn:(s:Int)<(m.dn:Int):=ae
   by_cases h18:pl<=yp+(yl.length:Int)
   ·have HV:=hid (HV18.out (by rw[Up]; simpa using h18))
    have d2:decide (pl<=yp+(yl.length:Int))=true:=by simpa using h18
    clear HYB HYS Up;exact rZ
   have d2:decide (pl<=yp+(yl.length:Int))=false:=by simpa using h18
   have hz:fF (m.data.take (s+1)) pl=false:=by rw[Up]; simpa using h18
   have qav:=hid (qav.out hz);have qau:=hid (qau.out hz);have HVN:=hid (HVN.out hz);clear HV18 hz HYB HYS Up
   by_cases h13:m.fi*4096-pl<(bl.length:Int)
   ·exact LU
   have d3:decide (m.fi*4096-pl<(bl.length:Int))=false:=by simpa using h13
   by_cases h17:bl.length=0
   ·exact Oj
   have HN:=hid (HVN.out h13 h17)
   have d4:((bl.length:Int)==0)=false:=by simpa using h17
   go_wp2_with fail
   go_quiet (fail)
   go_wp2_with fail;exact⟨⟨s+1+1,ae,bu,HN,hid (pw.out _)⟩,bD⟩
  obtain rfl:t=m.dn:=ae
  have we:e7 m=0:=by rw[HE7.out]; have:=HF.out; rwa [jS dl]at this
  by_cases hh:64<m.en
  ·have HV:=hid (show orE (e7 m) (e8 m)=20 by
    have:e8 m=20:=by unfold e8 bG; rw[if_pos ae]
    rw[aM we,this])
   have hh':(64:Int)<(m.en:Int):=ae;exact EF
  have hh':¬(64:Int)<(m.en:Int):=ae;have HE8:=hid (show orE (e7 m) (e8 m)=bj (fun(ah:List Ex) x=>eI m.fn ah x) [] m.exps by rw[aM we]; unfold e8 bG; rw[if_neg ae]);clear we HE7 HF;go_wp2_with fail;clear m3 m5 m6 m7
  go_loopw [5,6,7] (fun ah i _ wr=>∃t:Nat,t<=m.en/\ah=.string (ahd (m.exps.take t))/\i=ZI t/\Hid (bj (fun(ah:List Ex) x=>eI m.fn ah x) [] (m.exps.take t)=0)/\Hid (Zx W0 wr)) (fun _ i _ _=>m.en-(intOf i).toNat)
  case atStart=>exact⟨0,Z5 _,rfl,rfl,hid rfl,HB⟩
  case round =>
   obtain⟨t,hte,rfl,rfl,HF,HB⟩:=hrel;obtain⟨m3,m5,m6,m7⟩:=HX.out _ HB.out
   by_cases hlt:t<m.en
   ·have hlt':(t:Int)<(m.en:Int):=ae;obtain⟨x,hx⟩:=ZB m.exps t ae;obtain⟨eb,eof,hea,hat⟩:=(HPE.out _ (FS.out.trans (HB.out.mono FS.out.size))).2.resolve_left ae;obtain⟨g0,g1⟩:=hat t x hx;obtain⟨⟨r0,r1⟩,r2⟩:=HER.out t x hx
    have HH:=hid (fun hne=>fY (fun(ah:List Ex) x=>eI m.fn ah x) m.exps t x hx HF.out hne);have HT:=hid (fun hz=>fV (fun(ah:List Ex) x=>eI m.fn ah x) m.exps t x hx HF.out hz);have HC:=hid (PL m.fn m.exps hx);have HNX:=hid (show ahd (m.exps.take (t+1))=x.1 by unfold ahd; rw[List.take_add_one,hx]; simp);have pw:=hid (fun(n:Nat)=>(show Zx W0 (wr.drewN n) from dY HB.out (Kept.drewN (fun _=>False) _ n) HB.out.size (fun _ x=>x.elim)));have HNM:=hid (fun(W:World)=>KN x.1 (ahd (m.exps.take t)) (decide (t=0)) W r2)
    have hdt:((t:Int)==0)=decide (t=0):=by
     by_cases h:t=0
     ·simp[h]
     simp[h]
    rw[hea]at m7
    try rw[hea]
    have It:(0:Int)<=(t:Int):=ae;clear hat hx HF;obtain⟨xs,xf⟩:=x;dsimp only at *;generalize ahd (m.exps.take t)=ah at *;generalize hd0:decide (t=0)=d0 at *;clear hd0
    by_cases z0:nmE xs ah d0=0
    rotate_left
    ·have HV:=hid (show orE (e7 m) (e8 m)=nmE xs ah d0 by
      have hc:=HC.out.trans (eo z0)
      rw[HE8.out,HH.out (by rw[hc]; exact z0),hc])
     generalize nmE xs ah d0=E at *;have hE:(E != 0)=true:=s9;go_wp2_with fail;refine(HNM.out _).mono ?_;exact sK
    rw[z0]at HNM;have HC2:=hid (HC.out.trans (aM z0));clear HC z0
    by_cases hb:xf<0\/(m.fn:Int)<=xf
    ·have HV:=hid (show orE (e7 m) (e8 m)=30 by
      have hc:=HC2.out;unfold cO at hc;rw[if_pos hb]at hc
      rw[HE8.out,HH.out jk,hc])
     by_cases h0:xf<0
     ·have dd:decide (xf<0)=true:=iJ;exact N3
     have dd:decide (xf<0)=false:=iJ;have d1:decide ((m.fn:Int)<=xf)=true:=aA;exact N3
    have HN:=hid (HT.out (by rw[HC2.out]; unfold cO; rw[if_neg hb]));have dd:decide (xf<0)=false:=aA;have d1:decide ((m.fn:Int)<=xf)=false:=aA;go_wp2_with fail;refine(HNM.out _).mono ?_;rintro e w1⟨rfl,hw⟩;have hw2:=hw.symm;subst hw2;go_wp2_with fail
    go_quiet (fail)
    go_wp2_with fail;exact⟨⟨t+1,ae,by rw[HNX.out],bu,HN,hid (pw.out _)⟩,bD⟩
   obtain rfl:t=m.en:=ae;have HV:=hid (show orE (e7 m) (e8 m)=0 by rw[HE8.out]; have:=HF.out; rwa [jS el]at this);exact ju
end
end Go.Proofs.YtheefojaplnnoaaGreatDoor
