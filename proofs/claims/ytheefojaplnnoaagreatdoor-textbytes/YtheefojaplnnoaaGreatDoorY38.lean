/-
  Texts Qk Ua Uc.
-/
import Derived.Test.YtheefojaplnnoaaGreatDoorY00
import Derived.Test.YtheefojaplnnoaaGreatDoorY20
import Derived.Test.YtheefojaplnnoaaGreatDoorY34
import Derived.Test.YtheefojaplnnoaaGreatDoorY37
set_option linter.unusedVariables false
set_option maxRecDepth 100000
set_option maxHeartbeats 16000000
namespace Go.Proofs.YtheefojaplnnoaaGreatDoor
open Go.RowKit
theorem NG(x y:InM)(w:World)(hs:td w x)(h:td w y)(hm:Kf x y) :
  Calls Tryz.prog 215 #[.agg #[.int .u8 y.1,.int .i64 y.2.1,.slice y.2.2.1.1 y.2.2.1.2.1 y.2.2.1.2.2],.agg #[.int .u8 x.1,.int .i64 x.2.1,.slice x.2.2.1.1 x.2.2.1.2.1 x.2.2.1.2.2]] w fun e w'=>e=.returned (.bool true)∧Below w.heap.size w w':=by
 obtain⟨c,a,⟨xa,xn,xc⟩,xl⟩:=x;obtain⟨c2,a2,⟨ya,n,yc⟩,l⟩:=y;unfold Kf at hm
 try dsimp only at *
 obtain⟨h1,h2,h3,h4⟩:=hm
 try dsimp only at *
 subst h1 h2 h3 h4;have hb:Below w.heap.size w ((w.alloc (aF c2 a2 ya n yc)).alloc (aF c2 a2 xa n xc)):=((Below.refl _ _).alloc (Nat.le_refl _) _).alloc ar _
 have HE:=hid (Ss ya xa n yc xc l _ (h.later hb).1 (hs.later hb).1 (by have:=hs.2; dsimp only at this; omega))
 have HB:=hid hb;have hcc:(c2==c2)=true:=ar;have haa:(a2==a2)=true:=ar;clear hs h hb
 go_enter Tryz.func215,Tryz.ntmps215
 exact Ax
theorem Sw(a1:Option Addr)(n c1:Nat)(a2:Option Addr)(c2:Nat)(ys xs:List InM)(w:World)(hn:n≤200000)(h:AtIn w a1 n ys)(hw:∀y∈ys,td w y)(h2:AtIn w a2 n xs)(hs:∀x∈xs,td w x)(hm:∀(j:Nat)x y,xs[j]? =some x→ys[j]? =some y→Kf x y) :
  Calls Tryz.prog 164 #[.slice a1 n c1,.slice a2 n c2] w fun e w'=>e=.returned (.bool true)∧Below w.heap.size w w':=by
 have hne:((n:Int) != n)=false:=ar;have H1:=hid h;have hl:=h.1;have H2:=hid h2;have HW:=hid hw;have HS:=hid hs;have HM:=hid hm;have hl2:=h2.1;clear h h2 hw hs hm
 go_enter Tryz.func164,Tryz.ntmps164
 go_wp2_with fail
 go_loopw [5] (fun p wr=>∃t:Nat,t≤n∧p=.int .i64 t∧Hid (Below w.heap.size w wr)) (fun p _=>n-(intOf p).toNat)
 case atStart=>exact⟨0,ae,rfl,hid (Below.refl _ _)⟩
 case round =>
  obtain⟨t,ht,rfl,HB⟩:=hrel
  by_cases hlt:t<n
  ·have hlt':(t:Int)<(n:Int):=ae;obtain⟨y,hy⟩:∃y,ys[t]? =some y:=⟨_,aO ae⟩;obtain⟨x,hx⟩:∃x,xs[t]? =some x:=⟨_,aO ae⟩;obtain⟨b1,o1,rfl,hat1⟩:=H1.out.2.resolve_left ae;obtain⟨b2,o2,rfl,hat2⟩:=H2.out.2.resolve_left ae;obtain⟨f0,f1,f2⟩:=hat1 t y hy;obtain⟨g0,g1,g2⟩:=hat2 t x hx
   have kd:Below wr.heap.size wr wr.drew:=(Kept.drewN (fun _=>False) wr 1).to_below (Nat.le_refl _) (fun _ _ x=>x)
   have hbd:=HB.out.trans (kd.mono HB.out.size)
   have HQ2:=hid ((NG x y wr.drew ((HS.out x (List.mem_of_getElem? hx)).later hbd) ((HW.out y (List.mem_of_getElem? hy)).later hbd) (HM.out t x y hx hy)).mono (fun e w' h=>(⟨h.1,kd.trans h.2⟩:e=.returned (.bool true)∧Below wr.heap.size wr w')))
   have HFA:=hid (fun(W:World) (hW:Below wr.heap.size wr W)=>(⟨az (HB.out.trans (hW.mono HB.out.size)) f0,az (HB.out.trans (hW.mono HB.out.size)) f1,az (HB.out.trans (hW.mono HB.out.size)) f2,az (HB.out.trans (hW.mono HB.out.size)) g0,az (HB.out.trans (hW.mono HB.out.size)) g1,az (HB.out.trans (hW.mono HB.out.size)) g2⟩:W.cell? ⟨b1,o1+t*3,none⟩=some (.int .u8 y.1)∧W.cell? ⟨b1,o1+t*3+1,none⟩=some (.int .i64 y.2.1)∧W.cell? ⟨b1,o1+t*3+2,none⟩=some (.slice y.2.2.1.1 y.2.2.1.2.1 y.2.2.1.2.2)∧W.cell? ⟨b2,o2+t*3,none⟩=some (.int .u8 x.1)∧W.cell? ⟨b2,o2+t*3+1,none⟩=some (.int .i64 x.2.1)∧W.cell? ⟨b2,o2+t*3+2,none⟩=some (.slice x.2.2.1.1 x.2.2.1.2.1 x.2.2.1.2.2)))
   obtain⟨v0,v1,v2,v3,v4,v5⟩:=HFA.out wr (Below.refl _ _);clear hat1 hat2 kd hbd f0 f1 f2 g0 g1 g2;go_wp2_with fail
   go_region_held3 (fun W=>W.cell? ⟨b1,o1+t*3,none⟩=some (.int .u8 y.1)∧W.cell? ⟨b1,o1+t*3+1,none⟩=some (.int .i64 y.2.1)∧W.cell? ⟨b1,o1+t*3+2,none⟩=some (.slice y.2.2.1.1 y.2.2.1.2.1 y.2.2.1.2.2)∧W.cell? ⟨b2,o2+t*3,none⟩=some (.int .u8 x.1)∧W.cell? ⟨b2,o2+t*3+1,none⟩=some (.int .i64 x.2.1)∧W.cell? ⟨b2,o2+t*3+2,none⟩=some (.slice x.2.2.1.1 x.2.2.1.2.1 x.2.2.1.2.2)) (go_keep)
    (first | (go_at_call 215; refine HQ2.out.mono ?_; rintro e w5⟨rfl,hb5⟩; obtain⟨t0,t1,t2,t3,t4,t5⟩:=HFA.out _ hb5; have HB5:=hid (HB.out.trans (hb5.mono HB.out.size)); clear hb5))
   exact uD
  ·exact qH
theorem M5(x y:DaM)(w:World)(hs:sL w x)(h:sL w y)(hm:Kv x y) :
  Calls Tryz.prog 105 #[.agg #[.int .i64 y.1,.slice y.2.1.1 y.2.1.2.1 y.2.1.2.2],.agg #[.int .i64 x.1,.slice x.2.1.1 x.2.1.2.1 x.2.1.2.2]] w fun e w'=>e=.returned (.bool true)∧Below w.heap.size w w':=by
 obtain⟨c,⟨xa,xn,xc⟩,xl⟩:=x;obtain⟨c2,⟨ya,n,yc⟩,l⟩:=y;unfold Kv at hm
 try dsimp only at *
 obtain⟨h1,h3,h4⟩:=hm
 try dsimp only at *
 subst h1 h3 h4;have hb:Below w.heap.size w ((w.alloc (aZ c2 ya n yc)).alloc (aZ c2 xa n xc)):=((Below.refl _ _).alloc (Nat.le_refl _) _).alloc ar _
 have HE:=hid (SJ ya xa n yc xc l _ (h.later hb).1 (hs.later hb).1 (by have:=hs.2; dsimp only at this; omega))
 have HB:=hid hb;have hcc:(c2==c2)=true:=ar;clear hs h hb
 go_enter Tryz.func105,Tryz.ntmps105
 exact Ax
theorem SK(a1:Option Addr)(n c1:Nat)(a2:Option Addr)(c2:Nat)(ys xs:List DaM)(w:World)(hn:n≤200000)(h:pF w a1 n ys)(hw:∀y∈ys,sL w y)(h2:pF w a2 n xs)(hs:∀x∈xs,sL w x)(hm:∀(j:Nat)x y,xs[j]? =some x→ys[j]? =some y→Kv x y) :
  Calls Tryz.prog 44 #[.slice a1 n c1,.slice a2 n c2] w fun e w'=>e=.returned (.bool true)∧Below w.heap.size w w':=by
 have hne:((n:Int) != n)=false:=ar;have H1:=hid h;have hl:=h.1;have H2:=hid h2;have HW:=hid hw;have HS:=hid hs;have HM:=hid hm;have hl2:=h2.1;clear h h2 hw hs hm
 go_enter Tryz.func44,Tryz.ntmps44
 go_wp2_with fail
 go_loopw [5] (fun p wr=>∃t:Nat,t≤n∧p=.int .i64 t∧Hid (Below w.heap.size w wr)) (fun p _=>n-(intOf p).toNat)
 case atStart=>exact⟨0,ae,rfl,hid (Below.refl _ _)⟩
 case round =>
  obtain⟨t,ht,rfl,HB⟩:=hrel
  by_cases hlt:t<n
  ·have hlt':(t:Int)<(n:Int):=ae;obtain⟨y,hy⟩:∃y,ys[t]? =some y:=⟨_,aO ae⟩;obtain⟨x,hx⟩:∃x,xs[t]? =some x:=⟨_,aO ae⟩;obtain⟨b1,o1,rfl,hat1⟩:=H1.out.2.resolve_left ae;obtain⟨b2,o2,rfl,hat2⟩:=H2.out.2.resolve_left ae;obtain⟨f0,f1⟩:=hat1 t y hy;obtain⟨g0,g1⟩:=hat2 t x hx
   have kd:Below wr.heap.size wr wr.drew:=(Kept.drewN (fun _=>False) wr 1).to_below (Nat.le_refl _) (fun _ _ x=>x)
   have hbd:=HB.out.trans (kd.mono HB.out.size)
   have HQ2:=hid ((M5 x y wr.drew ((HS.out x (List.mem_of_getElem? hx)).later hbd) ((HW.out y (List.mem_of_getElem? hy)).later hbd) (HM.out t x y hx hy)).mono (fun e w' h=>(⟨h.1,kd.trans h.2⟩:e=.returned (.bool true)∧Below wr.heap.size wr w')))
   have HFA:=hid (fun(W:World) (hW:Below wr.heap.size wr W)=>(⟨az (HB.out.trans (hW.mono HB.out.size)) f0,az (HB.out.trans (hW.mono HB.out.size)) f1,az (HB.out.trans (hW.mono HB.out.size)) g0,az (HB.out.trans (hW.mono HB.out.size)) g1⟩:W.cell? ⟨b1,o1+t*2,none⟩=some (.int .i64 y.1)∧W.cell? ⟨b1,o1+t*2+1,none⟩=some (.slice y.2.1.1 y.2.1.2.1 y.2.1.2.2)∧W.cell? ⟨b2,o2+t*2,none⟩=some (.int .i64 x.1)∧W.cell? ⟨b2,o2+t*2+1,none⟩=some (.slice x.2.1.1 x.2.1.2.1 x.2.1.2.2)))
   obtain⟨v0,v1,v2,v3⟩:=HFA.out wr (Below.refl _ _);clear hat1 hat2 kd hbd f0 f1 g0 g1;go_wp2_with fail
   go_region_held3 (fun W=>W.cell? ⟨b1,o1+t*2,none⟩=some (.int .i64 y.1)∧W.cell? ⟨b1,o1+t*2+1,none⟩=some (.slice y.2.1.1 y.2.1.2.1 y.2.1.2.2)∧W.cell? ⟨b2,o2+t*2,none⟩=some (.int .i64 x.1)∧W.cell? ⟨b2,o2+t*2+1,none⟩=some (.slice x.2.1.1 x.2.1.2.1 x.2.1.2.2)) (go_keep)
    (first | (go_at_call 105; refine HQ2.out.mono ?_; rintro e w5⟨rfl,hb5⟩; obtain⟨t0,t1,t2,t3⟩:=HFA.out _ hb5; have HB5:=hid (HB.out.trans (hb5.mono HB.out.size)); clear hb5))
   exact uD
  ·exact qH
theorem Lc(x y:FuM)(w:World)(hs:sI w x)(h:sI w y)(hm:Jv x y) :
  Calls Tryz.prog 104 #[.agg #[.int .i64 y.1,.string y.2.1,.slice y.2.2.1.1 y.2.2.1.2.1 y.2.2.1.2.2],.agg #[.int .i64 x.1,.string x.2.1,.slice x.2.2.1.1 x.2.2.1.2.1 x.2.2.1.2.2]] w fun e w'=>e=.returned (.bool true)∧Below w.heap.size w w':=by
 obtain⟨c,a,⟨xa,xn,xc⟩,xl⟩:=x;obtain⟨c2,a2,⟨ya,n,yc⟩,l⟩:=y;unfold Jv at hm
 try dsimp only at *
 obtain⟨h1,h2,h3,h5,h4⟩:=hm
 try dsimp only at *
 subst h1 h2 h3;have hb:Below w.heap.size w ((w.alloc (aR c2 a2 ya n yc)).alloc (aR c2 a2 xa n xc)):=((Below.refl _ _).alloc (Nat.le_refl _) _).alloc ar _;have HE:=hid (Sw ya n yc xa xc l xl _ (hs.later hb).2.1 (h.later hb).1 (h.later hb).2.2 (hs.later hb).1 (hs.later hb).2.2 h4);have HB:=hid hb;have hcc:(c2==c2)=true:=ar;have haa:(a2.toList==a2.toList)=true:=ar;clear hs h hb h5 h4
 go_enter Tryz.func104,Tryz.ntmps104
 exact Ax
theorem Sv(a1:Option Addr)(n c1:Nat)(a2:Option Addr)(c2:Nat)(ys xs:List FuM)(w:World)(hn:n≤200000)(h:oq w a1 n ys)(hw:∀y∈ys,sI w y)(h2:oq w a2 n xs)(hs:∀x∈xs,sI w x)(hm:∀(j:Nat)x y,xs[j]? =some x→ys[j]? =some y→Jv x y) :
  Calls Tryz.prog 43 #[.slice a1 n c1,.slice a2 n c2] w fun e w'=>e=.returned (.bool true)∧Below w.heap.size w w':=by
 have hne:((n:Int) != n)=false:=ar;have H1:=hid h;have hl:=h.1;have H2:=hid h2;have HW:=hid hw;have HS:=hid hs;have HM:=hid hm;have hl2:=h2.1;clear h h2 hw hs hm
 go_enter Tryz.func43,Tryz.ntmps43
 go_wp2_with fail
 go_loopw [5] (fun p wr=>∃t:Nat,t≤n∧p=.int .i64 t∧Hid (Below w.heap.size w wr)) (fun p _=>n-(intOf p).toNat)
 case atStart=>exact⟨0,ae,rfl,hid (Below.refl _ _)⟩
 case round =>
  obtain⟨t,ht,rfl,HB⟩:=hrel
  by_cases hlt:t<n
  ·have hlt':(t:Int)<(n:Int):=ae;obtain⟨y,hy⟩:∃y,ys[t]? =some y:=⟨_,aO ae⟩;obtain⟨x,hx⟩:∃x,xs[t]? =some x:=⟨_,aO ae⟩;obtain⟨b1,o1,rfl,hat1⟩:=H1.out.2.resolve_left ae;obtain⟨b2,o2,rfl,hat2⟩:=H2.out.2.resolve_left ae;obtain⟨f0,f1,f2⟩:=hat1 t y hy;obtain⟨g0,g1,g2⟩:=hat2 t x hx
   have kd:Below wr.heap.size wr wr.drew:=(Kept.drewN (fun _=>False) wr 1).to_below (Nat.le_refl _) (fun _ _ x=>x)
   have hbd:=HB.out.trans (kd.mono HB.out.size)
   have HQ2:=hid ((Lc x y wr.drew ((HS.out x (List.mem_of_getElem? hx)).later hbd) ((HW.out y (List.mem_of_getElem? hy)).later hbd) (HM.out t x y hx hy)).mono (fun e w' h=>(⟨h.1,kd.trans h.2⟩:e=.returned (.bool true)∧Below wr.heap.size wr w')))
   have HFA:=hid (fun(W:World) (hW:Below wr.heap.size wr W)=>(⟨az (HB.out.trans (hW.mono HB.out.size)) f0,az (HB.out.trans (hW.mono HB.out.size)) f1,az (HB.out.trans (hW.mono HB.out.size)) f2,az (HB.out.trans (hW.mono HB.out.size)) g0,az (HB.out.trans (hW.mono HB.out.size)) g1,az (HB.out.trans (hW.mono HB.out.size)) g2⟩:W.cell? ⟨b1,o1+t*3,none⟩=some (.int .i64 y.1)∧W.cell? ⟨b1,o1+t*3+1,none⟩=some (.string y.2.1)∧W.cell? ⟨b1,o1+t*3+2,none⟩=some (.slice y.2.2.1.1 y.2.2.1.2.1 y.2.2.1.2.2)∧W.cell? ⟨b2,o2+t*3,none⟩=some (.int .i64 x.1)∧W.cell? ⟨b2,o2+t*3+1,none⟩=some (.string x.2.1)∧W.cell? ⟨b2,o2+t*3+2,none⟩=some (.slice x.2.2.1.1 x.2.2.1.2.1 x.2.2.1.2.2)))
   obtain⟨v0,v1,v2,v3,v4,v5⟩:=HFA.out wr (Below.refl _ _);clear hat1 hat2 kd hbd f0 f1 f2 g0 g1 g2;go_wp2_with fail
   go_region_held3 (fun W=>W.cell? ⟨b1,o1+t*3,none⟩=some (.int .i64 y.1)∧W.cell? ⟨b1,o1+t*3+1,none⟩=some (.string y.2.1)∧W.cell? ⟨b1,o1+t*3+2,none⟩=some (.slice y.2.2.1.1 y.2.2.1.2.1 y.2.2.1.2.2)∧W.cell? ⟨b2,o2+t*3,none⟩=some (.int .i64 x.1)∧W.cell? ⟨b2,o2+t*3+1,none⟩=some (.string x.2.1)∧W.cell? ⟨b2,o2+t*3+2,none⟩=some (.slice x.2.2.1.1 x.2.2.1.2.1 x.2.2.1.2.2)) (go_keep)
    (first | (go_at_call 104; refine HQ2.out.mono ?_; rintro e w5⟨rfl,hb5⟩; obtain⟨t0,t1,t2,t3,t4,t5⟩:=HFA.out _ hb5; have HB5:=hid (HB.out.trans (hb5.mono HB.out.size)); clear hb5))
   exact uD
  ·exact qH
structure SmM(x y:MM):Prop where
 tn:y.tn=x.tn
 t:y.types=x.types
 hn:y.hn=x.hn
 h:y.hosts=x.hosts
 gn:y.gn=x.gn
 g:y.globals=x.globals
 i:y.fi=x.fi
 o:y.mo=x.mo
 fn:y.fn=x.fn
 f:∀(j:Nat)a b,x.fns[j]? =some a→y.fns[j]? =some b→Jv a b
 dn:y.dn=x.dn
 d:∀(j:Nat)a b,x.data[j]? =some a→y.data[j]? =some b→Kv a b
 en:y.en=x.en
 e:y.exps=x.exps
structure SQ(x y:MM)(w:World):Prop where
 pt:jf w y.ta x.tn x.types
 ph:mB w y.ha x.hn x.hosts
 pg:pL w y.ga x.gn x.globals
 pf:oq w y.fa x.fn y.fns
 fx:∀z∈y.fns,sI w z
 pd:pF w y.da x.dn y.data
 dx:∀z∈y.data,sL w z
 pe:pB w y.ea x.en x.exps
theorem SmM.at{x y:MM}(h:SmM x y){w:World}(hy:MSr w y):SQ x y w:=by
 refine⟨?_,?_,?_,?_,hy.fx,?_,hy.dx,?_⟩
 ·have:=hy.pt; rw[h.tn,h.t]at this; exact this
 ·have:=hy.ph; rw[h.hn,h.h]at this; exact this
 ·have:=hy.pg; rw[h.gn,h.g]at this; exact this
 ·have:=hy.pf; rw[h.fn]at this; exact this
 ·have:=hy.pd; rw[h.dn]at this; exact this
 ·have:=hy.pe; rw[h.en,h.e]at this; exact this
theorem Sl{m y:MM}{w:World}(hm:MSr w m)(hy:MSr w y)(hs:SmM m y) :
  Calls Tryz.prog 13 #[.agg (mV y),.agg (mV m)] w fun e w'=>e=.returned (.bool true)∧Below w.heap.size w w':=by
 have ev:mV y=#[.slice y.ta m.tn y.tc,.slice y.ha m.hn y.hc,.slice y.ga m.gn y.gc,.int .i64 m.fi,.int .i64 m.mo,.slice y.fa m.fn y.fc,.slice y.da m.dn y.dc,.slice y.ea m.en y.ec]:=by
  unfold mV;rw[hs.tn,hs.hn,hs.gn,hs.i,hs.o,hs.fn,hs.dn,hs.en]
 rw[ev];clear ev
 have HH:=hid (fun(W:World) (hb:Below w.heap.size w W)=>hs.at (hy.later hb))
 have HSF:=hid hs.f;have HSD:=hid hs.d
 have HM:=hid (fun(W:World) (hb:Below w.heap.size w W)=>hm.later hb)
 have B1:=ag w (cA y.ta m.tn y.tc y.ha m.hn y.hc y.ga m.gn y.gc m.fi m.mo y.fa m.fn y.fc y.da m.dn y.dc y.ea m.en y.ec);have B2:=ag (w.alloc (cA y.ta m.tn y.tc y.ha m.hn y.hc y.ga m.gn y.gc m.fi m.mo y.fa m.fn y.fc y.da m.dn y.dc y.ea m.en y.ec)) (cA m.ta m.tn m.tc m.ha m.hn m.hc m.ga m.gn m.gc m.fi m.mo m.fa m.fn m.fc m.da m.dn m.dc m.ea m.en m.ec);have b1:=au B2 (heap_alloc_new w (cA y.ta m.tn y.tc y.ha m.hn y.hc y.ga m.gn y.gc m.fi m.mo y.fa m.fn y.fc y.da m.dn y.dc y.ea m.en y.ec));have b2:((w.alloc (cA y.ta m.tn y.tc y.ha m.hn y.hc y.ga m.gn y.gc m.fi m.mo y.fa m.fn y.fc y.da m.dn y.dc y.ea m.en y.ec)).alloc (cA m.ta m.tn m.tc m.ha m.hn m.hc m.ga m.gn m.gc m.fi m.mo m.fa m.fn m.fc m.da m.dn m.dc m.ea m.en m.ec)).heap[w.heap.size+1]? =some (cA m.ta m.tn m.tc m.ha m.hn m.hc m.ga m.gn m.gc m.fi m.mo m.fa m.fn m.fc m.da m.dn m.dc m.ea m.en m.ec):=alloc_at ar;have B0:Below w.heap.size w ((w.alloc (cA y.ta m.tn y.tc y.ha m.hn y.hc y.ga m.gn y.gc m.fi m.mo y.fa m.fn y.fc y.da m.dn y.dc y.ea m.en y.ec)).alloc (cA m.ta m.tn m.tc m.ha m.hn m.hc m.ga m.gn m.gc m.fi m.mo m.fa m.fn m.fc m.da m.dn m.dc m.ea m.en m.ec)):=B1.trans (B2.mono ar)
 have HX:=hid (fun(W:World) (hb:Below ((w.alloc (cA y.ta m.tn y.tc y.ha m.hn y.hc y.ga m.gn y.gc m.fi m.mo y.fa m.fn y.fc y.da m.dn y.dc y.ea m.en y.ec)).alloc (cA m.ta m.tn m.tc m.ha m.hn m.hc m.ga m.gn m.gc m.fi m.mo m.fa m.fn m.fc m.da m.dn m.dc m.ea m.en m.ec)).heap.size ((w.alloc (cA y.ta m.tn y.tc y.ha m.hn y.hc y.ga m.gn y.gc m.fi m.mo y.fa m.fn y.fc y.da m.dn y.dc y.ea m.en y.ec)).alloc (cA m.ta m.tn m.tc m.ha m.hn m.hc m.ga m.gn m.gc m.fi m.mo m.fa m.fn m.fc m.da m.dn m.dc m.ea m.en m.ec)) W)=>(⟨az hb (ak b1),az hb (ak b1),az hb (ak b1),az hb (ak b1),az hb (ak b1),az hb (ak b1),az hb (ak b1),az hb (ak b1),az hb (ak b2),az hb (ak b2),az hb (ak b2),az hb (ak b2),az hb (ak b2),az hb (ak b2),az hb (ak b2),az hb (ak b2)⟩:W.cell? ⟨w.heap.size,0,none⟩=some (.slice y.ta m.tn y.tc)∧W.cell? ⟨w.heap.size,1,none⟩=some (.slice y.ha m.hn y.hc)∧W.cell? ⟨w.heap.size,2,none⟩=some (.slice y.ga m.gn y.gc)∧W.cell? ⟨w.heap.size,3,none⟩=some (.int .i64 m.fi)∧W.cell? ⟨w.heap.size,4,none⟩=some (.int .i64 m.mo)∧W.cell? ⟨w.heap.size,5,none⟩=some (.slice y.fa m.fn y.fc)∧W.cell? ⟨w.heap.size,6,none⟩=some (.slice y.da m.dn y.dc)∧W.cell? ⟨w.heap.size,7,none⟩=some (.slice y.ea m.en y.ec)∧W.cell? ⟨w.heap.size+1,0,none⟩=some (.slice m.ta m.tn m.tc)∧W.cell? ⟨w.heap.size+1,1,none⟩=some (.slice m.ha m.hn m.hc)∧W.cell? ⟨w.heap.size+1,2,none⟩=some (.slice m.ga m.gn m.gc)∧W.cell? ⟨w.heap.size+1,3,none⟩=some (.int .i64 m.fi)∧W.cell? ⟨w.heap.size+1,4,none⟩=some (.int .i64 m.mo)∧W.cell? ⟨w.heap.size+1,5,none⟩=some (.slice m.fa m.fn m.fc)∧W.cell? ⟨w.heap.size+1,6,none⟩=some (.slice m.da m.dn m.dc)∧W.cell? ⟨w.heap.size+1,7,none⟩=some (.slice m.ea m.en m.ec)))
 obtain⟨m0,m1,m2,m3,m4,m5,m6,m7,k0,k1,k2,k3,k4,k5,k6,k7⟩:=HX.out _ (Below.refl _ _);have HB0:=hid B0;have HBX:=hid (Below.refl ((w.alloc (cA y.ta m.tn y.tc y.ha m.hn y.hc y.ga m.gn y.gc m.fi m.mo y.fa m.fn y.fc y.da m.dn y.dc y.ea m.en y.ec)).alloc (cA m.ta m.tn m.tc m.ha m.hn m.hc m.ga m.gn m.gc m.fi m.mo m.fa m.fn m.fc m.da m.dn m.dc m.ea m.en m.ec)).heap.size ((w.alloc (cA y.ta m.tn y.tc y.ha m.hn y.hc y.ga m.gn y.gc m.fi m.mo y.fa m.fn y.fc y.da m.dn y.dc y.ea m.en y.ec)).alloc (cA m.ta m.tn m.tc m.ha m.hn m.hc m.ga m.gn m.gc m.fi m.mo m.fa m.fn m.fc m.da m.dn m.dc m.ea m.en m.ec)));have f1:(m.fi==m.fi)=true:=ar;have f2:(m.mo==m.mo)=true:=ar;clear hy hs hm B0 B1 B2 b1 b2
 show Calls Tryz.prog 13 #[.agg #[.slice y.ta m.tn y.tc,.slice y.ha m.hn y.hc,.slice y.ga m.gn y.gc,.int .i64 m.fi,.int .i64 m.mo,.slice y.fa m.fn y.fc,.slice y.da m.dn y.dc,.slice y.ea m.en y.ec],.agg #[.slice m.ta m.tn m.tc,.slice m.ha m.hn m.hc,.slice m.ga m.gn m.gc,.int .i64 m.fi,.int .i64 m.mo,.slice m.fa m.fn m.fc,.slice m.da m.dn m.dc,.slice m.ea m.en m.ec]] w _
 go_enter Tryz.func13,Tryz.ntmps13
 go_wp2_with fail
 refine(Su y.ta m.ta m.tn y.tc m.tc m.types _ (HH.out _ HB0.out).pt (HM.out _ HB0.out).pt (by have:=(HM.out _ HB0.out).tn; omega)).mono ?_
 rintro e w1⟨rfl,hb⟩;have HB1:=hid (HB0.out.trans (hb.mono HB0.out.size));have HBX:=hid (HBX.out.trans (hb.mono HBX.out.size));obtain⟨m0,m1,m2,m3,m4,m5,m6,m7,k0,k1,k2,k3,k4,k5,k6,k7⟩:=HX.out _ HBX.out;clear hb;go_wp2_with fail
 refine(Ss y.ha m.ha m.hn y.hc m.hc m.hosts _ (HH.out _ HB1.out).ph (HM.out _ HB1.out).ph (by have:=(HM.out _ HB1.out).hn; omega)).mono ?_
 rintro e w2⟨rfl,hb⟩;have HB2:=hid (HB1.out.trans (hb.mono HB1.out.size));have HBX:=hid (HBX.out.trans (hb.mono HBX.out.size));obtain⟨m0,m1,m2,m3,m4,m5,m6,m7,k0,k1,k2,k3,k4,k5,k6,k7⟩:=HX.out _ HBX.out;clear hb;go_wp2_with fail
 refine(Sy y.ga m.ga m.gn y.gc m.gc m.globals _ (HH.out _ HB2.out).pg (HM.out _ HB2.out).pg (by have:=(HM.out _ HB2.out).gn; omega)).mono ?_
 rintro e w3⟨rfl,hb⟩;have HB3:=hid (HB2.out.trans (hb.mono HB2.out.size));have HBX:=hid (HBX.out.trans (hb.mono HBX.out.size));obtain⟨m0,m1,m2,m3,m4,m5,m6,m7,k0,k1,k2,k3,k4,k5,k6,k7⟩:=HX.out _ HBX.out;clear hb;go_wp2_with fail;refine(Sv y.fa m.fn y.fc m.fa m.fc y.fns m.fns _ (HM.out _ HB3.out).fn (HH.out _ HB3.out).pf (HH.out _ HB3.out).fx (HM.out _ HB3.out).pf (HM.out _ HB3.out).fx HSF.out).mono ?_;rintro e w4⟨rfl,hb⟩;have HB4:=hid (HB3.out.trans (hb.mono HB3.out.size));have HBX:=hid (HBX.out.trans (hb.mono HBX.out.size));obtain⟨m0,m1,m2,m3,m4,m5,m6,m7,k0,k1,k2,k3,k4,k5,k6,k7⟩:=HX.out _ HBX.out;clear hb;go_wp2_with fail;refine(SK y.da m.dn y.dc m.da m.dc y.data m.data _ (HM.out _ HB4.out).dn (HH.out _ HB4.out).pd (HH.out _ HB4.out).dx (HM.out _ HB4.out).pd (HM.out _ HB4.out).dx HSD.out).mono ?_;rintro e w5⟨rfl,hb⟩;have HB5:=hid (HB4.out.trans (hb.mono HB4.out.size));have HBX:=hid (HBX.out.trans (hb.mono HBX.out.size));obtain⟨m0,m1,m2,m3,m4,m5,m6,m7,k0,k1,k2,k3,k4,k5,k6,k7⟩:=HX.out _ HBX.out;clear hb;go_wp2_with fail
 refine(SP y.ea m.ea m.en y.ec m.ec m.exps _ (HH.out _ HB5.out).pe (HM.out _ HB5.out).pe (by have:=(HM.out _ HB5.out).en; omega)).mono ?_
 rintro e w6⟨rfl,hb⟩;have HB6:=hid (HB5.out.trans (hb.mono HB5.out.size));have HBX:=hid (HBX.out.trans (hb.mono HBX.out.size));obtain⟨m0,m1,m2,m3,m4,m5,m6,m7,k0,k1,k2,k3,k4,k5,k6,k7⟩:=HX.out _ HBX.out;clear hb;go_wp2_with fail;go_ret;exact⟨rfl,HB6.out⟩
def wkM(b:Nat):MM :=
 { ta:=some ⟨b,0,none⟩,tn:=1,tc:=1,types:=[(⟨#[119]⟩,⟨#[]⟩)],ha:=none,hn:=0,hc:=0,hosts:=[],ga:=none,gn:=0,gc:=0,globals:=[],fi:=1,mo:=2,fa:=some ⟨b+1+1+1,0,none⟩,fn:=1,fc:=1,fns:=[(0,⟨#[108]⟩,(some ⟨b+1+1,0,none⟩,2,2),[(9,0,(some ⟨b+1,0,none⟩,2,2),[0,1]),(6,0,(none,0,0),[])])],da:=none,dn:=0,dc:=0,data:=[],ea:=none,en:=0,ec:=0,exps:=[] }
def wkP:PM:=⟨[(⟨#[119]⟩,⟨#[]⟩)],[],[],1,2,[(0,⟨#[108]⟩,[(9,0,[0,1]),(6,0,[])])],[],[]⟩
def wkT:ByteArray:=⟨#[102,108,97,103,111,110,10,116,121,112,101,32,119,32,45,62,32,45,10,109,101,109,111,114,121,32,49,32,50,10,102,117,110,99,32,48,32,108,10,32,32,98,114,116,97,98,108,101,32,48,32,49,10,32,32,101,110,100,10]⟩
def wkE:ByteArray:=⟨#[102,108,97,103,111,110,10,101,120,116,101,114,110]⟩
theorem N2(b:Nat):pl (wkM b)=wkP:=rfl
theorem zZ(b:Nat):dh (wkM b)=0:=ai
theorem QI(b:Nat):(⟨(iq (wkM b)).toArray⟩:ByteArray)=wkT:=ai
theorem P8(b:Nat):sQ (wkM b)=wkT:=by
 unfold sQ;rw[if_pos (zZ b)];exact QI b
theorem Km:bT 0 0 pm0 (bo wkT)=(7,some (6,wkP)):=ai
theorem Ez:bT 0 0 pm0 (bo wkE)=(2,none):=ai
theorem PN(b:Nat):LnM (wkM b):=⟨rfl,rfl,rfl,rfl,rfl,rfl⟩
structure kQ(b:Nat)(W:World):Prop where
 t:W.heap[b]? =some (aX ⟨#[119]⟩ ⟨#[]⟩)
 l:W.heap[b+1]? =some (.cells #[.int .i64 0,.int .i64 1] 3)
 c:W.heap[b+1+1]? =some (.cells #[.int .u8 9,.int .i64 0,.slice (some ⟨b+1,0,none⟩) 2 2,.int .u8 6,.int .i64 0,.slice none 0 0] 75)
 f:W.heap[b+1+1+1]? =some (aR 0 ⟨#[108]⟩ (some ⟨b+1+1,0,none⟩) 2 2)
theorem kQ.later{b:Nat}{W W':World}(h:kQ b W)(hb:Below W.heap.size W W'):kQ b W':=⟨au hb h.t,au hb h.l,au hb h.c,au hb h.f⟩
theorem kQ.sig{b:Nat}{W:World}(h:kQ b W):jf W (some ⟨b,0,none⟩) 1 [(⟨#[119]⟩,⟨#[]⟩)]:=by
 refine⟨rfl,.inr ⟨b,0,rfl,fun j x hj=>?_⟩⟩
 match j,hj with
 | 0,hj =>
  obtain rfl:=Option.some.inj hj;exact⟨ak h.t,ak h.t⟩
theorem kQ.fu{b:Nat}{W:World}(h:kQ b W):oq W (some ⟨b+1+1+1,0,none⟩) 1 (wkM b).fns:=by
 refine⟨rfl,.inr ⟨b+1+1+1,0,rfl,fun j x hj=>?_⟩⟩
 match j,hj with
 | 0,hj =>
  obtain rfl:=Option.some.inj hj;exact⟨ak h.f,ak h.f,ak h.f⟩
theorem kQ.ins{b:Nat}{W:World}(h:kQ b W):AtIn W (some ⟨b+1+1,0,none⟩) 2 [(9,0,(some ⟨b+1,0,none⟩,2,2),[0,1]),(6,0,(none,0,0),[])]:=by
 refine⟨rfl,.inr ⟨b+1+1,0,rfl,fun j x hj=>?_⟩⟩
 match j,hj with
 | 0,hj =>
  obtain rfl:=Option.some.inj hj;exact⟨ak h.c,ak h.c,ak h.c⟩
 | 1,hj =>
  obtain rfl:=Option.some.inj hj;exact⟨ak (i:=3) h.c,ak (i:=4) h.c,ak (i:=5) h.c⟩
theorem kQ.lab{b:Nat}{W:World}(h:kQ b W):mB W (some ⟨b+1,0,none⟩) 2 [0,1]:=by
 refine⟨rfl,.inr ⟨b+1,0,rfl,fun j x hj=>?_⟩⟩
 match j,hj with
 | 0,hj =>
  obtain rfl:=Option.some.inj hj;exact ak h.l
 | 1,hj =>
  obtain rfl:=Option.some.inj hj;exact ak (i:=1) h.l
theorem I3(W:World):mB W none 0 []:=⟨rfl,.inl rfl⟩
theorem kQ.sr{b:Nat}{W:World}(h:kQ b W):MSr W (wkM b):=by
 refine⟨h.sig,dO,⟨rfl,.inl rfl⟩,dO,⟨rfl,.inl rfl⟩,dO,h.fu,dO,?_,⟨rfl,.inl rfl⟩,dO,?_,⟨rfl,.inl rfl⟩,dO⟩
 ·intro x hx
  obtain rfl:x=(0,⟨#[108]⟩,(some ⟨b+1+1,0,none⟩,2,2),[(9,0,(some ⟨b+1,0,none⟩,2,2),[0,1]),(6,0,(none,0,0),[])]):=by simpa[wkM] using hx
  refine⟨h.ins,dO,fun y hy=>?_⟩
  simp only[List.mem_cons,List.not_mem_nil,or_false]at hy
  rcases hy with rfl | rfl
  ·exact⟨h.lab,dO⟩
  ·exact⟨I3 W,dO⟩
 ·intro x hx
  simp[wkM]at hx
theorem kQ.ok{b:Nat}{W:World}(h:kQ b W):∀R g,W.heap.size≤R→W.heap.size≤g→MOk W R g (wkM b):=by
 intro R g hR hg
 have far:∀(a:Option Addr),(∀b off cc,a=some ⟨b,off,cc⟩→b<W.heap.size)→Far W R g a:=fun a h b off cc hb=>by have:=h b off cc hb; omega
 have fn:Far W R g none:=far none (fun b off cc h=>cj)
 refine⟨h.sig,far _ (fun b off cc hh=>by cases hh; exact aJ h.t),⟨rfl,.inl rfl⟩,fn,fun j x hj=>vY,⟨rfl,.inl rfl⟩,fn,fun j x hj=>vY,dO,dO,dO,dO,h.fu,far _ (fun b off cc hh=>by cases hh; exact aJ h.f),?_,⟨rfl,.inl rfl⟩,fn,fun j x hj=>vY,⟨rfl,.inl rfl⟩,fn,fun j x hj=>vY⟩
 intro j x hj
 match j,hj with
 | 0,hj =>
  obtain rfl:=Option.some.inj hj
  refine⟨dO,h.ins,(far _ (fun b off cc hh=>by cases hh; exact aJ h.c)).nz _,fun i y hi=>?_⟩
  match i,hi with
  | 0,hi =>
   obtain rfl:=Option.some.inj hi
   refine⟨dO,dO,⟨rfl,dO,dO,fun z hz=>?_,.inr ⟨b+1,0,rfl,fun j hj=>?_⟩⟩,(far _ (fun b off cc hh=>by cases hh; exact aJ h.l)).nz _⟩
   ·simp only[List.mem_cons,List.not_mem_nil,or_false]at hz
    rcases hz with rfl | rfl <;> decide
   ·match j,hj with
    | 0,_=>exact ak h.l
    | 1,_=>exact ak (i:=1) h.l
  | 1,hi =>
   obtain rfl:=Option.some.inj hi
   exact⟨dO,dO,⟨rfl,Nat.zero_le _,Nat.zero_le _,fun z hz=>by simp at hz,.inl rfl⟩,fn.nz _⟩
theorem MZ(b:Nat):EG (wkM b):=by
 intro j x hj i y hi
 match j,hj with
 | 0,hj =>
  obtain rfl:=Option.some.inj hj
  match i,hi with
  | 0,hi =>
   obtain rfl:=Option.some.inj hi
   (try dsimp only); omega
  | 1,hi =>
   obtain rfl:=Option.some.inj hi
   (try dsimp only); omega
theorem AL{α β:Type}{f:α→β}{xs ys:List α}(h:xs.map f=ys.map f){j:Nat}{a b:α}(ha:xs[j]? =some a)(hb:ys[j]? =some b):f a=f b:=by
 have:=congrArg (fun l=>l[j]?) h
 simp only[List.getElem?_map,ha,hb,Option.map_some,Option.some.injEq]at this
 exact this
theorem QC{w w':World}{a b:InM}(h:plI a=plI b)(ha:td w a)(hb:td w' b):Kf a b:=by
 obtain⟨a1,a2,⟨aa,an,ac⟩,al⟩:=a;obtain⟨b1,b2,⟨ba,bn,bc⟩,bl⟩:=b;unfold plI at h;obtain⟨rfl,h⟩:=Prod.mk.inj h;obtain⟨rfl,rfl⟩:=Prod.mk.inj h;have h1:al.length=an:=ha.1.1;have h2:al.length=bn:=hb.1.1
 exact⟨rfl,rfl,by dsimp only; omega,rfl⟩
theorem PZ{w w':World}{a b:DaM}(h:plD a=plD b)(ha:sL w a)(hb:sL w' b):Kv a b:=by
 obtain⟨a1,⟨aa,an,ac⟩,al⟩:=a;obtain⟨b1,⟨ba,bn,bc⟩,bl⟩:=b;unfold plD at h;obtain⟨rfl,rfl⟩:=Prod.mk.inj h;have h1:al.length=an:=ha.1.1;have h2:al.length=bn:=hb.1.1
 exact⟨rfl,by dsimp only; omega,rfl⟩
theorem OE{w w':World}{a b:FuM}(h:plF a=plF b)(ha:sI w a)(hb:sI w' b):Jv a b:=by
 obtain⟨a1,a2,⟨aa,an,ac⟩,al⟩:=a;obtain⟨b1,b2,⟨ba,bn,bc⟩,bl⟩:=b;unfold plF at h;obtain⟨h1,h⟩:=Prod.mk.inj h;obtain⟨h2,h⟩:=Prod.mk.inj h;dsimp only at h1 h2 h;have l1:al.length=an:=ha.1.1;have l2:bl.length=bn:=hb.1.1
 have l3:al.length=bl.length:=by have:=congrArg List.length h; simpa using this
 refine⟨h1.symm,h2.symm,?_,l3.symm,fun j x y hx hy=>?_⟩
 ·dsimp only; omega
 ·exact QC (AL h hx hy) (ha.2.2 x (List.mem_of_getElem? hx)) (hb.2.2 y (List.mem_of_getElem? hy))
theorem R8{w w':World}{x y:MM}(h:pl x=pl y)(hx:MSr w x)(hy:MSr w' y):SmM x y:=by
 unfold pl at h;obtain⟨h1,h2,h3,h4,h5,h6,h7,h8⟩:=PM.mk.inj h;have lx:=hx.len;have ly:=hy.len
 have l6:x.fns.length=y.fns.length:=by have:=congrArg List.length h6; simpa using this
 have l7:x.data.length=y.data.length:=by have:=congrArg List.length h7; simpa using this
 refine⟨?_,h1.symm,?_,h2.symm,?_,h3.symm,h4.symm,h5.symm,?_,fun j a b ha hb=>?_,?_,fun j a b ha hb=>?_,?_,h8.symm⟩
 ·rw[ly.t,lx.t,h1]
 ·rw[ly.h,lx.h,h2]
 ·rw[ly.g,lx.g,h3]
 ·rw[ly.f,lx.f,l6]
 ·exact OE (AL h6 ha hb) (hx.fx a (List.mem_of_getElem? ha)) (hy.fx b (List.mem_of_getElem? hb))
 ·rw[ly.d,lx.d,l7]
 ·exact PZ (AL h7 ha hb) (hx.dx a (List.mem_of_getElem? ha)) (hy.dx b (List.mem_of_getElem? hb))
 ·rw[ly.e,lx.e,h8]
theorem RH{w:World}{a:Option Addr}{n c:Nat}{l:List Int}(h:jK w a n c l):mB w a n l:=by
 refine⟨h.1,?_⟩
 rcases h.2.2.2.2 with h0 | ⟨b,off,e,hc⟩
 ·exact .inl h0
 ·refine .inr ⟨b,off,e,fun j x hj=>?_⟩
  have hl:=aK hj;rw[h.1]at hl
  have:=hc j hl
  rw[List.getD_eq_getElem?_getD,hj]at this;exact this
theorem MOk.sr{w:World}{R g:Nat}{m:MM}(h:MOk w R g m)(hp:Pas m):MSr w m:=by
 have l:=h.len;have n1:=hp.nt;have n2:=hp.nh;have n3:=hp.ng;have n4:=hp.nf;have n5:=hp.nd;have n6:=hp.ne
 refine⟨h.pt,by rw[l.t]; omega,h.ph,by rw[l.h]; omega,h.pg,by rw[l.g]; omega,h.pf,by rw[l.f]; omega,fun x hx=>?_,h.pd,by rw[l.d]; omega,fun x hx=>?_,h.pe,by rw[l.e]; omega⟩
 ·obtain⟨j,hj⟩:=cU hx;have hf:=h.fr j x hj;have hq:=hp.fn j x hj
  refine⟨hf.2.1,?_,fun y hy=>?_⟩
  ·rw[← hf.2.1.1]; omega
  ·obtain⟨i,hi⟩:=cU hy;have hi1:=(hf.2.2.2 i y hi).2.2.1;have hc:=rO (hq.2.2.2.2.2 i y hi)
   exact⟨RH hi1,by rw[← hi1.1]; omega⟩
 ·obtain⟨j,hj⟩:=cU hx;have hd:=h.dr j x hj;have hq:=hp.da j x hj
  exact⟨wR.of hd.2.1,by rw[← hd.2.1.1]; omega⟩
end Go.Proofs.YtheefojaplnnoaaGreatDoor
