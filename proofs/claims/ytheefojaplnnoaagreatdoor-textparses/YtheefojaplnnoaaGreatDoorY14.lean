/-
  Texts Rj Rk Laid EnvM Da Ga Ja Gb Ha Jb.
-/
import Derived.Test.YtheefojaplnnoaaGreatDoorY13
import Derived.Test.YtheefojaplnnoaaGreatDoorCards
set_option linter.unusedVariables false
set_option maxRecDepth 100000
set_option maxHeartbeats 16000000
namespace Go.Proofs.YtheefojaplnnoaaGreatDoor
open Go.Proofs.Tryz
open Go.RowKit
theorem Oa(g:Nat)(bs:LIz)(n:Int)(w:World)(h:Buf w g bs.length bs.length (bs.map (ZU)))(hl:bs.length<=1000000000)(n0:0<=n)(n1:n<9223372036854775808) :
  Zw 210 #[ZL g bs.length bs.length,ZI n] w fun e w'=>∃y,e=.returned y/\Byt w' g y (bs++aw n)/\Below g w w':=by
 have SV:=hid (fun W=>ug n W n0 ae);have i3:=ay n;have hw:=dJ n n0 ae;have HO:=hid h;have hg:=h.lt;generalize aw n=U at *;obtain⟨i0,hi,hz0,hz1,hz2⟩:=Z0 Tryz.info5;have HI:=hid (And.intro hi (And.intro hz0 (And.intro hz1 hz2)));clear h hi hz0 hz1 hz2;go_enter func210,ntmps210
 go_wp2_with fail;refine(SV.out _).mono ?_;rintro e w4⟨ua,uc,rfl,hs4,be,hb4⟩;obtain⟨ub,uo,rfl,hcu⟩:=hs4.2.2.2.2.resolve_left ae;obtain⟨S4,B4⟩:=Zz hs4 hb4
 have O4:=hid (HO.out.kept (S:=fun _=>False) (bC hb4) (fun h=>h));clear hs4 hb4 SV be hcu
 go_wp2_with (at_builtin; (refine Et _ rfl (.tmp 5) (.tmp 8) 63 rfl i0 (ZU 0) underlying63 HI.out.1 HI.out.2.1 HI.out.2.2.1 HI.out.2.2.2 rfl g bs.length bs.length (bs.map (ZU)) rfl O4.out (ZA ub uo) U.length uc (U.map (ZU)) rfl av (lC S4.out _ rfl) (mL _) ae aP ae ?_; intro B cap w5 hr hk hB; have O5:=hid hr; have K5:=hid (And.intro hk hB); clear hr hk hB))
 go_ret;have hsz:=B4.out.size;refine⟨_,rfl,?_,(B4.out.mono (Nat.le_of_lt hg)).trans (K5.out.1.to_below (B:=g) ae (fun k hk e=>by have:k=g:=e; omega))⟩;have h1:=O5.out;rw[<- List.map_append]at h1;unfold Byt;rw[ZV];refine⟨h1.1,?_⟩
 rcases h1.2 with ⟨h2,_⟩ | ⟨q,cp,cur,h2,_,h3⟩
 ·cases h2
 refine .inr ⟨q,cp,cur,h2,?_,h3⟩;injection h2 with h2;injection h2 with h2;injection h2 with h2
 rcases K5.out.2 with h4 | h4 <;> omega
variable {w w':World}{F:Nat}{o:Obj}
theorem nK(hb:Zx w w')(h:w.heap[F]? =some o):w'.heap[F]? =some o:=by
 have hlt:F<w.heap.size:=by
  rcases Zae F w.heap.size with h1 | h1
  ·exact h1
  rw[Zaf h1]at h; cases h
 exact(hb.block F hlt).trans h
theorem Sm(m:MM)(w:World)(h0:fK m=0)(hm:MOk w w.heap.size w.heap.size m)(hex:∀(j:Nat)x,m.exps[j]? =some x->x.1.size<=2000000)(hdx:∀(j:Nat)x,m.data[j]? =some x->x.2.2.length<=1000000) :
  Zw 161 #[.agg (mV m)] w fun e w'=>∃y,e=.returned y/\Byt w' (w.heap.size+1) y (fw++qL m)/\Zx w w':=by
 obtain⟨E1,E2,E3,E4,E5,E6,E7,E8⟩:=Ef h0;have HM:=hid (fun(W:World) (hb:Zx w W)=>hm.later hb)
 have R4:0<=m.fi/\m.fi<=64:=by unfold e4 jK at E4; split at E4; cases E4; omega
 have R5:0<=m.mo/\m.mo<=64:=by unfold e5 jK at E5; split at E5; cases E5; omega
 have tl:=hm.pt.1;have hl:=hm.ph.1;have gl:=hm.pg.1;have fl:=hm.pf.1;have dl:=hm.pd.1;have el:=hm.pe.1;have a1:=(eP (enc:=bP) (M:=36) E1 (fun ah x hx=>iK x (eZ hx).1 (eZ hx).2.2.1)).1;have a2:=(eP (enc:=fun x=>aw x) (M:=10) E2 (fun ah x hx=>(ay x).2)).1;have a3:=(eP (enc:=dE) (M:=12) E3 (fun ah x hx=>lq x)).1;have a6:=(eP (enc:=cT) (M:=400000) E6 (fun ah x hx=>jE hx)).1;have a7:=(eP (enc:=dz) (M:=300000) E7 (fun ah x hx=>jG ae hx)).1;have a8:=(eP (enc:=eJ) (M:=60) E8 (fun ah x hx=>AZ hx)).1;have L1:=hid (fun(j:Nat) x (hj:m.types[j]? =some x)=>eZ (gY E1 j x hj));have M1:=hid (fun(j:Nat) x (hj:m.types[j]? =some x)=>iK x (L1.out j x hj).1 (L1.out j x hj).2.2.1);have L2:=hid (fun(j:Nat) x (hj:m.hosts[j]? =some x)=>(show 0<=x/\x<9223372036854775808 by have h1:=gY E2 j x hj; unfold cO at h1; split at h1; cases h1; omega));have M2:=hid (fun(j:Nat) x (hj:m.hosts[j]? =some x)=>(ay x).2);have L3:=hid (fun(j:Nat) x (hj:m.globals[j]? =some x)=>(gY E3 j x hj:fe x=0));have M3:=hid (fun(j:Nat) x (hj:m.globals[j]? =some x)=>lq x);have L6:=hid (fun(j:Nat) x (hj:m.fns[j]? =some x)=>gY E6 j x hj);have M6:=hid (fun(j:Nat) x (hj:m.fns[j]? =some x)=>jE (gY E6 j x hj));have L7:=hid (fun(j:Nat) x (hj:m.data[j]? =some x)=>(gY E7 j x hj:cg (m.fi*4096) (m.data.take j) x=0));have M7:=hid (fun(j:Nat) x (hj:m.data[j]? =some x)=>jG ae (L7.out j x hj));have L8:=hid (fun(j:Nat) x (hj:m.exps[j]? =some x)=>(gY E8 j x hj:eI m.fn (m.exps.take j) x=0));have M8:=hid (fun(j:Nat) x (hj:m.exps[j]? =some x)=>AZ (L8.out j x hj));obtain⟨HEX,HDX⟩:=Zz hex hdx;have B0:=aj w (.cells (mV m) 29);have b0:=hZn w (.cells (mV m) 29);have HW:w.alloc (bM m.ta m.tn m.tc m.ha m.hn m.hc m.ga m.gn m.gc m.fi m.mo m.fa m.fn m.fc m.da m.dn m.dc m.ea m.en m.ec)=w.alloc (.cells (mV m) 29):=rfl;have hW0:(w.alloc (.cells (mV m) 29)).heap.size=w.heap.size+1:=av;clear E1 E2 E3 E4 E5 E6 E7 E8 h0 hm hex hdx;generalize w.alloc (.cells (mV m) 29)=W0 at *;have FS:=hid B0;have HX:=hid (fun(W:World) (hb:Zx W0 W)=>(⟨ai hb (ag b0),ai hb (ag b0),ai hb (ag b0),ai hb (ag b0),ai hb (ag b0),ai hb (ag b0),ai hb (ag b0),ai hb (ag b0)⟩:W.cell? (ZA w.heap.size 0)=some (.slice m.ta m.tn m.tc)/\W.cell? (ZA w.heap.size 1)=some (.slice m.ha m.hn m.hc)/\W.cell? (ZA w.heap.size 2)=some (.slice m.ga m.gn m.gc)/\W.cell? (ZA w.heap.size 3)=some (ZI m.fi)/\W.cell? (ZA w.heap.size 4)=some (ZI m.mo)/\W.cell? (ZA w.heap.size 5)=some (.slice m.fa m.fn m.fc)/\W.cell? (ZA w.heap.size 6)=some (.slice m.da m.dn m.dc)/\W.cell? (ZA w.heap.size 7)=some (.slice m.ea m.en m.ec)));obtain⟨m0,m1,m2,m3,m4,m5,m6,m7⟩:=HX.out W0 (ZT _ _);have HZ:=hid hW0;clear B0 b0 hW0;show Zw 161 #[.agg #[.slice m.ta m.tn m.tc,.slice m.ha m.hn m.hc,.slice m.ga m.gn m.gc,ZI m.fi,ZI m.mo,.slice m.fa m.fn m.fc,.slice m.da m.dn m.dc,.slice m.ea m.en m.ec]] w _;have hcv:=Go.Lib.run_convert_bytes_const (P:=prog) W0 63 5 #[ZU 70,ZU 76,ZU 71,ZU 78,ZU 1] 5 5 underlying63 underlying5;have HB:=hid (aj W0 (.cells #[ZU 70,ZU 76,ZU 71,ZU 78,ZU 1] 5 (5,6)))
 have HBF:Hid (Buf (W0.alloc (.cells #[ZU 70,ZU 76,ZU 71,ZU 78,ZU 1] 5 (5,6))) W0.heap.size fw.length fw.length (fw.map (ZU))):=hid (.inr ⟨rfl,au,av,rfl,fun j u hj=>by
  have hbk:(W0.alloc (.cells #[ZU 70,ZU 76,ZU 71,ZU 78,ZU 1] 5 (5,6))).heap[W0.heap.size]? =some (.cells #[ZU 70,ZU 76,ZU 71,ZU 78,ZU 1] 5 (5,6)):=hZn W0 _;rw[cell_of_row _ _ j _ 5 (5,6) hbk]
  rw[<- hj,<- Array.getElem?_toList]; rfl⟩)
 obtain⟨m0,m1,m2,m3,m4,m5,m6,m7⟩:=HX.out _ HB.out;have hs0:(#[ZU 70,ZU 76,ZU 71,ZU 78,ZU 1]:AVz).size=5:=rfl;go_enter func161,ntmps161
 go_wp2_with fail;refine(Oa W0.heap.size fw (m.tn:Int) _ HBF.out au ae ae).mono ?_;rintro e w0⟨y0,rfl,hby,hbb⟩
 replace HB:=hid (HB.out.trans hbb);have BY:=hid hby;clear hby hbb HBF hcv;obtain⟨m0,m1,m2,m3,m4,m5,m6,m7⟩:=HX.out _ HB.out;have i3:=ay (m.tn:Int)
 have hl0:(fw++aw (m.tn:Int)).length<=15:=by rw[ZV]; show 5+_<=15; omega
 obtain⟨P0,OK⟩:∃X,fw++aw (m.tn:Int)=X:=⟨_,rfl⟩;rw[OK]at BY hl0;have Ln:=hid OK;clear OK i3;go_wp2_with fail;clear m0 m1 m2 m3 m4 m5 m6 m7
 go_loopw [3,4] (fun b i wr=>∃t:Nat,t<=m.tn/\i=ZI t/\Hid (Byt wr W0.heap.size b (P0++(m.types.take t).flatMap bP))/\Hid (Zx W0 wr)) (fun _ i _=>m.tn-(intOf i).toNat)
 case atStart=>exact⟨0,Z5 _,rfl,hid o8,HB⟩
 case round =>
  clear BY HB;obtain⟨t,ht,rfl,BY,HB⟩:=hrel;obtain⟨m0,m1,m2,m3,m4,m5,m6,m7⟩:=HX.out _ HB.out;have hfl:=cU bP 36 (m.types.take t) (fun j y hj=>M1.out j y q9);have hft:(m.types.take t).length<=64:=ot;have ee:(P0++(m.types.take t).flatMap bP).length<=2319:=gw;clear hfl hft
  by_cases hlt:t<m.tn
  ·have hlt':(t:Int)<(m.tn:Int):=ae;obtain⟨x,hx⟩:=ZB m.types t ae;have It:(0:Int)<=(t:Int):=ae;have HFS:=hid (lZ bP hx);obtain⟨bb,oS,kb,hat⟩:=(HM.out W0 FS.out).pt.2.resolve_left ae;obtain⟨e0,e1⟩:=hat t x hx
   have HG:=hid (fun(W:World) (hb:Zx W0 W)=>(⟨ai hb e0,ai hb e1⟩:W.cell? (ZA bb (oS+t*2))=some (.string x.1)/\W.cell? (ZA bb (oS+t*2+1))=some (.string x.2)));have Is:=hid (fun(W:World) (hb:Zx W0 W)=>(show W.cell? (ZA w.heap.size 0)=some (.slice (some (ZA bb oS)) m.tn m.tc) by have h1:=HX.out W hb; rw[kb]at h1; exact h1.1));clear hat m0;have m0:=Is.out _ HB.out;obtain⟨g0,g1⟩:=HG.out _ HB.out
   try rw[kb]
   generalize hR:P0++(m.types.take t).flatMap bP=R at *;have HR:=hid hR;clear hR;obtain⟨q1,-,q2,-,-⟩:=L1.out t x hx;have u1:=(ek x.1 8 q1).2;have u2:=(ek x.2 8 q2).2;clear hx;go_wp2_with fail;refine(Ah x.1 _ ae).mono ?_;rintro e wt⟨ua,uc,rfl,hs4,be,hb4⟩;obtain⟨S4,N4⟩:=Zz hs4 be;replace BY:=hid (bE BY.out hb4);replace HB:=Zy HB hb4;clear hs4 be hb4;have m0:=Is.out _ HB.out;obtain⟨g0,g1⟩:=HG.out _ HB.out
   go_wp2_with (at_builtin; (refine eU _ rfl (.tmp 29) (.tmp 36) rfl W0.heap.size _ (R) rfl BY.out _ _ (gz x.1) rfl S4.out N4.out jf HB.out.size ?_; intro v5 w5 As AI bm; skip; replace BY:=hid As; replace HB:=hid (HB.out.trans AI); clear As AI bm; have m0:=Is.out _ HB.out; obtain⟨g0,g1⟩:=HG.out _ HB.out))
   refine(Ah x.2 _ ae).mono ?_;rintro e wt⟨ua,uc,rfl,hs4,be,hb4⟩;obtain⟨S4,N4⟩:=Zz hs4 be;replace BY:=hid (bE BY.out hb4);replace HB:=Zy HB hb4;clear hs4 be hb4;have m0:=Is.out _ HB.out;obtain⟨g0,g1⟩:=HG.out _ HB.out
   go_wp2_with (at_builtin; (refine eU _ rfl (.tmp 38) (.tmp 45) rfl W0.heap.size _ (R++gz x.1) rfl BY.out _ _ (gz x.2) rfl S4.out N4.out jf HB.out.size ?_; intro v5 w5 As AI bm; skip; replace BY:=hid As; replace HB:=hid (HB.out.trans AI); clear As AI bm; skip))
   exact⟨⟨t+1,ae,bu,hid (by rw[HFS.out,<- Z2,HR.out]; unfold bP; rw[<- Z2]; exact BY.out),HB⟩,bD⟩
  obtain rfl:t=m.tn:=ae;have Up:m.types.take m.tn=m.types:=ZY ae;rw[Up]at BY ee;clear Up;obtain⟨P1,OK⟩:∃X,P0++m.types.flatMap bP=X:=⟨_,rfl⟩;rw[OK]at BY ee;have HQ1:=hid OK;clear OK;have mm:=ee;clear ee;go_wp2_with fail;refine(gM W0.heap.size _ P1 ((m.hn:Int)) _ BY.out HB.out.size ae ae ae).mono ?_;rintro e wp2⟨yp2,rfl,hby,hbb,hkb⟩;replace HB:=hid (HB.out.trans hbb);replace BY:=hid hby;obtain⟨m0,m1,m2,m3,m4,m5,m6,m7⟩:=HX.out _ HB.out;clear hby hbb hkb;have i3:=ay ((m.hn:Int));have kc:(P1++aw ((m.hn:Int))).length<=2329:=gw;obtain⟨P3,OK⟩:∃X,P1++aw ((m.hn:Int))=X:=⟨_,rfl⟩;rw[OK]at BY kc;have HQ3:=hid OK;clear OK;have hl3:=kc;clear kc;clear i3;go_wp2_with fail;clear m0 m1 m2 m3 m4 m5 m6 m7
  go_loopw [3,5] (fun b i wr=>∃t:Nat,t<=m.hn/\i=ZI t/\Hid (Byt wr W0.heap.size b (P3++(m.hosts.take t).flatMap (fun x=>aw x)))/\Hid (Zx W0 wr)) (fun _ i _=>m.hn-(intOf i).toNat)
  case atStart=>exact⟨0,Z5 _,rfl,hid o8,HB⟩
  case round =>
   clear BY HB;obtain⟨t,ht,rfl,BY,HB⟩:=hrel;obtain⟨m0,m1,m2,m3,m4,m5,m6,m7⟩:=HX.out _ HB.out;have hfl:=cU (fun x=>aw x) 10 (m.hosts.take t) (fun j y hj=>M2.out j y q9);have hft:(m.hosts.take t).length<=32:=ot;have ee:(P3++(m.hosts.take t).flatMap (fun x=>aw x)).length<=2649:=gw;clear hfl hft
   by_cases hlt:t<m.hn
   ·have hlt':(t:Int)<(m.hn:Int):=ae;obtain⟨x,hx⟩:=ZB m.hosts t ae;have It:(0:Int)<=(t:Int):=ae
    have HFS:=hid (lZ (fun x=>aw x) hx);obtain⟨bb,oS,kb,hat⟩:=(HM.out W0 FS.out).ph.2.resolve_left ae;have e0:=hat t x hx;have HG:=hid (fun(W:World) (hb:Zx W0 W)=>ai hb e0);have Is:=hid (fun(W:World) (hb:Zx W0 W)=>(show W.cell? (ZA w.heap.size 1)=some (.slice (some (ZA bb oS)) m.hn m.hc) by have h1:=HX.out W hb; rw[kb]at h1; exact h1.2.1));clear hat m1;have m1:=Is.out _ HB.out;have g0:=HG.out _ HB.out
    try rw[kb]
    generalize hR:P3++(m.hosts.take t).flatMap (fun x=>aw x)=R at *;have HR:=hid hR;clear hR;obtain⟨q1,q2⟩:=L2.out t x hx;clear hx;go_wp2_with fail;refine(gM W0.heap.size _ R (x) _ BY.out HB.out.size ae q1 q2).mono ?_;rintro e wp4⟨yp4,rfl,hby,hbb,hkb⟩;replace HB:=hid (HB.out.trans hbb);replace BY:=hid hby;obtain⟨m0,m1,m2,m3,m4,m5,m6,m7⟩:=HX.out _ HB.out;clear hby hbb hkb;go_wp2_with fail;exact⟨⟨t+1,ae,bu,hid (by rw[HFS.out,<- Z2,HR.out]; exact BY.out),HB⟩,bD⟩
   obtain rfl:t=m.hn:=ae;have Up:m.hosts.take m.hn=m.hosts:=ZY ae;rw[Up]at BY ee;clear Up;obtain⟨P5,OK⟩:∃X,P3++m.hosts.flatMap (fun x=>aw x)=X:=⟨_,rfl⟩;rw[OK]at BY ee;have HQ5:=hid OK;clear OK;have hl5:=ee;clear ee;go_wp2_with fail;refine(gM W0.heap.size _ P5 ((m.gn:Int)) _ BY.out HB.out.size ae ae ae).mono ?_;rintro e wp6⟨yp6,rfl,hby,hbb,hkb⟩;replace HB:=hid (HB.out.trans hbb);replace BY:=hid hby;obtain⟨m0,m1,m2,m3,m4,m5,m6,m7⟩:=HX.out _ HB.out;clear hby hbb hkb;have i3:=ay ((m.gn:Int));have kc:(P5++aw ((m.gn:Int))).length<=2659:=gw;obtain⟨P7,OK⟩:∃X,P5++aw ((m.gn:Int))=X:=⟨_,rfl⟩;rw[OK]at BY kc;have HQ7:=hid OK;clear OK;have hl7:=kc;clear kc;clear i3;go_wp2_with fail;clear m0 m1 m2 m3 m4 m5 m6 m7
   go_loopw [3,6] (fun b i wr=>∃t:Nat,t<=m.gn/\i=ZI t/\Hid (Byt wr W0.heap.size b (P7++(m.globals.take t).flatMap dE))/\Hid (Zx W0 wr)) (fun _ i _=>m.gn-(intOf i).toNat)
   case atStart=>exact⟨0,Z5 _,rfl,hid o8,HB⟩
   case round =>
    clear BY HB;obtain⟨t,ht,rfl,BY,HB⟩:=hrel;obtain⟨m0,m1,m2,m3,m4,m5,m6,m7⟩:=HX.out _ HB.out;have hfl:=cU dE 12 (m.globals.take t) (fun j y hj=>M3.out j y q9);have hft:(m.globals.take t).length<=64:=ot;have ee:(P7++(m.globals.take t).flatMap dE).length<=3427:=gw;clear hfl hft
    by_cases hlt:t<m.gn
    ·have hlt':(t:Int)<(m.gn:Int):=ae;obtain⟨x,hx⟩:=ZB m.globals t ae;have It:(0:Int)<=(t:Int):=ae;have HFS:=hid (lZ dE hx);obtain⟨bb,oS,kb,hat⟩:=(HM.out W0 FS.out).pg.2.resolve_left ae;obtain⟨e0,e1,e2⟩:=hat t x hx
     have HG:=hid (fun(W:World) (hb:Zx W0 W)=>(⟨ai hb e0,ai hb e1,ai hb e2⟩:W.cell? (ZA bb (oS+t*3))=some (ZU x.1)/\W.cell? (ZA bb (oS+t*3+1))=some (.bool x.2.1)/\W.cell? (ZA bb (oS+t*3+2))=some (.int .u64 x.2.2)));have Is:=hid (fun(W:World) (hb:Zx W0 W)=>(show W.cell? (ZA w.heap.size 2)=some (.slice (some (ZA bb oS)) m.gn m.gc) by have h1:=HX.out W hb; rw[kb]at h1; exact h1.2.2.1));clear hat m2;have m2:=Is.out _ HB.out;obtain⟨g0,g1,g2⟩:=HG.out _ HB.out
     try rw[kb]
     generalize hR:P7++(m.globals.take t).flatMap dE=R at *;have HR:=hid hR;clear hR;obtain⟨r0,r1,r2,r3⟩:=(HM.out W0 FS.out).gr t x hx;have jj:=L3.out t x hx
     have hfi:x.1=119->x.2.2<4294967296:=fun h=>by
      have h3:ib x.2.2 x.1=true:=by unfold fe at jj; split at jj; cases jj; split at jj; cases jj; rename_i h3; simpa using h3
      rw[h]at h3; simpa[ib] using h3
     have A':=hid (fun(W:World)=>JM x W r2 r3 hfi)
     have hsr:-9223372036854775808<=sgn x.1 x.2.2/\sgn x.1 x.2.2<9223372036854775808:=by
      unfold sgn
      split
      ·split
       ·split <;> omega
       omega
      split <;> omega
     have HSV:=hid (fun(W:World)=>L4 (sgn x.1 x.2.2) W hsr.1 hsr.2);have i3:=ay (fo (sgn x.1 x.2.2));have HEN:=hid (show dE x=[x.1,if x.2.1 then 1 else 0]++aw (fo (sgn x.1 x.2.2)) from rfl);clear hx jj hfi hsr r2 r3;obtain⟨xc,xm,xv⟩:=x;dsimp only at *;generalize sgn xc xv=sv at *;generalize aw (fo sv)=U at *;have S1:=hid (fun(W:World)(b:Nat) (h:W.cell? (ZA b 0)=some (ZU xc))=>DW h r0 r1)
     cases xm with
     | true =>
      have BN:=aj wr (aZ xc true xv);have bf:=hZn wr (aZ xc true xv);have B2:=aj (wr.alloc (aZ xc true xv)) (eK xc);have hz1:(wr.alloc (aZ xc true xv)).heap.size=wr.heap.size+1:=av;have c1:((wr.alloc (aZ xc true xv)).alloc (eK xc)).cell? (ZA (wr.heap.size+1) 0)=some (ZU xc):=I5;have S4:=hid (S1.out _ _ c1);have N4:=hid (fun(h:some ((ZA (wr.heap.size+1) 0):Addr)=none)=>(show(1:Nat)=0 by cases h));replace BY:=hid (bE (bE BY.out BN) B2);replace HB:=hid ((HB.out.trans (BN.mono HB.out.size)).trans (B2.mono (HB.out.trans (BN.mono HB.out.size)).size));have BF:=hid (nK B2 bf);clear BN B2 bf c1 hz1
      go_wp2_with (at_builtin; first | (refine eU _ rfl (.tmp 83) (.tmp 86) rfl W0.heap.size _ (R) rfl BY.out _ _ ([xc]) rfl S4.out N4.out jf HB.out.size ?_; intro v5 w5 As AI bm; replace BF:=hid (jZ BF.out au BY.out bm); replace BY:=hid As; replace HB:=hid (HB.out.trans AI); clear As AI bm; have k0:=iz0 BF.out; have k1:=iz1 BF.out; have k2:=iz2 BF.out) | (have BN:=aj w5 (eK 1); have c1:(w5.alloc (eK 1)).cell? (ZA w5.heap.size 0)=some (ZU 1):=ag (hZn _ _); replace BY:=hid (bE BY.out BN); replace HB:=Zy HB BN; replace BF:=hid (nK BN BF.out); refine eU _ rfl (.tmp 90) (.tmp 91) rfl W0.heap.size _ (R++[xc]) rfl BY.out _ _ ([1]) rfl (DW c1 ae ae) (fun h=>bS) jf HB.out.size ?_; intro v6 w6 As AI bm; replace BF:=hid (jZ BF.out au BY.out bm); replace BY:=hid As; replace HB:=hid (HB.out.trans AI); clear As AI bm; have k0:=iz0 BF.out; have k1:=iz1 BF.out; have k2:w6.cell? (ZA wr.heap.size 2)=some (.int .u64 xv):=ag BF.out))
      refine(A'.out _).mono ?_;rintro e w8⟨rfl,X'⟩;replace BY:=hid (bE BY.out X');replace HB:=Zy HB X';clear X' k0 k1 k2;go_wp2_with fail;refine(HSV.out _).mono ?_;rintro e w9⟨ua,uc,rfl,hs4,be,hb4⟩;obtain⟨S4,N4⟩:=Zz hs4 be;replace BY:=hid (bE BY.out hb4);replace HB:=Zy HB hb4;clear hs4 be hb4
      go_wp2_with (at_builtin; (refine eU _ rfl (.tmp 96) (.tmp 99) rfl W0.heap.size _ (R++[xc]++[1]) rfl BY.out _ _ (U) rfl S4.out N4.out jf HB.out.size ?_; intro v5 w5 As AI bm; replace BY:=hid As; replace HB:=hid (HB.out.trans AI); clear As AI bm))
      exact La
     | false =>
      have BN:=aj wr (aZ xc false xv);have bf:=hZn wr (aZ xc false xv);have B2:=aj (wr.alloc (aZ xc false xv)) (eK xc);have hz1:(wr.alloc (aZ xc false xv)).heap.size=wr.heap.size+1:=av;have c1:((wr.alloc (aZ xc false xv)).alloc (eK xc)).cell? (ZA (wr.heap.size+1) 0)=some (ZU xc):=I5;have S4:=hid (S1.out _ _ c1);have N4:=hid (fun(h:some ((ZA (wr.heap.size+1) 0):Addr)=none)=>(show(1:Nat)=0 by cases h));replace BY:=hid (bE (bE BY.out BN) B2);replace HB:=hid ((HB.out.trans (BN.mono HB.out.size)).trans (B2.mono (HB.out.trans (BN.mono HB.out.size)).size));have BF:=hid (nK B2 bf);clear BN B2 bf c1 hz1
      go_wp2_with (at_builtin; first | (refine eU _ rfl (.tmp 83) (.tmp 86) rfl W0.heap.size _ (R) rfl BY.out _ _ ([xc]) rfl S4.out N4.out jf HB.out.size ?_; intro v5 w5 As AI bm; replace BF:=hid (jZ BF.out au BY.out bm); replace BY:=hid As; replace HB:=hid (HB.out.trans AI); clear As AI bm; have k0:=iz0 BF.out; have k1:=iz1 BF.out; have k2:=iz2 BF.out) | (have BN:=aj w5 (eK 0); have c1:(w5.alloc (eK 0)).cell? (ZA w5.heap.size 0)=some (ZU 0):=ag (hZn _ _); replace BY:=hid (bE BY.out BN); replace HB:=Zy HB BN; replace BF:=hid (nK BN BF.out); refine eU _ rfl (.tmp 93) (.tmp 94) rfl W0.heap.size _ (R++[xc]) rfl BY.out _ _ ([0]) rfl (DW c1 ae ae) (fun h=>bS) jf HB.out.size ?_; intro v6 w6 As AI bm; replace BF:=hid (jZ BF.out au BY.out bm); replace BY:=hid As; replace HB:=hid (HB.out.trans AI); clear As AI bm; have k0:=iz0 BF.out; have k1:=iz1 BF.out; have k2:w6.cell? (ZA wr.heap.size 2)=some (.int .u64 xv):=ag BF.out))
      refine(A'.out _).mono ?_;rintro e w8⟨rfl,X'⟩;replace BY:=hid (bE BY.out X');replace HB:=Zy HB X';clear X' k0 k1 k2;go_wp2_with fail;refine(HSV.out _).mono ?_;rintro e w9⟨ua,uc,rfl,hs4,be,hb4⟩;obtain⟨S4,N4⟩:=Zz hs4 be;replace BY:=hid (bE BY.out hb4);replace HB:=Zy HB hb4;clear hs4 be hb4
      go_wp2_with (at_builtin; (refine eU _ rfl (.tmp 96) (.tmp 99) rfl W0.heap.size _ (R++[xc]++[0]) rfl BY.out _ _ (U) rfl S4.out N4.out jf HB.out.size ?_; intro v5 w5 As AI bm; replace BY:=hid As; replace HB:=hid (HB.out.trans AI); clear As AI bm))
      exact La
    obtain rfl:t=m.gn:=ae;have Up:m.globals.take m.gn=m.globals:=ZY ae;rw[Up]at BY ee;clear Up;obtain⟨P8,OK⟩:∃X,P7++m.globals.flatMap dE=X:=⟨_,rfl⟩;rw[OK]at BY ee;have HQ8:=hid OK;clear OK;have hl8:=ee;clear ee;go_wp2_with fail;refine(gM W0.heap.size _ P8 (m.fi) _ BY.out HB.out.size ae R4.1 ae).mono ?_;rintro e wp9⟨yp9,rfl,hby,hbb,hkb⟩;replace HB:=hid (HB.out.trans hbb);replace BY:=hid hby;obtain⟨m0,m1,m2,m3,m4,m5,m6,m7⟩:=HX.out _ HB.out;clear hby hbb hkb;have i3:=ay (m.fi);have kc:(P8++aw (m.fi)).length<=3437:=gw;obtain⟨P10,OK⟩:∃X,P8++aw (m.fi)=X:=⟨_,rfl⟩;rw[OK]at BY kc;have HQ10:=hid OK;clear OK;have hl10:=kc;clear kc;clear i3;go_wp2_with fail;refine(gM W0.heap.size _ P10 (m.mo) _ BY.out HB.out.size ae R5.1 ae).mono ?_;rintro e wp11⟨yp11,rfl,hby,hbb,hkb⟩;replace HB:=hid (HB.out.trans hbb);replace BY:=hid hby;obtain⟨m0,m1,m2,m3,m4,m5,m6,m7⟩:=HX.out _ HB.out;clear hby hbb hkb;have i3:=ay (m.mo);have kc:(P10++aw (m.mo)).length<=3447:=gw;obtain⟨P12,OK⟩:∃X,P10++aw (m.mo)=X:=⟨_,rfl⟩;rw[OK]at BY kc;have HQ12:=hid OK;clear OK;have hl12:=kc;clear kc;clear i3;go_wp2_with fail;refine(gM W0.heap.size _ P12 ((m.fn:Int)) _ BY.out HB.out.size ae ae ae).mono ?_;rintro e wp13⟨yp13,rfl,hby,hbb,hkb⟩;replace HB:=hid (HB.out.trans hbb);replace BY:=hid hby;obtain⟨m0,m1,m2,m3,m4,m5,m6,m7⟩:=HX.out _ HB.out;clear hby hbb hkb;have i3:=ay ((m.fn:Int));have kc:(P12++aw ((m.fn:Int))).length<=3457:=gw;obtain⟨P14,OK⟩:∃X,P12++aw ((m.fn:Int))=X:=⟨_,rfl⟩;rw[OK]at BY kc;have HQ14:=hid OK;clear OK;have hl14:=kc;clear kc;clear i3;go_wp2_with fail;clear m0 m1 m2 m3 m4 m5 m6 m7
    go_loopw [3,8] (fun b i wr=>∃t:Nat,t<=m.fn/\i=ZI t/\Hid (Byt wr W0.heap.size b (P14++(m.fns.take t).flatMap cT))/\Hid (Zx W0 wr)) (fun _ i _=>m.fn-(intOf i).toNat)
    case atStart=>exact⟨0,Z5 _,rfl,hid o8,HB⟩
    case round =>
     clear BY HB;obtain⟨t,ht,rfl,BY,HB⟩:=hrel;obtain⟨m0,m1,m2,m3,m4,m5,m6,m7⟩:=HX.out _ HB.out;have hfl:=cU cT 400000 (m.fns.take t) (fun j y hj=>M6.out j y q9);have hft:(m.fns.take t).length<=128:=ot;have ee:(P14++(m.fns.take t).flatMap cT).length<=51203457:=gw;clear hfl hft
     by_cases hlt:t<m.fn
     ·have hlt':(t:Int)<(m.fn:Int):=ae;obtain⟨x,hx⟩:=ZB m.fns t ae;have It:(0:Int)<=(t:Int):=ae;have HFS:=hid (lZ cT hx);obtain⟨bb,oS,kb,hat⟩:=(HM.out W0 FS.out).pf.2.resolve_left ae;obtain⟨e0,e1,e2⟩:=hat t x hx
      have HG:=hid (fun(W:World) (hb:Zx W0 W)=>(⟨ai hb e0,ai hb e1,ai hb e2⟩:W.cell? (ZA bb (oS+t*3))=some (ZI x.1)/\W.cell? (ZA bb (oS+t*3+1))=some (.string x.2.1)/\W.cell? (ZA bb (oS+t*3+2))=some (.slice x.2.2.1.1 x.2.2.1.2.1 x.2.2.1.2.2)));have Is:=hid (fun(W:World) (hb:Zx W0 W)=>(show W.cell? (ZA w.heap.size 5)=some (.slice (some (ZA bb oS)) m.fn m.fc) by have h1:=HX.out W hb; rw[kb]at h1; exact h1.2.2.2.2.2.1));clear hat m5;have m5:=Is.out _ HB.out;obtain⟨g0,g1,g2⟩:=HG.out _ HB.out
      try rw[kb]
      generalize hR:P14++(m.fns.take t).flatMap cT=R at *;have HR:=hid hR;clear hR;have F':=L6.out t x hx;obtain⟨⟨r0,r1⟩,hin0,-,hiy0⟩:=(HM.out W0 FS.out).fr t x hx;have HEN:=hid (show cT x=aw x.1++gz x.2.1++(aw x.2.2.2.length++x.2.2.2.flatMap dZ) from rfl);obtain⟨ty,lo,⟨ca,cn,cc⟩,ins⟩:=x;dsimp only at *;unfold dX at F';dsimp only at F';obtain⟨s64,-,s2048,hfi⟩:=qF F'
      have hty:0<=ty:=by unfold gv at F'; split at F'; cases F'; omega
      have HCI:=hid (fun(i:Nat) y (hi:ins[i]? =some y)=>(show d9 y=0 by have h1:=br (fun _ x=>d9 x) ins [] hfi i y hi; exact h1));have hlen:ins.length=cn:=hin0.1;obtain⟨HIN,HIY⟩:=Zz hin0 hiy0;have u1:=(ek lo 64 s64).2;have u2:=ay ty;have u3:=ay (cn:Int);rw[hlen]at HEN s2048;clear hx F' hfi hin0 hiy0;have BN:=aj wr (aN ty lo ca cn cc);have BF:=hid (hZn wr (aN ty lo ca cn cc));replace BY:=hid (bE BY.out BN);replace HB:=Zy HB BN;clear BN;have k0:=iz0 BF.out;have k1:=iz1 BF.out;have k2:=iz2 BF.out;go_wp2_with fail;refine(gM W0.heap.size _ R ty _ BY.out HB.out.size ae hty r1).mono ?_;rintro e wa⟨ya,rfl,hby,hbb,hkb⟩;replace BF:=hid (jZ BF.out au BY.out hkb);replace BY:=hid hby;replace HB:=hid (HB.out.trans hbb);clear hby hbb hkb;have k0:=iz0 BF.out;have k1:=iz1 BF.out;have k2:=iz2 BF.out;go_wp2_with fail;refine(Ah lo _ ae).mono ?_;rintro e wt⟨ua,uc,rfl,hs4,be,hb4⟩;obtain⟨S4,N4⟩:=Zz hs4 be;replace BY:=hid (bE BY.out hb4);replace HB:=Zy HB hb4;replace BF:=hid (nK hb4 BF.out);clear hs4 be hb4;have k0:=iz0 BF.out;have k1:=iz1 BF.out;have k2:=iz2 BF.out
      go_wp2_with (at_builtin; (refine eU _ rfl (.tmp 130) (.tmp 133) rfl W0.heap.size _ (R++aw ty) rfl BY.out _ _ (gz lo) rfl S4.out N4.out jf HB.out.size ?_; intro v5 w5 As AI bm; replace BF:=hid (jZ BF.out au BY.out bm); replace BY:=hid As; replace HB:=hid (HB.out.trans AI); clear As AI bm; have k0:=iz0 BF.out; have k1:=iz1 BF.out; have k2:w5.cell? (ZA wr.heap.size 2)=some (.slice ca cn cc):=ag BF.out))
      refine(gM W0.heap.size _ (R++aw ty++gz lo) (cn:Int) _ BY.out HB.out.size lf ae ae).mono ?_;rintro e wb⟨yb,rfl,hby,hbb,hkb⟩;replace BF:=hid (jZ BF.out au BY.out hkb);replace BY:=hid hby;replace HB:=hid (HB.out.trans hbb);clear hby hbb hkb;have k0:=iz0 BF.out;have k1:=iz1 BF.out;have k2:=iz2 BF.out;have hql:(R++aw ty++gz lo++aw (cn:Int)).length<=R.length+200:=lf;obtain⟨Q,hQ⟩:∃Q,R++aw ty++gz lo++aw (cn:Int)=Q:=⟨_,rfl⟩;rw[hQ]at BY hql;have HQQ:=hid hQ;clear hQ;go_wp2_with fail;clear k0 k1 k2;generalize wr.heap.size=F at *
      go_loopw [3,10] (fun b k wq=>∃q:Nat,q<=cn/\k=ZI q/\Hid (Byt wq W0.heap.size b (Q++(ins.take q).flatMap dZ))/\Hid (Zx W0 wq)/\Hid (wq.heap[F]? =some (aN ty lo ca cn cc))) (fun _ k _=>cn-(intOf k).toNat)
      case atStart=>exact⟨0,Z5 _,rfl,hid o8,HB,BF⟩
      case round =>
       clear BY HB BF;obtain⟨q,hq,rfl,BY,HB,BF⟩:=hrel;have k0:=iz0 BF.out;have k1:=iz1 BF.out;have k2:=iz2 BF.out;have hfl2:=cU dZ 171 (ins.take q) (fun j y hj=>jL (HCI.out j y (by rw[List.getElem?_take]at hj; split at hj; exact hj; cases hj)));have hft2:(ins.take q).length<=2048:=ot;have hfq:(Q++(ins.take q).flatMap dZ).length<=R.length+400000:=gw;clear hfl2 hft2
       by_cases hqn:q<cn
       ·have hqn':(q:Int)<(cn:Int):=ae;obtain⟨y,hy⟩:=ZB ins q ae;have HFS2:=hid (lZ dZ hy);obtain⟨cb,cof,rfl,qar⟩:=HIN.out.2.resolve_left ae;obtain⟨z0,z1,z2⟩:=qar q y hy;have z0:=ai HB.out z0;have z1:=ai HB.out z1;have z2:=ai HB.out z2;obtain⟨v0,v1,v2,-⟩:=HIY.out q y hy;have HEC:=hid (R3 y _ v0 v1 (v2.later HB.out lRn) (HCI.out q y hy));have u4:=jL (HCI.out q y hy);have hq0:(0:Int)<=(q:Int):=ae;clear qar hy v0 v1 v2;generalize hR2:Q++(ins.take q).flatMap dZ=R2 at *;have HR2:=hid hR2;clear hR2;go_wp2_with fail;refine HEC.out.mono ?_;rintro e w9⟨ua,uc,rfl,hs4,be,hb4⟩;obtain⟨S4,N4⟩:=Zz hs4 be
        replace BY:=hid (bE BY.out hb4);replace HB:=Zy HB hb4;replace BF:=hid (nK hb4 BF.out);clear hs4 be hb4;generalize dZ y=U at *
        go_wp2_with (at_builtin; (refine eU _ rfl (.tmp 156) (.tmp 157) rfl W0.heap.size _ (R2) rfl BY.out _ _ (U) rfl S4.out N4.out jf HB.out.size ?_; intro v5 w5 As AI bm; replace BF:=hid (jZ BF.out au BY.out bm); replace BY:=hid As; replace HB:=hid (HB.out.trans AI); clear As AI bm))
        exact⟨⟨q+1,ae,bu,hid (by rw[HFS2.out,<- Z2,HR2.out]; exact BY.out),HB,BF⟩,bD⟩
       obtain rfl:q=cn:=ae;have Up:ins.take q=ins:=ZY ae;have hby:=BY.out;rw[Up,<- HQQ.out]at hby;replace BY:=hid hby;clear hby Up;go_wp2_with fail;exact⟨⟨t+1,ae,bu,hid (by rw[HFS.out,<- Z2,HR.out]; rw[HEN.out]; simpa only[Z2] using BY.out),HB⟩,bD⟩
     obtain rfl:t=m.fn:=ae;have Up:m.fns.take m.fn=m.fns:=ZY ae;rw[Up]at BY ee;clear Up;obtain⟨P15,OK⟩:∃X,P14++m.fns.flatMap cT=X:=⟨_,rfl⟩;rw[OK]at BY ee;have HQ15:=hid OK;clear OK;have hl15:=ee;clear ee;go_wp2_with fail;refine(gM W0.heap.size _ P15 ((m.dn:Int)) _ BY.out HB.out.size ae ae ae).mono ?_;rintro e wp16⟨yp16,rfl,hby,hbb,hkb⟩;replace HB:=hid (HB.out.trans hbb);replace BY:=hid hby;obtain⟨m0,m1,m2,m3,m4,m5,m6,m7⟩:=HX.out _ HB.out;clear hby hbb hkb;have i3:=ay ((m.dn:Int));have kc:(P15++aw ((m.dn:Int))).length<=51203467:=gw;obtain⟨P17,OK⟩:∃X,P15++aw ((m.dn:Int))=X:=⟨_,rfl⟩;rw[OK]at BY kc;have HQ17:=hid OK;clear OK;have hl17:=kc;clear kc;clear i3;go_wp2_with fail;clear m0 m1 m2 m3 m4 m5 m6 m7
     go_loopw [3,13] (fun b i wr=>∃t:Nat,t<=m.dn/\i=ZI t/\Hid (Byt wr W0.heap.size b (P17++(m.data.take t).flatMap dz))/\Hid (Zx W0 wr)) (fun _ i _=>m.dn-(intOf i).toNat)
     case atStart=>exact⟨0,Z5 _,rfl,hid o8,HB⟩
     case round =>
      clear BY HB;obtain⟨t,ht,rfl,BY,HB⟩:=hrel;obtain⟨m0,m1,m2,m3,m4,m5,m6,m7⟩:=HX.out _ HB.out;have hfl:=cU dz 300000 (m.data.take t) (fun j y hj=>M7.out j y q9);have hft:(m.data.take t).length<=64:=ot;have ee:(P17++(m.data.take t).flatMap dz).length<=70403467:=gw;clear hfl hft
      by_cases hlt:t<m.dn
      ·have hlt':(t:Int)<(m.dn:Int):=ae;obtain⟨x,hx⟩:=ZB m.data t ae;have It:(0:Int)<=(t:Int):=ae;have HFS:=hid (lZ dz hx);obtain⟨bb,oS,kb,hat⟩:=(HM.out W0 FS.out).pd.2.resolve_left ae;obtain⟨e0,e1⟩:=hat t x hx
       have HG:=hid (fun(W:World) (hb:Zx W0 W)=>(⟨ai hb e0,ai hb e1⟩:W.cell? (ZA bb (oS+t*2))=some (ZI x.1)/\W.cell? (ZA bb (oS+t*2+1))=some (.slice x.2.1.1 x.2.1.2.1 x.2.1.2.2)));have Is:=hid (fun(W:World) (hb:Zx W0 W)=>(show W.cell? (ZA w.heap.size 6)=some (.slice (some (ZA bb oS)) m.dn m.dc) by have h1:=HX.out W hb; rw[kb]at h1; exact h1.2.2.2.2.2.2.1));clear hat m6;have m6:=Is.out _ HB.out;obtain⟨g0,g1⟩:=HG.out _ HB.out
       try rw[kb]
       generalize hR:P17++(m.data.take t).flatMap dz=R at *;have HR:=hid hR;clear hR;have jj:=L7.out t x hx;have HSEG:=hid (fun(W:World) (hb:Zx w W)=>((HM.out W hb).dr t x hx).2.1);obtain⟨⟨r0,r1⟩,-,-⟩:=(HM.out W0 FS.out).dr t x hx;have hdx:=HDX.out t x hx;have HEN:=hid (show dz x=aw x.1++(aw x.2.2.length++x.2.2) from rfl)
       have hpl:0<=x.1:=by unfold cg at jj; split at jj; cases jj; omega
       have hET:gz (strOfNums x.2.2)=aw x.2.2.length++x.2.2:=by unfold gz; rw[jQ,rz _ (HSEG.out W0 FS.out).2.2.2.1]
       have HET:=hid hET;have u1:=(ek (strOfNums x.2.2) 1000000 (by rw[jQ]; exact hdx)).2;have u2:=ay x.1;have hss:=jQ x.2.2;clear hx jj hET;obtain⟨pl,⟨ba,bn,bc⟩,bl⟩:=x;dsimp only at *;go_wp2_with fail;refine(gM W0.heap.size _ R pl _ BY.out HB.out.size ae hpl r1).mono ?_;rintro e wa⟨ya,rfl,hby,hbb,hkb⟩;replace BY:=hid hby;replace HB:=hid (HB.out.trans hbb);clear hby hbb hkb;have m6:=Is.out _ HB.out;obtain⟨g0,g1⟩:=HG.out _ HB.out;have hcv:=Hr wa ba bn bc bl (HSEG.out wa (FS.out.trans (HB.out.mono FS.out.size)));generalize strOfNums bl=sb at *;go_wp2_with fail;refine(Ah sb _ ae).mono ?_;rintro e wt⟨ua,uc,rfl,hs4,be,hb4⟩;obtain⟨S4,N4⟩:=Zz hs4 be;replace BY:=hid (bE BY.out hb4);replace HB:=Zy HB hb4;clear hs4 be hb4
       go_wp2_with (at_builtin; (refine eU _ rfl (.tmp 179) (.tmp 187) rfl W0.heap.size _ (R++aw pl) rfl BY.out _ _ (gz sb) rfl S4.out N4.out jf HB.out.size ?_; intro v5 w5 As AI bm; replace BY:=hid As; replace HB:=hid (HB.out.trans AI); clear As AI bm))
       exact⟨⟨t+1,ae,bu,hid (by rw[HFS.out,<- Z2,HR.out]; rw[HEN.out,<- HET.out,<- Z2]; exact BY.out),HB⟩,bD⟩
      obtain rfl:t=m.dn:=ae;have Up:m.data.take m.dn=m.data:=ZY ae;rw[Up]at BY ee;clear Up;obtain⟨P18,OK⟩:∃X,P17++m.data.flatMap dz=X:=⟨_,rfl⟩;rw[OK]at BY ee;have HQ18:=hid OK;clear OK;have hl18:=ee;clear ee;go_wp2_with fail;refine(gM W0.heap.size _ P18 ((m.en:Int)) _ BY.out HB.out.size ae ae ae).mono ?_;rintro e wp19⟨yp19,rfl,hby,hbb,hkb⟩;replace HB:=hid (HB.out.trans hbb);replace BY:=hid hby;obtain⟨m0,m1,m2,m3,m4,m5,m6,m7⟩:=HX.out _ HB.out;clear hby hbb hkb;have i3:=ay ((m.en:Int));have kc:(P18++aw ((m.en:Int))).length<=70403477:=gw;obtain⟨P20,OK⟩:∃X,P18++aw ((m.en:Int))=X:=⟨_,rfl⟩;rw[OK]at BY kc;have HQ20:=hid OK;clear OK;have hl20:=kc;clear kc;clear i3;go_wp2_with fail;clear m0 m1 m2 m3 m4 m5 m6 m7
      go_loopw [3,14] (fun b i wr=>∃t:Nat,t<=m.en/\i=ZI t/\Hid (Byt wr W0.heap.size b (P20++(m.exps.take t).flatMap eJ))/\Hid (Zx W0 wr)) (fun _ i _=>m.en-(intOf i).toNat)
      case atStart=>exact⟨0,Z5 _,rfl,hid o8,HB⟩
      case round =>
       clear BY HB;obtain⟨t,ht,rfl,BY,HB⟩:=hrel;obtain⟨m0,m1,m2,m3,m4,m5,m6,m7⟩:=HX.out _ HB.out;have hfl:=cU eJ 60 (m.exps.take t) (fun j y hj=>M8.out j y q9);have hft:(m.exps.take t).length<=64:=ot;have ee:(P20++(m.exps.take t).flatMap eJ).length<=70407317:=gw;clear hfl hft
       by_cases hlt:t<m.en
       ·have hlt':(t:Int)<(m.en:Int):=ae;obtain⟨x,hx⟩:=ZB m.exps t ae;have It:(0:Int)<=(t:Int):=ae;have HFS:=hid (lZ eJ hx);obtain⟨bb,oS,kb,hat⟩:=(HM.out W0 FS.out).pe.2.resolve_left ae;obtain⟨e0,e1⟩:=hat t x hx
        have HG:=hid (fun(W:World) (hb:Zx W0 W)=>(⟨ai hb e0,ai hb e1⟩:W.cell? (ZA bb (oS+t*2))=some (.string x.1)/\W.cell? (ZA bb (oS+t*2+1))=some (ZI x.2)));have Is:=hid (fun(W:World) (hb:Zx W0 W)=>(show W.cell? (ZA w.heap.size 7)=some (.slice (some (ZA bb oS)) m.en m.ec) by have h1:=HX.out W hb; rw[kb]at h1; exact h1.2.2.2.2.2.2.2));clear hat m7;have m7:=Is.out _ HB.out;obtain⟨g0,g1⟩:=HG.out _ HB.out
        try rw[kb]
        generalize hR:P20++(m.exps.take t).flatMap eJ=R at *;have HR:=hid hR;clear hR;have jj:=L8.out t x hx;have hex:=HEX.out t x hx
        have hq:0<=x.2/\x.2<9223372036854775808/\x.1.size<=32:=by
         unfold eI at jj
         split at jj
         ·cases jj
         split at jj
         ·cases jj
         split at jj
         ·cases jj
         unfold cO at jj
         split at jj
         ·cases jj
         omega
        have HEN:=hid (show eJ x=gz x.1++aw x.2 from rfl);obtain⟨q0,q1,q2⟩:=hq;have u1:=(ek x.1 32 q2).2;clear hx jj;go_wp2_with fail;refine(Ah x.1 _ ae).mono ?_;rintro e wt⟨ua,uc,rfl,hs4,be,hb4⟩;obtain⟨S4,N4⟩:=Zz hs4 be;replace BY:=hid (bE BY.out hb4);replace HB:=Zy HB hb4;clear hs4 be hb4;have m7:=Is.out _ HB.out;obtain⟨g0,g1⟩:=HG.out _ HB.out
        go_wp2_with (at_builtin; (refine eU _ rfl (.tmp 201) (.tmp 208) rfl W0.heap.size _ (R) rfl BY.out _ _ (gz x.1) rfl S4.out N4.out jf HB.out.size ?_; intro v5 w5 As AI bm; replace BY:=hid As; replace HB:=hid (HB.out.trans AI); clear As AI bm; have m7:=Is.out _ HB.out; obtain⟨g0,g1⟩:=HG.out _ HB.out))
        refine(gM W0.heap.size _ (R++gz x.1) x.2 _ BY.out HB.out.size lf q0 q1).mono ?_;rintro e wa⟨ya,rfl,hby,hbb,hkb⟩;replace BY:=hid hby;replace HB:=hid (HB.out.trans hbb);clear hby hbb hkb;go_wp2_with fail;exact⟨⟨t+1,ae,bu,hid (by rw[HFS.out,<- Z2,HR.out]; rw[HEN.out,<- Z2]; exact BY.out),HB⟩,bD⟩
       obtain rfl:t=m.en:=ae;have Up:m.exps.take m.en=m.exps:=ZY ae;rw[Up]at BY ee;clear Up;obtain⟨P21,OK⟩:∃X,P20++m.exps.flatMap eJ=X:=⟨_,rfl⟩;rw[OK]at BY ee;have HQ21:=hid OK;clear OK;have hl21:=ee;clear ee;go_wp2_with fail;go_ret;refine⟨_,rfl,?_,FS.out.trans (HB.out.mono FS.out.size)⟩
       have hE:fw++qL m=P21:=by
        unfold qL;rw[<- HQ21.out,<- HQ20.out,<- HQ18.out,<- HQ17.out,<- HQ15.out,<- HQ14.out,<- HQ12.out,<- HQ10.out,<- HQ8.out,<- HQ7.out,<- HQ5.out,<- HQ3.out,<- HQ1.out,<- Ln.out];simp only[Z2]
       rw[hE,<- HZ.out];exact BY.out
section
structure Szs(m:MM):Prop where
 tn:m.tn<=200000
 hn:m.hn<=200000
 gn:m.gn<=200000
 fn:m.fn<=200000
 dn:m.dn<=200000
 en:m.en<=200000
 t:∀(j:Nat)x,m.types[j]? =some x->x.1.size<=200000/\x.2.size<=200000
 f:∀(j:Nat)x,m.fns[j]? =some x->x.2.1.size<=200000/\x.2.2.1.2.1<=200000
 d:∀(j:Nat)x,m.data[j]? =some x->x.2.1.2.1<=200000
 e:∀(j:Nat)x,m.exps[j]? =some x->x.1.size<=200000
theorem Lz(m:MM):fK m=orE (orE (e1 m) (e2 m)) (orE (orE (e3 m) (orE (e4 m) (e5 m))) (orE (e6 m) (orE (e7 m) (e8 m)))):=by
 unfold fK orE
 by_cases h1:e1 m=0 <;> by_cases h2:e2 m=0 <;> by_cases h3:e3 m=0 <;> by_cases h4:e4 m=0 <;> by_cases h5:e5 m=0 <;> simp[h1,h2,h3,h4,h5]
theorem ML(m:MM)(w:World)(hm:MOk w w.heap.size w.heap.size m)(hz:Szs m) :
  Zw 160 #[.agg (mV m)] w (ZC (ZI (fK m)) w):=by
 have HM:=hid (fun(W:World) (hb:Zx w W)=>hm.later hb);have C1:=hid (fun(W:World) (hb:Zx w W)=>vD m W (HM.out W hb).pt (HM.out W hb).ph (HM.out W hb).hr (fun j x hj=>⟨by have:=(hz.t j x hj).1; omega,by have:=(hz.t j x hj).2; omega⟩) (by have:=hz.tn; omega) (by have:=hz.hn; omega));have C2:=hid (fun(W:World) (hb:Zx w W)=>rT m W (HM.out W hb).pg (HM.out W hb).gr (HM.out W hb).i0 (HM.out W hb).i1 (HM.out W hb).o0 (HM.out W hb).o1 (by have:=hz.gn; omega));have C3:=hid (fun(h1:e1 m=0)(W:World) (hb:Zx w W)=>BO m W (HM.out W hb).pt (fun j x hj=>(eZ (gY h1 j x hj)).1) (by have:=hz.tn; omega) (HM.out W hb).pf (by have:=hz.fn; omega) (fun j x hj=>⟨((HM.out W hb).fr j x hj).1,((HM.out W hb).fr j x hj).2.1,by have:=(hz.f j x hj).1; omega,by have:=(hz.f j x hj).2; omega,fun i y hi=>⟨(((HM.out W hb).fr j x hj).2.2.2 i y hi).1,(((HM.out W hb).fr j x hj).2.2.2 i y hi).2.1,(((HM.out W hb).fr j x hj).2.2.2 i y hi).2.2.1⟩⟩));have C4:=hid (fun(h4:e4 m=0)(W:World) (hb:Zx w W)=>Af m W (HM.out W hb).pd (fun j x hj=>⟨((HM.out W hb).dr j x hj).1,((HM.out W hb).dr j x hj).2.1.1.symm,by have:=hz.d j x hj; omega⟩) (by have:=hz.dn; omega) Hu Hu (HM.out W hb).pe (fun j x hj=>⟨(HM.out W hb).er j x hj,by have:=hz.e j x hj; omega⟩) (by have:=hz.en; omega) (by have:=hz.fn; omega));have HC:=hid (Lz m);have HP1:=hid (fun(h:orE (e1 m) (e2 m)=0)=>(dw h).1);have HP4:=hid (fun(h:orE (e3 m) (orE (e4 m) (e5 m))=0)=>(dw (dw h).2).1);unfold mV at C1 C2 C3 C4;clear hm hz;have B0:=aj w (.cells (mV m) 29);have b0:=hZn w (.cells (mV m) 29);have HW:w.alloc (bM m.ta m.tn m.tc m.ha m.hn m.hc m.ga m.gn m.gc m.fi m.mo m.fa m.fn m.fc m.da m.dn m.dc m.ea m.en m.ec)=w.alloc (.cells (mV m) 29):=rfl;generalize w.alloc (.cells (mV m) 29)=W0 at *;have HB:=hid (ZT W0.heap.size W0);have FS:=hid B0;have HX:=hid (fun(W:World) (hb:Zx W0 W)=>(⟨ai hb (ag b0),ai hb (ag b0),ai hb (ag b0),ai hb (ag b0),ai hb (ag b0),ai hb (ag b0),ai hb (ag b0),ai hb (ag b0)⟩:W.cell? (ZA w.heap.size 0)=some (.slice m.ta m.tn m.tc)/\W.cell? (ZA w.heap.size 1)=some (.slice m.ha m.hn m.hc)/\W.cell? (ZA w.heap.size 2)=some (.slice m.ga m.gn m.gc)/\W.cell? (ZA w.heap.size 3)=some (ZI m.fi)/\W.cell? (ZA w.heap.size 4)=some (ZI m.mo)/\W.cell? (ZA w.heap.size 5)=some (.slice m.fa m.fn m.fc)/\W.cell? (ZA w.heap.size 6)=some (.slice m.da m.dn m.dc)/\W.cell? (ZA w.heap.size 7)=some (.slice m.ea m.en m.ec)));obtain⟨m0,m1,m2,m3,m4,m5,m6,m7⟩:=HX.out W0 (ZT _ _);clear B0 b0;show Zw 160 #[.agg #[.slice m.ta m.tn m.tc,.slice m.ha m.hn m.hc,.slice m.ga m.gn m.gc,ZI m.fi,ZI m.mo,.slice m.fa m.fn m.fc,.slice m.da m.dn m.dc,.slice m.ea m.en m.ec]] w _;rw[HC.out];have C3:=hid (fun(h:orE (e1 m) (e2 m)=0)=>C3.out (HP1.out h));have C4:=hid (fun(h:orE (e3 m) (orE (e4 m) (e5 m))=0)=>C4.out (HP4.out h));clear HC HP1 HP4;generalize orE (e1 m) (e2 m)=A1 at *;generalize orE (e3 m) (orE (e4 m) (e5 m))=A2 at *;generalize e6 m=A3 at *;generalize orE (e7 m) (e8 m)=A4 at *;go_enter func160,ntmps160
 go_wp2_with fail;refine(C1.out _ (FS.out.trans (HB.out.mono FS.out.size))).mono ?_;rintro e w1⟨rfl,hb1⟩
 replace HB:=Zy HB hb1;obtain⟨m0,m1,m2,m3,m4,m5,m6,m7⟩:=HX.out _ HB.out;clear hb1
 by_cases z1:A1=0
 rotate_left
 ·have d1:(A1==0)=false:=by simpa using z1
  have HV:=hid (show orE A1 (orE A2 (orE A3 A4))=A1 from eo z1);exact ju
 subst z1;have HV1:=hid (show orE 0 (orE A2 (orE A3 A4))=orE A2 (orE A3 A4) from aM rfl);replace C3:=hid (C3.out rfl)
 go_wp2_with fail;refine(C2.out _ (FS.out.trans (HB.out.mono FS.out.size))).mono ?_;rintro e w2⟨rfl,hb2⟩
 replace HB:=Zy HB hb2;obtain⟨m0,m1,m2,m3,m4,m5,m6,m7⟩:=HX.out _ HB.out;clear hb2
 by_cases z2:A2=0
 rotate_left
 ·have d1:(A2==0)=false:=by simpa using z2
  have HV:=hid (show orE A2 (orE A3 A4)=A2 from eo z2);go_wp2_with fail;go_ret;exact⟨by rw[HV1.out,HV.out]; rfl,FS.out.trans (HB.out.mono FS.out.size)⟩
 subst z2;have HV2:=hid (show orE 0 (orE A3 A4)=orE A3 A4 from aM rfl);replace C4:=hid (C4.out rfl)
 go_wp2_with fail;refine(C3.out _ (FS.out.trans (HB.out.mono FS.out.size))).mono ?_;rintro e w3⟨rfl,hb3⟩
 replace HB:=Zy HB hb3;obtain⟨m0,m1,m2,m3,m4,m5,m6,m7⟩:=HX.out _ HB.out;clear hb3
 by_cases z3:A3=0
 rotate_left
 ·have d1:(A3==0)=false:=by simpa using z3
  have HV:=hid (show orE A3 A4=A3 from eo z3);go_wp2_with fail;go_ret;exact⟨by rw[HV1.out,HV2.out,HV.out]; rfl,FS.out.trans (HB.out.mono FS.out.size)⟩
 subst z3;have HV3:=hid (show orE 0 A4=A4 from aM rfl);go_wp2_with fail;refine(C4.out _ (FS.out.trans (HB.out.mono FS.out.size))).mono ?_;rintro e w4⟨rfl,hb4⟩;replace HB:=Zy HB hb4;obtain⟨m0,m1,m2,m3,m4,m5,m6,m7⟩:=HX.out _ HB.out;clear hb4;go_wp2_with fail;go_ret;exact⟨by rw[HV1.out,HV2.out,HV3.out]; rfl,FS.out.trans (HB.out.mono FS.out.size)⟩
theorem O1(m:MM)(w:World)(hm:∀R g,w.heap.size<=R->w.heap.size<=g->MOk w R g m)(hz:Szs m) :
  Zw 99 #[.agg (mV m)] w fun e w'=>∃v,e=.returned (.tuple #[v,ZI (cJ m)])/\Zx w w':=by
 have C1:=hid (fun(W:World) (hb:Zx w W)=>ML m W ((hm _ _ hb.size hb.size).later hb) hz);have C2:=hid (fun(h:fK m=0)(W:World) (hb:Zx w W)=>Sm m W h ((hm _ _ hb.size hb.size).later hb) (fun j x hj=>by have:=hz.e j x hj; omega) (fun j x hj=>by have h1:=hz.d j x hj; have h2:=((hm _ _ hb.size hb.size).later hb).dr j x hj; have:=h2.2.1.1; omega));have HC:=hid (show cJ m=orE (fK m) (if 65536<(fw++qL m).length then 13 else 0) from rfl);unfold mV at C1 C2;clear hm hz;have B0:=aj w (.cells (mV m) 29);have b0:=hZn w (.cells (mV m) 29);have HW:w.alloc (bM m.ta m.tn m.tc m.ha m.hn m.hc m.ga m.gn m.gc m.fi m.mo m.fa m.fn m.fc m.da m.dn m.dc m.ea m.en m.ec)=w.alloc (.cells (mV m) 29):=rfl;generalize w.alloc (.cells (mV m) 29)=W0 at *;have HB:=hid (ZT W0.heap.size W0);have FS:=hid B0;have HX:=hid (fun(W:World) (hb:Zx W0 W)=>(⟨ai hb (ag b0),ai hb (ag b0),ai hb (ag b0),ai hb (ag b0),ai hb (ag b0),ai hb (ag b0),ai hb (ag b0),ai hb (ag b0)⟩:W.cell? (ZA w.heap.size 0)=some (.slice m.ta m.tn m.tc)/\W.cell? (ZA w.heap.size 1)=some (.slice m.ha m.hn m.hc)/\W.cell? (ZA w.heap.size 2)=some (.slice m.ga m.gn m.gc)/\W.cell? (ZA w.heap.size 3)=some (ZI m.fi)/\W.cell? (ZA w.heap.size 4)=some (ZI m.mo)/\W.cell? (ZA w.heap.size 5)=some (.slice m.fa m.fn m.fc)/\W.cell? (ZA w.heap.size 6)=some (.slice m.da m.dn m.dc)/\W.cell? (ZA w.heap.size 7)=some (.slice m.ea m.en m.ec)));obtain⟨m0,m1,m2,m3,m4,m5,m6,m7⟩:=HX.out W0 (ZT _ _);clear B0 b0;show Zw 99 #[.agg #[.slice m.ta m.tn m.tc,.slice m.ha m.hn m.hc,.slice m.ga m.gn m.gc,ZI m.fi,ZI m.mo,.slice m.fa m.fn m.fc,.slice m.da m.dn m.dc,.slice m.ea m.en m.ec]] w _;generalize fK m=A1 at *;generalize fw++qL m=BB at *;go_enter func99,ntmps99
 go_wp2_with fail;refine(C1.out _ (FS.out.trans (HB.out.mono FS.out.size))).mono ?_;rintro e w1⟨rfl,hb1⟩
 replace HB:=Zy HB hb1;obtain⟨m0,m1,m2,m3,m4,m5,m6,m7⟩:=HX.out _ HB.out;clear hb1
 by_cases z1:A1=0
 rotate_left
 ·have d1:(A1 != 0)=true:=by simpa using z1
  have HV:=hid (show cJ m=A1 from HC.out.trans (eo z1));exact wM
 subst z1;have HC2:=hid (HC.out.trans (aM rfl));replace C2:=hid (C2.out rfl)
 go_wp2_with fail;refine(C2.out _ (FS.out.trans (HB.out.mono FS.out.size))).mono ?_;rintro e w2⟨y,rfl,hby,hb2⟩;obtain⟨ya,yc,rfl⟩:=Nq hby
 replace HB:=Zy HB hb2;clear hby hb2
 by_cases h6:65536<BB.length
 ·have HV:=hid (show cJ m=13 by rw[HC2.out,if_pos h6])
  have d6:(65536:Int)<(BB.length:Int):=ae;exact wM
 have HV:=hid (show cJ m=0 by rw[HC2.out,if_neg h6]);have d6:¬(65536:Int)<(BB.length:Int):=ae;exact wM
theorem LP(m:MM)(w:World)(hm:∀R g,w.heap.size<=R->w.heap.size<=g->MOk w R g m)(hz:Szs m) :
  Zw 34 #[.agg (mV m)] w (ZC (ZI (cJ m)) w):=by
 have C1:=hid (fun(W:World) (hb:Zx w W)=>O1 m W (fun R g h1 h2=>(hm R g (ZW hb.size h1) (ZW hb.size h2)).later hb) hz);unfold mV at C1;clear hm hz;have B0:=aj w (.cells (mV m) 29);have b0:=hZn w (.cells (mV m) 29);have HW:w.alloc (bM m.ta m.tn m.tc m.ha m.hn m.hc m.ga m.gn m.gc m.fi m.mo m.fa m.fn m.fc m.da m.dn m.dc m.ea m.en m.ec)=w.alloc (.cells (mV m) 29):=rfl;generalize w.alloc (.cells (mV m) 29)=W0 at *;have HB:=hid (ZT W0.heap.size W0);have FS:=hid B0;have HX:=hid (fun(W:World) (hb:Zx W0 W)=>(⟨ai hb (ag b0),ai hb (ag b0),ai hb (ag b0),ai hb (ag b0),ai hb (ag b0),ai hb (ag b0),ai hb (ag b0),ai hb (ag b0)⟩:W.cell? (ZA w.heap.size 0)=some (.slice m.ta m.tn m.tc)/\W.cell? (ZA w.heap.size 1)=some (.slice m.ha m.hn m.hc)/\W.cell? (ZA w.heap.size 2)=some (.slice m.ga m.gn m.gc)/\W.cell? (ZA w.heap.size 3)=some (ZI m.fi)/\W.cell? (ZA w.heap.size 4)=some (ZI m.mo)/\W.cell? (ZA w.heap.size 5)=some (.slice m.fa m.fn m.fc)/\W.cell? (ZA w.heap.size 6)=some (.slice m.da m.dn m.dc)/\W.cell? (ZA w.heap.size 7)=some (.slice m.ea m.en m.ec)));obtain⟨m0,m1,m2,m3,m4,m5,m6,m7⟩:=HX.out W0 (ZT _ _);clear B0 b0;show Zw 34 #[.agg #[.slice m.ta m.tn m.tc,.slice m.ha m.hn m.hc,.slice m.ga m.gn m.gc,ZI m.fi,ZI m.mo,.slice m.fa m.fn m.fc,.slice m.da m.dn m.dc,.slice m.ea m.en m.ec]] w _;generalize cJ m=A1 at *;go_enter func34,ntmps34
 go_wp2_with fail;refine(C1.out _ (FS.out.trans (HB.out.mono FS.out.size))).mono ?_;rintro e w1⟨v,rfl,hb1⟩
 replace HB:=Zy HB hb1;clear hb1;go_wp2_with fail;go_ret;exact⟨rfl,FS.out.trans (HB.out.mono FS.out.size)⟩
theorem Tryz.cells287:prog.cellsOf 287=4:=ak
theorem Tryz.cells288:prog.cellsOf 288=28:=ak
theorem Tryz.cells5:prog.cellsOf 5=1:=ak
theorem Tryz.cells9:prog.cellsOf 9=1:=ak
theorem Tryz.kindsAt:prog.globalNamed "flagon/ops.kinds" = some 0:=ak
theorem Tryz.kindsType:(prog.globals[0]?).map (·.type)=some 288:=ak
theorem Yd{α:Type}:∀(l:List α),l.length=4->∃a b c d,l=[a,b,c,d]
 | [a,b,c,d],_=>⟨a,b,c,d,rfl⟩
theorem Zq{α:Type}:∀(l:List α),l.length=7->∃a b c d e f g,l=[a,b,c,d,e,f,g]
 | [a,b,c,d,e,f,g],_=>⟨a,b,c,d,e,f,g,rfl⟩
variable {w:World}{base fuel:Nat}{held:Bool}{cs:Zah}
theorem gT{H:Type}{enc:TypeId×Value->H}{sp:Nat->Bool}{f l:Int}{a s:Zaj}{p:List MemPlace}
  (h:DataW.trod enc prog w base sp held fuel 287 cs=some (.agg [.lit (.int .u8 f),.lit (.int .u8 l),.lit (.string a),.lit (.string s)],p)) :
  cs=[ZU f,ZU l,.string ⟨a.toArray⟩,.string ⟨s.toArray⟩]:=by
 obtain⟨xs,n,_,hx,hl,hxl,hel⟩:=DataW.trod_struct underlying287 h;rw[Tryz.cells287]at hl;obtain⟨c0,c1,c2,c3,rfl⟩:=Yd cs hl;obtain⟨x0,x1,x2,x3,rfl⟩:=Yd xs hxl;have e:=congrArg Prod.fst hx;simp only[List.map_cons,List.map_nil,DataW.agg.injEq,List.cons.injEq,and_true]at e;obtain⟨e0,e1,e2,e3⟩:=e;have h0:DataW.trod enc prog w base sp held n 5 (([c0,c1,c2,c3].drop 0).take (prog.cellsOf 5))=some x0:=hel 0 _ rfl;have h1:DataW.trod enc prog w base sp held n 5 (([c0,c1,c2,c3].drop 1).take (prog.cellsOf 5))=some x1:=hel 1 _ rfl;have h2:DataW.trod enc prog w base sp held n 9 (([c0,c1,c2,c3].drop 2).take (prog.cellsOf 9))=some x2:=hel 2 _ rfl;have h3:DataW.trod enc prog w base sp held n 9 (([c0,c1,c2,c3].drop 3).take (prog.cellsOf 9))=some x3:=hel 3 _ rfl;rw[Tryz.cells5]at h0 h1;rw[Tryz.cells9]at h2 h3;obtain⟨n0,g0,k0,_⟩:=DataW.trod_int underlying5 h0;obtain⟨n1,g1,k1,_⟩:=DataW.trod_int underlying5 h1;obtain⟨s2,g2,k2,_⟩:=DataW.trod_string underlying9 h2;obtain⟨s3,g3,k3,_⟩:=DataW.trod_string underlying9 h3;clear hel h hx h0 h1 h2 h3;rw[k0]at e0;rw[k1]at e1;rw[k2]at e2;rw[k3]at e3;simp only[DataW.lit.injEq,Lit.int.injEq,true_and,Lit.string.injEq]at e0 e1 e2 e3;simp only[List.drop_zero,List.drop_succ_cons,List.take_succ_cons,List.take_zero,List.cons.injEq,and_true]at g0 g1 g2 g3;rw[g0,g1,g2,g3,e0,e1,e2,e3]
theorem chunks(l:Zah)(h:l.length=28):l=l.take 4++((l.drop 4).take 4++((l.drop 8).take 4++((l.drop 12).take 4++((l.drop 16).take 4++((l.drop 20).take 4++(l.drop 24).take 4))))):=by
 have e:∀n,l.drop n=(l.drop n).take 4++l.drop (n+4):=fun n=>by
  have:=(List.take_append_drop 4 (l.drop n)).symm
  rwa [List.drop_drop]at this
 have e6:l.drop 24=(l.drop 24).take 4:=by rw[ZY aA]
 have e5:=e 20; have e4:=e 16; have e3:=e 12; have e2:=e 8; have e1:=e 4; have e0:=e 0;simp only[List.drop_zero,Nat.zero_add,Nat.reduceAdd]at e0 e1 e2 e3 e4 e5;rw[<- e6,<- e5,<- e4,<- e3,<- e2,<- e1,<- e0]
variable {W:World}
theorem vk{rest:List (String×DataW Unit)}(h:laidMet prog (("flagon/ops.kinds",Rows.laid_flagon_ops_kinds)::rest) W):aX W:=by
 obtain⟨ps,⟨g',t',cs,fuel,p,q,hg',ht',hvar,hd,_,_⟩,_⟩:=h;obtain rfl:=i9 (Tryz.kindsAt.symm.trans hg');obtain rfl:=i9 (Tryz.kindsType.symm.trans ht');obtain⟨xs,n,_,hx,hl,hxl,hel⟩:=DataW.trod_array underlying288 hd;rw[Tryz.cells288]at hl;obtain⟨x0,x1,x2,x3,x4,x5,x6,rfl⟩:=Zq xs hxl;have e:=congrArg Prod.fst hx;simp only[Rows.laid_flagon_ops_kinds,List.map_cons,List.map_nil,DataW.agg.injEq,List.cons.injEq,and_true]at e;obtain⟨e0,e1,e2,e3,e4,e5,e6⟩:=e;have h0:=hel 0 au; have h1:=hel 1 au; have h2:=hel 2 au; have h3:=hel 3 au; have h4:=hel 4 au; have h5:=hel 5 au; have h6:=hel 6 au;simp only[Tryz.cells287,Nat.reduceMul,List.drop_zero,List.getElem?_cons_zero,List.getElem?_cons_succ]at h0 h1 h2 h3 h4 h5 h6;obtain⟨d0,p0⟩:=x0; obtain⟨d1,p1⟩:=x1; obtain⟨d2,p2⟩:=x2; obtain⟨d3,p3⟩:=x3; obtain⟨d4,p4⟩:=x4; obtain⟨d5,p5⟩:=x5; obtain⟨d6,p6⟩:=x6;simp only at e0 e1 e2 e3 e4 e5 e6;subst e0 e1 e2 e3 e4 e5 e6
 have hcs:cs.toList=qR:=by
  rw[chunks _ hl,gT h0,gT h1,gT h2,gT h3,gT h4,gT h5,gT h6];rfl
 intro j v hj;rw[World.var?_cell Tryz.kindsAt hvar j,<- Array.getElem?_toList,hcs];exact hj
open Go.ChangeShapes Go.WideShapes Go.ChangeAt Go.RowKit
theorem Ul:ownKnob prog.godebug=none:=ak
abbrev mi:List (String×DataW Unit):=Rows.textPrintsRow.laid
theorem uZ(W:World):laidMetH prog mi W=laidMet prog mi W:=MakeChecks.laidMetH_plain _ _ _ ak
theorem met(os:Os)(args:AVz):laidMetH prog mi ((World.laidAll prog os mi).forCall (fun _ _=>0) ⟨#[],args,[]⟩).memory:=by
 rw[uZ];exact laidMet_laidAll _ ak ak
theorem kinds_met(h:laidMet prog mi W):aX W :=
 vk (laidMet.tail (laidMet.tail (laidMet.tail (laidMet.tail (laidMet.tail (laidMet.tail h))))))
theorem QE(h:laidMet prog mi W):fq W.heap.size W :=
 Lib.tabBelow_of_tabIs (Lib.tabIs_of_head (g:=4) (t:=317) (e:=100) (n:=20) ak ak ak ak ak ak (laidMet.tail (laidMet.tail h)))
theorem Tryz.cells338:prog.cellsOf 338=1:=ak
theorem Tryz.star : "*" ++ "errors.errorString" = "*errors.errorString":=au
theorem Qr(u:TypeId)(h:prog.typeName? 3 u=some "*errors.errorString"):u=336 :=
 typeName_ptr_named (nm:= "errors.errorString") (by rw[Tryz.star]; kernel_rfl) ak au u (by rw[Tryz.star]; exact h)
variable {W':World}{g:Nat}{cs:AVz}
theorem vW{n:String}(hg:prog.globalNamed n=some g)(h:W.var? prog n=some cs)(hb:Zx W W'):W'.var? prog n=some cs:=by
 unfold World.var? at h ⊢;simp only[hg,Zac]at h ⊢
 have hlt:g<W.heap.size:=by
  rcases Zae g W.heap.size with h' | h'
  ·exact h'
  simp[Zaf h']at h
 rw[hb.block g hlt];exact h
theorem MA(h:laidMet prog mi W):vC W.heap.size W:=by
 have h4:=laidMet.tail (laidMet.tail (laidMet.tail (laidMet.tail h)));obtain⟨a0,s0,hv0,-,-,-⟩:=laid_sentinel (g:=6) (ti:=222) (tp:=336) (te:=338) (ts:=9) h4 ak ak underlying222 Qr underlying336 underlying338 rfl rfl underlying9 Tryz.cells338 Tryz.cells9;obtain⟨a1,s1,hv1,-,-,-⟩:=laid_sentinel (g:=5) (ti:=222) (tp:=336) (te:=338) (ts:=9) (laidMet.tail h4) ak ak underlying222 Qr underlying336 underlying338 rfl rfl underlying9 Tryz.cells338 Tryz.cells9;exact⟨⟨_,_,fun W' hb=>vW (g:=5) ak hv1 hb⟩,⟨_,_,fun W' hb=>vW (g:=6) ak hv0 hb⟩⟩
theorem Lm(w:World)(h:w.ShapedOpen prog):uh w :=
 (fun w h=>Go.Proofs.cell_of_shapedOpen_int (zero:=#[ZI 0]) (t:=3) h (of_decide_eq_true ak) ak rfl ak ak underlying3) w h
theorem Rs(hL:laidMetH prog mi W)(hs:W.ShapedOpen prog):cY W.heap.size W:=by
 rw[uZ]at hL;have hm:=Lm W hs;refine⟨QE hL,MA hL,kinds_met hL,hm,?_,Nat.le_refl _⟩;obtain⟨m,hc⟩:=hm;exact World.block_lt_of_cell? W (ZA 3 0) hc
set_option maxHeartbeats 4000000
def rU(u:Nat):List UInt8:=if u=0 then [] else Lib.decDigits u
theorem Jv(u:Nat)(h:0<u):rU u=rU (u / 10)++[UInt8.ofNat (48+u%10)]:=by
 unfold rU;rw[if_neg ae,Lib.decDigits]
 by_cases h1:u<10
 ·rw[dif_pos h1,if_pos ae,Nat.mod_eq_of_lt h1]; rfl
 rw[dif_neg h1,if_neg ae]
theorem OT(w:World):Zw 36 #[ZI 0] w (ZC (.string (bT 0)) w):=by
 have e:bT 0=⟨#[48]⟩:=by
  unfold bT Lib.itoa;rw[if_neg au,Lib.decDigits];rfl
 rw[e];go_enter func36,ntmps36
 go_wp2_with fail;go_ret;exact⟨rfl,ZT _ _⟩
theorem Ti(n:Int)(h0:0<n)(h1:n<=9223372036854775807)(w:World):Zw 36 #[ZI n] w (ZC (.string (bT n)) w):=by
 obtain⟨N,rfl⟩:∃N:Nat,n=N:=⟨n.toNat,ae⟩;have hz:((N:Int)==0)=false:=aA;have hl:¬((N:Int)<0):=ae
 have hwu:IntKind.u64.wrap (N:Int)=N:=by show(N:Int)%18446744073709551616=N; omega
 have hD:rU N++(⟨#[]⟩:BAz).data.toList=Lib.itoa N:=by
  unfold rU Lib.itoa;rw[if_neg ae,if_neg ae];simp
 obtain⟨L,hLN⟩:∃L,Lib.itoa N=L:=⟨_,rfl⟩;rw[hLN]at hD
 have hL:L.length<=21:=by rw[<- hLN]; exact Lib.itoa_length_le _ ae ae
 go_enter func36,ntmps36;go_wp2_with fail
 go_loopw [3,4] (fun p q wr=>∃(u:Nat)(x:BAz),p=.int .u64 u/\q=.string x/\u<=9223372036854775808/\Zx w wr/\rU u++x.data.toList=L) (fun p q wr=>(intOf p).toNat)
 case atStart=>exact⟨N,⟨#[]⟩,rfl,rfl,ae,ZT _ _,hD⟩
 case round =>
  obtain⟨u,x,rfl,rfl,hu,hB,hx⟩:=hrel
  by_cases h0:u=0
  ·subst h0;go_wp2_with fail;go_ret;refine⟨?_,hB⟩
   have h2:x=bT N:=by
    cases x with | mk a=>cases a with | mk l =>
    have h3:l=L:=by simpa[rU] using hx
    unfold bT;rw[h3,hLN]
   rw[h2];rfl
  exact LH
theorem Tf(n:Int)(h0:n<0)(h1:-9223372036854775808<=n)(w:World):Zw 36 #[ZI n] w (ZC (.string (bT n)) w):=by
 obtain⟨N,rfl⟩:∃N:Nat,n=-(N:Int):=⟨(-n).toNat,ae⟩;have hz:((-(N:Int))==0)=false:=aA;have hl:(-(N:Int))<0:=ae
 have hwu:IntKind.u64.wrap (-(N:Int))=18446744073709551616-N:=by show(-(N:Int))%18446744073709551616=_; omega
 have hwn:IntKind.u64.wrap (-(18446744073709551616-(N:Int)))=N:=by show(-(18446744073709551616-(N:Int)))%18446744073709551616=_; omega
 obtain⟨L,hLN⟩:∃L,Lib.itoa (-(N:Int))=45::L:=by
  refine⟨Lib.decDigits N,?_⟩;unfold Lib.itoa;rw[if_pos ae];simp
 have hD:rU N++(⟨#[]⟩:BAz).data.toList=L:=by
  have h2:Lib.itoa (-(N:Int))=45::Lib.decDigits N:=by
   unfold Lib.itoa;rw[if_pos ae];simp
  rw[h2]at hLN;injection hLN with _ h3;rw[<- h3];unfold rU;rw[if_neg ae];simp
 have hL:L.length<=21:=by
  have h2:=Lib.itoa_length_le (-(N:Int)) ae ae;rw[hLN]at h2;simp at h2;omega
 go_enter func36,ntmps36;go_wp2_with fail
 go_loopw [3,4] (fun p q wr=>∃(u:Nat)(x:BAz),p=.int .u64 u/\q=.string x/\u<=9223372036854775808/\Zx w wr/\rU u++x.data.toList=L) (fun p q wr=>(intOf p).toNat)
 case atStart=>exact⟨N,⟨#[]⟩,rfl,rfl,ae,ZT _ _,hD⟩
 case round =>
  obtain⟨u,x,rfl,rfl,hu,hB,hx⟩:=hrel
  by_cases h0:u=0
  ·subst h0
   have hsx:x.size<=100:=by
    exact GU
   have hs1:(⟨#[45]⟩:BAz).size=1:=rfl;go_wp2_with fail;go_ret;refine⟨?_,hB⟩
   have h2:(⟨#[45]⟩:BAz)++x=bT (-(N:Int)):=by
    cases x with | mk a=>cases a with | mk l =>
    have h3:l=L:=by simpa[rU] using hx
    unfold bT;rw[hLN,h3];apply ByteArray.ext;simp
   rw[<- h2];rfl
  exact LH
theorem UK(n:Int)(h0:-9223372036854775808<=n)(h1:n<=9223372036854775807)(w:World):Zw 36 #[ZI n] w (ZC (.string (bT n)) w):=by
 by_cases hz:n=0
 ·subst hz; exact OT w
 by_cases hp:0<n
 ·exact Ti n hp h1 w
 exact Tf n ae h0 w
theorem Oh:∀(l:Zaj)(acc:Nat)(r:Zaj)(u:Nat),Lib.parseUint10 acc l=.ok u->Lib.parseUint10 acc (l++r)=Lib.parseUint10 u r
 | [],acc,r,u,h=>by
  simp only[Lib.parseUint10]at h;injection h with h;subst h;rfl
 | c::l,acc,r,u,h=>by
  simp only[List.cons_append,Lib.parseUint10]at h ⊢
  split at h
  ·rename_i h1
   rw[if_pos h1]
   split at h
   ·cases h
   rename_i h2;rw[if_neg h2]
   split at h
   ·cases h
   rename_i h3;rw[if_neg h3];exact Oh l _ r u h
  cases h
variable {d:Nat}
theorem nQ(h:d<10):(UInt8.ofNat (48+d)).toNat=48+d:=by
 rw[UInt8.toNat_ofNat'];omega
theorem Gc(u:Nat)(hu:u<18446744073709551616):Lib.parseUint10 0 (Lib.decDigits u)=.ok u:=by
 induction u using Nat.strongRecOn with
 | ind u ih =>
  rw[Lib.decDigits]
  split
  ·rename_i h
   simp only[Lib.parseUint10,nQ h];rw[if_pos ae,if_neg ae,if_neg ae]
   congr 1
   omega
  rename_i h;rw[Oh _ _ _ _ (ih (u / 10) ae ae)];have hd:u%10<10:=Nat.mod_lt _ au;simp only[Lib.parseUint10,nQ hd];rw[if_pos ae,if_neg ae,if_neg ae]
  congr 1
  omega
theorem xE(u:Nat):∀c∈Lib.decDigits u,48<=c.toNat/\c.toNat<=57:=by
 induction u using Nat.strongRecOn with
 | ind u ih =>
  intro c hc;rw[Lib.decDigits]at hc
  split at hc
  ·rename_i h
   obtain rfl:=List.mem_singleton.1 hc;rw[nQ h]; omega
  rename_i h
  rcases List.mem_append.1 hc with hc | hc
  ·exact ih (u / 10) ae c hc
  obtain rfl:=List.mem_singleton.1 hc;rw[nQ (Nat.mod_lt _ au)];have:u%10<10:=Nat.mod_lt _ au;omega
theorem Nr(u:Nat):Lib.decDigits u≠[]:=by
 rw[Lib.decDigits]
 split <;> simp
theorem JQ(n:Int)(h:I64 n):Lib.atoiAll (Lib.itoa n)=.ok n:=by
 unfold I64 at h;unfold Lib.itoa
 split
 ·rename_i hn
  simp only[Lib.atoiAll];rw[if_pos au]
  have e:Lib.parseMag (Lib.decDigits n.natAbs)=.ok n.natAbs:=by
   unfold Lib.parseMag;rw[if_neg (Nr _)];exact Gc _ ae
  rw[e];dsimp only;rw[if_neg av,if_neg ae,if_pos au]
  congr 1
  omega
 rename_i hn
 have e:Lib.parseMag (Lib.decDigits n.toNat)=.ok n.toNat:=by
  unfold Lib.parseMag;rw[if_neg (Nr _)];exact Gc _ ae
 rcases hd:Lib.decDigits n.toNat with _ | ⟨c,r⟩
 ·exact absurd hd (Nr _)
 have hc:=xE n.toNat c (by rw[hd]; simp);simp only[Lib.atoiAll]
 rw[if_neg ae,<- hd,e];dsimp only;(iterate 3 rw[if_neg ae])
 congr 1
 omega
theorem VG(n:Int)(h:I64 n):nmV (bT n)=some n:=by
 unfold nmV
 have e:Lib.parseIntB 64 (bT n).data.toList=.ok n:=by
  rw[Lib.parseIntB_64];exact JQ n h
 rw[e];simp
theorem Cj:∀(a r:Zaj),(∀c∈a,c≠10)->bp (a++10::r)=a::bp r
 | [],r,_=>by simp[bp]
 | c::a,r,h=>by
  have hc:(c==10)=false:=by simpa using h c av
  rw[List.cons_append,bp,hc,Cj a r (fun x hx=>h x mB)];rfl
def je:List UInt8->Option (List UInt8)->List (List UInt8)
 | [],none=>[]
 | [],some t=>[t]
 | c::l,none=>if ic c.toNat=true then je l none else je l (some [c])
 | c::l,some t=>if ic c.toNat=true then t::je l none else je l (some (t++[c]))
theorem drop_at(l:Zaj){pos:Nat}(h:pos<l.length):l.drop pos=l[pos]! :: l.drop (pos+1):=by
 rw[List.drop_eq_getElem_cons h,List.getElem!_eq_getElem?_getD,aD h];rfl
theorem yR(l:Zaj){a pos:Nat}(ha:a<=pos)(h:pos<l.length):(l.drop a).take (pos+1-a)=(l.drop a).take (pos-a)++[l[pos]!]:=by
 have e:pos+1-a=(pos-a)+1:=ae;rw[e,List.take_add_one,List.getElem?_drop,show a+(pos-a)=pos by omega,List.getElem!_eq_getElem?_getD,aD h];rfl
theorem ra:∀(w t r:Zaj),(∀c∈w,ic c.toNat=false)->je (w++r) (some t)=je r (some (t++w))
 | [],t,r,_=>by simp
 | c::w,t,r,h=>by
  rw[List.cons_append,je,if_neg (by simp[h c av]),ra w _ r (fun x hx=>h x mB)];simp
def Wrd(w:Zaj):Prop:=w≠[]/\∀c∈w,ic c.toNat=false
theorem LQ{w:Zaj}(h:Wrd w)(r:Zaj):je (w++r) none=je r (some w):=by
 obtain⟨h0,h1⟩:=h
 cases w with
 | nil=>exact absurd rfl h0
 | cons c w =>
  rw[List.cons_append,je,if_neg (by simp[h1 c av]),ra w _ r (fun x hx=>h1 x mB)];rfl
def gU:Int->List UInt8->Int
 | u,[]=>u
 | u,c::l=>gU ((10*u+((c.toNat:Int)-48))%18446744073709551616) l
theorem QC:∀(l r:Zaj)(u:Int),gU u (l++r)=gU (gU u l) r
 | [],r,u=>rfl
 | c::l,r,u=>by rw[List.cons_append]; exact QC l r _
theorem Ur(u:Nat):u<18446744073709551616->gU 0 (Lib.decDigits u)=u:=by
 induction u using Nat.strongRecOn with
 | ind u ih =>
  intro h;rw[Lib.decDigits]
  split
  ·rename_i h1
   simp only[gU];rw[nQ h1];omega
  rename_i h1;rw[QC,ih (u / 10) ae ae];simp only[gU];rw[nQ (Nat.mod_lt _ au)];omega
theorem Qh:∀(k u:Nat),u<10 ^ (k+1)->(Lib.decDigits u).length<=k+1:=by
 intro k
 induction k with
 | zero =>
  intro u h;rw[Lib.decDigits,dif_pos ae];simp
 | succ k ih =>
  intro u h;rw[Lib.decDigits]
  split
  ·simp
  have:=ih (u / 10) (by rw[Nat.pow_succ]at h; omega);simp;omega
theorem Xl(v:Int)(h:I64 v):(Lib.itoa v).length<=20:=by
 unfold I64 at h;unfold Lib.itoa
 split
 ·have:=Qh 18 v.natAbs ae
  simp;omega
 have:=Qh 18 v.toNat ae;omega
variable {s:BAz}
theorem zh{v:Int}:nmV s=some v↔I64 v/\s.data.toList=Lib.itoa v:=by
 constructor
 ·intro h;refine⟨mg h,?_⟩;have h2:=(pu h).2;rw[bq,bq]at h2;rw[<- h2]
  simp[bT]
 rintro⟨h1,h2⟩
 have:s=bT v:=by
  apply ByteArray.ext;apply Array.toList_inj.1;rw[h2];simp[bT]
 rw[this];exact VG v h1
variable {k:Nat}
theorem QL(v:Int){c:UInt8}(h:(Lib.itoa v)[k]? =some c):(48<=c.toNat/\c.toNat<=57)\/(k=0/\c.toNat=45):=by
 unfold Lib.itoa at h
 split at h
 ·cases k with
  | zero=>simp at h; subst h; exact .inr ⟨rfl,au⟩
  | succ k=>rw[List.getElem?_cons_succ]at h; exact .inl (xE _ c (ZO h))
 exact .inl (xE _ c (ZO h))
def mS(l:Zaj):Bool:=l.head? == some 45
def drN(l:Zaj)(k:Nat):List UInt8:=if k=0/\mS l=true then l.drop 1 else l.drop k
def po(l:Zaj):Int:=if mS l=true then IntKind.i64.wrap (-(IntKind.i64.wrap (gU 0 (drN l 0)))) else IntKind.i64.wrap (gU 0 (drN l 0))
theorem J1(v:Int)(h:I64 v):po (Lib.itoa v)=v:=by
 unfold I64 at h;unfold Lib.itoa
 split
 ·rename_i hn
  have e:mS (45::Lib.decDigits v.natAbs)=true:=rfl
  have e2:drN (45::Lib.decDigits v.natAbs) 0=Lib.decDigits v.natAbs:=by unfold drN; rw[if_pos ⟨rfl,e⟩]; rfl
  unfold po;rw[if_pos e,e2,Ur _ ae]
  by_cases h1:v=-9223372036854775808
  ·subst h1; decide
  rw[IntWalk.i64_in (v.natAbs:Int) ae,IntWalk.i64_in _ ae];omega
 rename_i hn
 have hd:∀c,(Lib.decDigits v.toNat).head? =some c->c.toNat≠45:=by
  intro c hc;have:=xE v.toNat c (List.mem_of_mem_head? hc);omega
 have e:mS (Lib.decDigits v.toNat)=false:=by
  unfold mS
  cases hh:(Lib.decDigits v.toNat).head? with
  | none=>rfl
  | some c =>
   have:=hd c hh;simp;intro h; subst h; exact this rfl
 unfold po drN;rw[if_neg (by simp[e]),if_neg (by simp[e]),List.drop_zero,Ur _ ae,IntWalk.i64_in _ ae];omega
abbrev ba(l:Zaj):ByteArray:=⟨l.toArray⟩
abbrev St8(w:World)(base:Nat)(v:Value)(xs:Zai):Prop:=w.ownsRow base 9 1 v xs.length (xs.map Value.string)
theorem FM(w:World)(base:Nat):St8 w base (ZN) []:=Z7 w base 9 1
variable {w':World}{e n:Nat}{xs:Zah}
theorem jN{v:Value}(h:w.ownsRow base e k v n xs)(hg:w.grownBy w' v.ownBlock)(hb:base<=w.heap.size):Below base w w' :=
 ⟨hg.os,hg.tape,hg.output,hg.size,fun j hj=>hg.block j ae (fun e=>by have:=(dN h e.symm).1; omega)⟩
variable {ops:Array Oper}{o:Oper}{a:Act}{Q:Zan}
theorem Rz(w:World){rest:List Oper}(hgd:o.guard=none)(sl x:Operand)(ho:o.op=Op.call { callee:=Callee.builtin Builtin.append,args:=#[sl,x],argTypes:=#[64,64] })(base:Nat)(v:Value)(xs:Zai)(s:BAz)(b:Nat)
  (hs:a.eval sl=v) (hown:St8 w base v xs) (hx:a.eval x=ZL b 1 1) (hc:w.cell? (ZA b 0)=some (.string s)) (hb:xs.length<=1099511627776) (hbase:base<=w.heap.size)
  (h:∀(v':Value)(w':World),St8 w' base v' (xs++[s])->Below base w w'->wpList prog ops Q rest (a.put o.dst v') w'):wpList prog ops Q (o::rest) a w:=by
 obtain⟨i0,hi,hz0,hz1,hz2⟩:=Z0 Mb;refine wpList_append_own w hgd sl x 64 ho base 9 i0 (.string ⟨#[]⟩) 1 16 underlying64 hi hz0 hz1 hz2 rfl au v xs.length _ hs hown (ZA b 0) 1 1 [.string s] hx rfl ?_ ?_ aP ae hbase ?_
 ·exact zE
 ·exact zY
 intro v' w' ho' hg _;refine h v' w' ?_ (jN hown hg hbase);unfold St8;rw[ZV,List.map_append];exact ho'
theorem Ca:∀(l:Zaj),(∀c∈l,c≠10)->bp l=[l]
 | [],_=>rfl
 | c::l,h=>by
  have hc:(c==10)=false:=by simpa using h c av
  rw[bp,hc,Ca l (fun x hx=>h x mB)];rfl
theorem Ve(l:Zaj){f i:Nat}(hf:f<=i)(hi:i<l.length):(l.drop f)=(l.drop f).take (i-f)++(l[i]! :: l.drop (i+1)):=by
 have e:l.drop i=(l.drop f).drop (i-f):=by rw[List.drop_drop]; congr 1; omega
 rw[<- drop_at l hi,e,List.take_append_drop]
theorem Ro(l:Zaj){f i:Nat}(hf:f<=i)(hi:i<l.length)(h:∀c∈(l.drop f).take (i-f),c≠10)(hc:l[i]! ≠ 10):∀c∈(l.drop f).take (i+1-f),c≠10:=by
 rw[yR l hf hi];intro c hx
 rcases List.mem_append.1 hx with hx | hx
 ·exact h c hx
 obtain rfl:=List.mem_singleton.1 hx;exact hc
theorem yP(s:BAz)(i j:Nat):s.extract i j=ba ((s.data.toList.drop i).take (j-i)):=eu (ext_list s i j)
theorem QM(s:BAz)(w:World)(hs:s.size<=1000000000) :
  Zw 19 #[.string s] w fun e w'=>∃v,e=.returned v/\St8 w' w.heap.size v (bg s)/\Zx w w':=by
 have hL:s.data.toList.length=s.size:=Zab;have hR:∃P,bg s=P:=⟨_,rfl⟩;obtain⟨P,hP⟩:=hR;rw[hP];have HPL:=hid (show P.length<=s.size+1 by rw[<- hP]; exact jM s);have HP:=hid hP;clear hP;go_enter func19,ntmps19;go_wp2_with fail
 go_loopw [3,4,5] (fun l f i wr=>∃(xs:Zai)(fr k:Nat),f=ZI fr/\i=ZI k/\fr<=k/\k<=s.size/\Hid (St8 wr w.heap.size l xs)/\Hid (Zx w wr)/\Hid (P=xs++(bp (s.data.toList.drop fr)).map ba)/\Hid (∀c∈(s.data.toList.drop fr).take (k-fr),c≠10)) (fun _ _ i _=>s.size-(intOf i).toNat)
 case atStart=>exact⟨[],0,0,rfl,rfl,Nat.le_refl _,Z5 _,hid (FM w _),hid (ZT _ _),hid (by rw[List.drop_zero,<- HP.out]; rfl),hid (fun c hc=>by simp at hc)⟩
 case round =>
  obtain⟨xs,fr,k,rfl,rfl,hfk,hk,HS,HB,HQ,HN⟩:=hrel
  by_cases hlt:k<s.size
  ·have hlt':(k:Int)<(s.size:Int):=ae;have It:(0:Int)<=(k:Int):=ae;have vf:(0:Int)<=(fr:Int):=ae;have hfk':(fr:Int)<=(k:Int):=ae;have hks:(k:Int)<=(s.size:Int):=ae;have hwi:IntKind.i64.wrap ((k:Int)+1)=k+1:=IntWalk.i64_in _ ae;have qe:k<s.data.toList.length:=ae
   have HXL:=hid (show xs.length<=s.size+1 by have h1:=HPL.out; have h2:=congrArg List.length HQ.out; rw[ZV]at h2; omega);have rn:=hid (show s.data.toList[k]! =s[k] by rw[getElem!_pos s.data.toList k qe]; rfl)
   by_cases hc:s[k].toNat=10
   ·have HE:=hid (show s.data.toList[k]! =10 by rw[rn.out]; exact UInt8.toNat_inj.1 hc)
    go_wp2_with (at_builtin; (refine Rz _ rfl (.tmp 16) (.tmp 21) rfl w.heap.size _ xs (s.extract fr k) wr.heap.size rfl (HS.out.alloc _) rfl av zG qu ?_; intro v5 w5 As AI; have HS5:=hid As; have de:=hid ((HB.out.alloc HB.out.size _).trans AI); clear As AI))
    refine⟨⟨xs++[s.extract fr k],k+1,k+1,bu,bu,Nat.le_refl _,hlt,HS5,de,hid ?_,hid (fun c hc=>by simp at hc)⟩,bD⟩;rw[HQ.out,Ve _ hfk qe,HE.out,Cj _ _ HN.out,List.map_cons,yP,Z2];rfl
   have HE:=hid (show s.data.toList[k]! ≠ 10 by rw[rn.out]; intro h; exact hc (by rw[h]; rfl))
   go_wp2_with fail;exact⟨⟨xs,fr,k+1,bu,bu,ae,hlt,HS,HB,HQ,hid (Ro _ hfk qe HN.out HE.out)⟩,bD⟩
  obtain rfl:k=s.size:=ae;have HXL:=hid (show xs.length<=s.size+1 by have h1:=HPL.out; have h2:=congrArg List.length HQ.out; rw[ZV]at h2; omega);have vf:(0:Int)<=(fr:Int):=ae;have hfk':(fr:Int)<=(s.size:Int):=ae
  go_wp2_with (at_builtin; (refine Rz _ rfl (.tmp 25) (.tmp 29) rfl w.heap.size _ xs (s.extract fr s.size) wr.heap.size rfl (HS.out.alloc _) rfl av zG qu ?_; intro v5 w5 As AI; have HS5:=hid As; have de:=hid ((HB.out.alloc HB.out.size _).trans AI); clear As AI))
  go_wp2_with fail;go_ret;refine⟨_,rfl,?_,de.out⟩
  rw[HQ.out,Ca _ (fun c hc=>HN.out c (by rw[ZY (by rw[List.length_drop]; omega)]; exact hc)),<- ZY (l:=List.drop fr s.data.toList) (i:=s.size-fr) (by rw[List.length_drop]; omega)];have:=HS5.out;rw[yP]at this;exact this
theorem YF{U c:Nat}(hU:U<18446744073709551616)(h48:48<=c)(h57:c<=57):IntKind.u64.wrap (IntKind.u64.wrap (10*(U:Int))+((c:Int)-48))=(10*(U:Int)+((c:Int)-48))%18446744073709551616:=by
 show((10*(U:Int))%18446744073709551616+((c:Int)-48))%18446744073709551616=_;omega
theorem Nw(l:Zaj):I64 (po l):=by
 unfold po I64
 split
 ·rw[IntKind.wrap_i64]; omega
 rw[IntKind.wrap_i64]; omega
theorem AA{l:Zaj}(hl:s.data.toList=l)(h:((bT (po l)).toList==s.toList)=true):nmV s=some (po l):=by
 refine zh.2 ⟨Nw l,?_⟩;have h2:(bT (po l)).toList=s.toList:=lY;rw[bq,bq]at h2;rw[<- h2];simp[bT]
theorem vY{l:Zaj}{v:Int}(hl:s.data.toList=l)(h:nmV s=some v):po l=v/\((bT (po l)).toList==s.toList)=true:=by
 obtain⟨h1,h2⟩:=zh.1 h
 have he:po l=v:=by rw[<- hl,h2]; exact J1 v h1
 refine⟨he,?_⟩;rw[he,bq,bq,h2];simp[bT]
def Zk(s:BAz)(w:World)(e:Ending)(w':World):Prop:=Zx w w'/\∃n b,e=.returned (.tuple #[ZI n,.bool b])/\(b=true->nmV s=some n)/\∀v,nmV s=some v->n=v/\b=true
theorem tF(s:BAz)(w:World):Zw 126 #[.string s] w (Zk s w):=by
 have hL:s.data.toList.length=s.size:=Zab
 by_cases h20:s.size<=20
 rotate_left
 ·have hd:((20:Int)<(s.size:Int)):=ae
  have hno:nmV s=none:=by
   cases hn:nmV s with
   | none=>rfl
   | some v =>
    obtain⟨h1,h2⟩:=zh.1 hn;have:=Xl v h1;rw[<- h2]at this;omega
  go_enter func126,ntmps126
  go_wp2_with fail;go_ret2
  exact⟨ZT _ _,0,false,rfl,(fun h=>nomatch h),fun v hv=>by rw[hno]at hv; cases hv⟩
 have hd:¬((20:Int)<(s.size:Int)):=ae;go_enter func126,ntmps126;obtain⟨l,hl⟩:∃l,s.data.toList=l:=⟨_,rfl⟩;rw[hl]at hL;have HL:=hid hl;go_wp2_with fail
 go_loopw [4,5] (fun u i wr=>∃(U k:Nat),u=.int .u64 U/\i=ZI k/\k<=s.size/\U<18446744073709551616/\Hid (Zx w wr)/\Hid (gU U (drN l k)=gU 0 (drN l 0))) (fun u i wr=>s.size+1-(intOf i).toNat)
 case atStart=>exact⟨0,0,rfl,rfl,Z5 _,ae,hid (ZT _ _),hid rfl⟩
 case round =>
  obtain⟨U,k,rfl,rfl,hk,hU,HB,HG⟩:=hrel
  by_cases hlt:k<s.size
  ·have hlt':(k:Int)<(s.size:Int):=ae;have It:(0:Int)<=(k:Int):=ae;have hwi:IntKind.i64.wrap ((k:Int)+1)=k+1:=IntWalk.i64_in _ ae;have qe:k<l.length:=ae
   have rn:=hid (show l[k]=s[k] by subst hl; rfl)
   by_cases hA:k=0/\s[k].toNat=45
   ·obtain⟨rfl,hc⟩:=hA;go_wp2_with fail
    have hn:mS l=true:=by
     unfold mS;rw[List.head?_eq_getElem?,aD qe,rn.out];have:s[0]=45:=UInt8.toNat_inj.1 hc;rw[this];rfl
    have he:drN l 1=drN l 0:=by
     unfold drN;rw[if_neg ae,if_pos ⟨rfl,hn⟩]
    exact⟨⟨U,1,rfl,rfl,hlt,hU,HB,hid (by rw[he]; exact HG.out)⟩,sX⟩
   have hdr:drN l k=l[k]::drN l (k+1):=by
    have e1:drN l (k+1)=l.drop (k+1):=by unfold drN; rw[if_neg ae]
    rw[e1];unfold drN
    rw[if_neg (fun h=>hA ⟨h.1,by
     have h1:=h.2;have h0:=h.1;subst h0;unfold mS at h1;rw[List.head?_eq_getElem?,aD qe,rn.out]at h1;have h3:s[0]=45:=mJ
     rw[h3]; rfl⟩)]
    exact List.drop_eq_getElem_cons qe
   by_cases hD:48<=s[k].toNat/\s[k].toNat<=57
   rotate_left
   ·have hno:nmV s=none:=by
     cases hn:nmV s with
     | none=>rfl
     | some v =>
      obtain⟨h1,h2⟩:=zh.1 hn;rw[HL.out]at h2;have h3:=QL v (k:=k) (c:=s[k]) (by rw[<- h2,aD qe,rn.out])
      rcases h3 with h3 | h3
      ·exact absurd h3 hD
      exact absurd h3 hA
    have HNO:=hid hno;have hAk:k=0\/0<k:=ae
    by_cases h48:s[k].toNat<48
    ·exact Le
    have h57:57<s[k].toNat:=ae;exact Le
   obtain⟨h48,h57⟩:=hD;have h48':¬s[k].toNat<48:=ae;have h57':¬57<s[k].toNat:=ae;have hAk:k=0\/0<k:=ae
   have hG2:gU ((10*(U:Int)+((s[k].toNat:Int)-48))%18446744073709551616) (drN l (k+1))=gU 0 (drN l 0):=by
    have:=HG.out;rw[hdr,rn.out]at this;exact this
   obtain⟨X,hX⟩:∃X:Nat,(X:Int)=(10*(U:Int)+((s[k].toNat:Int)-48))%18446744073709551616:=⟨_,Int.toNat_of_nonneg (Int.emod_nonneg _ (show(18446744073709551616:Int)≠0 by decide))⟩;rw[<- hX]at hG2;have hXl:X<18446744073709551616:=ae;obtain⟨HXX,HG2⟩:=Zz hX hG2;clear hX;clear hdr hG2
   rcases hAk with rfl | hpos
   ·have h45:¬s[0].toNat=45:=fun h=>hA ⟨rfl,h⟩
    clear hA;go_wp2_with fail;refine⟨⟨X,1,?_,rfl,hlt,hXl,HB,HG2⟩,sX⟩;rw[YF hU h48 h57,HXX.out]
   have hk1:((k:Int)==0)=false:=aA;clear hA;go_wp2_with fail;refine⟨⟨X,k+1,?_,bu,hlt,hXl,HB,HG2⟩,sX⟩;rw[YF hU h48 h57,HXX.out]
  obtain rfl:k=s.size:=ae
  have hT:(U:Int)=gU 0 (drN l 0):=by
   have h1:=HG.out
   have h2:drN l s.size=[]:=by
    unfold drN
    split
    ·rename_i h
     have:l=[]:=Z6 ae;rw[this]; rfl
    exact List.drop_of_length_le ae
   rw[h2]at h1;exact h1
  obtain⟨V,hV⟩:∃V,IntKind.i64.wrap (U:Int)=V:=⟨_,rfl⟩
  have hVr:-9223372036854775808<=V/\V<=9223372036854775807:=by rw[<- hV,IntKind.wrap_i64]; omega
  obtain⟨V2,hV2⟩:∃V2,IntKind.i64.wrap (-V)=V2:=⟨_,rfl⟩
  have hVr2:-9223372036854775808<=V2/\V2<=9223372036854775807:=by rw[<- hV2,IntKind.wrap_i64]; omega
  by_cases hn:mS l=true
  ·have hend:po l=V2:=by unfold po; rw[if_pos hn,<- hT,hV,hV2]
   have hpos:0<s.size:=by
    rcases Nat.eq_zero_or_pos s.size with h0 | h0
    ·have:l=[]:=Z6 ae;rw[this]at hn; cases hn
    exact h0
   have hpos':(0:Int)<(s.size:Int):=ae
   have hc:s[0].toNat=45:=by
    have h1:=hn;unfold mS at h1;have qe:0<l.length:=ae
    have rn:l[0]=s[0]:=by subst hl; rfl
    rw[List.head?_eq_getElem?,aD qe,rn]at h1;have h3:s[0]=45:=mJ;rw[h3]; rfl
   have HD:=hid (UK V2 hVr2.1 hVr2.2);have HE:=hid hend
   have hV':wrap64 (U:Int)=V:=by rw[<- hV,IntWalk.i64_left]
   have hV2':wrap64 (-V)=V2:=by rw[<- hV2,IntWalk.i64_left]
   clear hT hend hV hV2 hn HG;go_wp2_with fail;refine(HD.out wr).mono ?_;rintro e w1⟨rfl,hb⟩;have SO:=Zy HB hb;clear hb HD;go_wp2_with fail;go_ret2;refine⟨SO.out,V2,_,rfl,fun h=>?_,fun v hv=>?_⟩
   ·rw[<- HE.out]at h ⊢;exact AA HL.out h
   rw[<- HE.out];exact vY HL.out hv
  have hend:po l=V:=by unfold po; rw[if_neg hn,<- hT,hV]
  have HD:=hid (UK V hVr.1 hVr.2);have HE:=hid hend
  have hV':wrap64 (U:Int)=V:=by rw[<- hV,IntWalk.i64_left]
  by_cases hpos:0<s.size
  ·have hpos':(0:Int)<(s.size:Int):=ae
   have hc:¬s[0].toNat=45:=by
    intro h1;have qe:0<l.length:=ae
    have rn:l[0]=s[0]:=by subst hl; rfl
    refine hn ?_;unfold mS;rw[List.head?_eq_getElem?,aD qe,rn,show s[0]=45 from UInt8.toNat_inj.1 h1];rfl
   exact Mg
  have hpos':¬(0:Int)<(s.size:Int):=ae;exact Mg
end
end Go.Proofs.YtheefojaplnnoaaGreatDoor
