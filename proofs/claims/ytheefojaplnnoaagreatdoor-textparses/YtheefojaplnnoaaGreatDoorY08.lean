/-
  Texts Pl Pm Pn Po Pp Pq Ps.
-/
import Derived.Test.YtheefojaplnnoaaGreatDoorY07
set_option linter.unusedVariables false
set_option maxRecDepth 100000
set_option maxHeartbeats 16000000
namespace Go.Proofs.YtheefojaplnnoaaGreatDoor
open Go.Proofs.Tryz
open Go.RowKit
theorem Lu:(prog.info? 78).map (fun i=>(i.zero,i.size,i.bytes))=some (some (.agg #[ZI 0,.string ⟨#[]⟩,ZN]),3,48):=ak
theorem uL(s:BAz)(w:World)(hs:s.size<=281474976710656):Zw 172 #[.string s] w (ZC (.string s) w):=by
 have HC:=hid (Tryz.stringslite_Clone s w hs);go_enter func172,ntmps172
 go_wp2_with fail;refine HC.out.mono ?_;rintro e w1⟨rfl,hb⟩;go_wp2_with fail;go_ret;exact⟨rfl,hb⟩
variable {mp:Value}{m:MM}{ln pt:Int}{w:World}{ws:Zai}
theorem NQ{B base R A n c:Nat}(h:RQ base R mp m ln pt w)(hw:Wds w A n c ws)(hA:base<=A)(hE:cY B w)(Fo:B<=R)(hps:psz (pl m)<=2097152)(h1:5<=pt/\pt<=6)(h2:n=3){v:Int}(h3:nmV (wdx ws 1)=some v)(h4:(wdx ws 2).toList=[45]) :
  Zw 113 #[ZP R 0,ZL A n c] w (LnP base R mp ln w (iz pt (pl m) ws)):=by
 obtain⟨i0,hi,hz0,hz1,hz2⟩:=Z0 Lu;obtain⟨x,hx⟩:=ZB ws 1 bN;have ex:wdx ws 1=x:=cX;obtain⟨y,hy⟩:∃x,ws[2]? =some x:=⟨_,aD bN⟩;have ey:wdx ws 2=y:=fy
 have e:iz pt (pl m) ws=some (6,{ pl m with fns:=(pl m).fns++[(v,⟨#[]⟩,[])] }):=by
  rw[ex]at h3; rw[ey]at h4;unfold iz; rw[if_pos ⟨h1,ig⟩,ex,ey]; rw[h3]; unfold gX; rw[if_pos h4]; rfl
 rw[e];subst h2
 have hn:m.fn<=2097152:=by
  exact wJ
 have HO:=hid (cu h 5 6 h1.1 h1.2);have q1:=h.part 6 ae;have d1:=hw.setR (o:=10) (u:=ZI 6) hA h.low;have k1:=KR.set base R 10 w (ZI 6);have e1:=hE.later (k1.below Fo cP hE.bw);have HM:=hid (aO R (w.setCell (ZA R 10) (ZI 6)));generalize w.setCell (ZA R 10) (ZI 6)=w1 at *;obtain⟨Ln,me,GT,aE⟩:=ZF q1 d1 k1 e1;have sx:=hw.sz x (ZO hx);have Kx:=ZJ d1 hx;have sy:=hw.sz y (ZO hy);have IN:=ZJ d1 hy;rw[ex]at h3;rw[ey]at h4;have Xs:=hid (fun(W:World) (hW:Zx w1 W)=>iV B R x v W (e1.tens.later (hW.mono e1.bw)) (ZW e1.bw hW.size) ae h3);clear h hw hE hps h1 q1 d1 k1 e1 e hx ex hy ey h3;go_enter func113,ntmps113
 go_wp2_with fail;refine ZE HO.out ?_;go_wp2_with fail;refine ZE HM.out ?_;have cx:=Kx.out w1 (ZT _ _);go_wp2_with fail;refine(Xs.out _ (ZT _ _)).mono ?_;rintro e w5⟨rfl,AI⟩;have B5:=hid AI;clear AI;have cy:(w5.alloc (aN v ⟨#[]⟩ none 0 0)).cell? (ZA A 2)=some (.string y):=IN.out _ (B5.out.trans ((aj w5 _).mono B5.out.size));have hAl:=hid (ZQ (IN.out _ B5.out));go_wp2_with fail;have AT:=hid (hZn w5 (aN v ⟨#[]⟩ none 0 0));have KX:=hid (KR.later (base:=base) (R:=R) (B5.out.trans ((aj w5 (aN v ⟨#[]⟩ none 0 0)).mono B5.out.size)));have Q1:=hid (Ln.out.later (B5.out.trans ((aj w5 (aN v ⟨#[]⟩ none 0 0)).mono B5.out.size)));clear cy;generalize w5.alloc (aN v ⟨#[]⟩ none 0 0)=w9 at *;generalize w5.heap.size=X at *;have B1:=hid ((ZT w9.heap.size w9).drew)
 refine ZX (S:=fun _=>True) ak trivial (fun _=>?_)
 generalize w9.drew=wd at *;refine Zt 0 ?_;refine Zt 1 ?_;refine Zt 2 ?_;refine Zt 3 ?_;refine Zt 4 ?_;refine Zu 5 6 (fun K hK=>?_) fun K hK=>?_
 ·have cH:wd.cell? (ZA R 6)=some (.slice m.fa m.fn m.fc):=(Q1.out.later B1.out).cells 6;go_simp
  refine Zv hK ?_;clear hK K;refine ZR 6 fun K hK=>?_;have y0:=iz0 (ar B1.out AT.out);have y1:=iz1 (ar B1.out AT.out);have y2:=iz2 (ar B1.out AT.out);exact Lc
 have y0:=iz0 (ar B1.out AT.out);have y1:=iz1 (ar B1.out AT.out);have y2:=iz2 (ar B1.out AT.out);go_simp;refine Zv hK ?_;clear hK K;refine Zu 5 7 (fun K hK=>?_) fun K hK=>?_
 ·have cH:wd.cell? (ZA R 6)=some (.slice m.fa m.fn m.fc):=(Q1.out.later B1.out).cells 6;exact Lc
 go_simp;have BN:=Zy B1 (aj wd (aN v ⟨#[]⟩ none 0 0));refine Zv hK ?_;clear hK K;refine ZR 5 fun K hK=>?_;have cH:(wd.alloc (aN v ⟨#[]⟩ none 0 0)).cell? (ZA R 6)=some (.slice m.fa m.fn m.fc):=(Q1.out.later BN.out).cells 6;go_simp;refine Zv hK ?_;clear hK K;refine ZR 8 fun K hK=>?_;refine wp_append_lies _ (.tmp 32) (.tmp 34) 25 rfl base 78 i0 (.agg #[ZI 0,.string ⟨#[]⟩,ZN]) 3 48 underlying25 hi hz0 hz1 hz2 rfl au (.slice m.fa m.fn m.fc) m.fn (m.fns.flatMap dA) rfl (Q1.out.later BN.out).rf (ZA wd.heap.size 0) 1 1 (dA ((v,⟨#[]⟩,(none,0,0),[]):FuM)) rfl rfl ?n1 ?n2 au aP ae (Q1.out.later BN.out).bw _ rfl ?_
 case n1 =>
  exact Dh
 case n2=>intro u hu; simp[dA]at hu; rcases hu with rfl | rfl | rfl <;> rfl
 intro g cap w6 Ft BE _ _;have PX:=hid ((Q1.out).pushF BN.out ((v,⟨#[]⟩,(none,0,0),[]):FuM) au ⟨rfl,rfl⟩ Ft BE);have z6:=hid (bF ((Q1.out.later BN.out).blk) (Q1.out).low ((Q1.out.later BN.out).rf) BE);clear Ft BE;refine hK.out _ _ trivial (fun _=>?_)
 clear hK K;refine Zt 9 ?_;refine Zt 10 ?_;refine Zt 11 ?_;refine ZR 12 fun K hK=>?_;have c16:=iz6 z6.out;have f16:=free_at (i:=6) z6.out;go_simp;refine Zv hK ?_;clear hK K;refine Z4 ak ?_ _;go_end0;exact⟨(GT.out.trans KX.out).trans PX.out.2,rfl,_,PX.out.1,by unfold pl; simp[plF,List.map_append]⟩
theorem RI{B base R A n c:Nat}(h:RQ base R mp m ln pt w)(hw:Wds w A n c ws)(hA:base<=A)(hE:cY B w)(Fo:B<=R)(hps:psz (pl m)<=2097152)(h1:5<=pt/\pt<=6)(h2:n=3){v:Int}(h3:nmV (wdx ws 1)=some v)(h4:¬(wdx ws 2).toList=[45]) :
  Zw 113 #[ZP R 0,ZL A n c] w (LnP base R mp ln w (iz pt (pl m) ws)):=by
 obtain⟨i0,hi,hz0,hz1,hz2⟩:=Z0 Lu;obtain⟨x,hx⟩:=ZB ws 1 bN;have ex:wdx ws 1=x:=cX;obtain⟨y,hy⟩:∃x,ws[2]? =some x:=⟨_,aD bN⟩;have ey:wdx ws 2=y:=fy
 have e:iz pt (pl m) ws=some (6,{ pl m with fns:=(pl m).fns++[(v,wdx ws 2,[])] }):=by
  rw[ex]at h3; rw[ey]at h4;unfold iz; rw[if_pos ⟨h1,ig⟩,ex,ey]; rw[h3]; unfold gX; rw[if_neg h4]; rfl
 rw[e];subst h2
 have hn:m.fn<=2097152:=by
  exact wJ
 have HO:=hid (cu h 5 6 h1.1 h1.2);have q1:=h.part 6 ae;have d1:=hw.setR (o:=10) (u:=ZI 6) hA h.low;have k1:=KR.set base R 10 w (ZI 6);have e1:=hE.later (k1.below Fo cP hE.bw);have HM:=hid (aO R (w.setCell (ZA R 10) (ZI 6)));generalize w.setCell (ZA R 10) (ZI 6)=w1 at *;obtain⟨Ln,me,GT,aE⟩:=ZF q1 d1 k1 e1;have sx:=hw.sz x (ZO hx);have Kx:=ZJ d1 hx;have sy:=hw.sz y (ZO hy);have IN:=ZJ d1 hy;rw[ex]at h3;rw[ey]at h4;have hne:(y.toList==[45])=false:=sH;have Xs:=hid (fun(W:World) (hW:Zx w1 W)=>iV B R x v W (e1.tens.later (hW.mono e1.bw)) (ZW e1.bw hW.size) ae h3);have HCl:=hid (fun(W:World)=>uL y W ae);have HEy:=hid ey;clear h hw hE hps h1 q1 d1 k1 e1 e hx ex hy ey h3 h4;go_enter func113,ntmps113
 go_wp2_with fail;refine ZE HO.out ?_;go_wp2_with fail;refine ZE HM.out ?_;have cx:=Kx.out w1 (ZT _ _);go_wp2_with fail;refine(Xs.out _ (ZT _ _)).mono ?_;rintro e w5⟨rfl,AI⟩;have B5:=hid AI;clear AI;have cy:(w5.alloc (aN v ⟨#[]⟩ none 0 0)).cell? (ZA A 2)=some (.string y):=IN.out _ (B5.out.trans ((aj w5 _).mono B5.out.size));have hAl:=hid (ZQ (IN.out _ B5.out));go_wp2_with fail;refine(HCl.out _).mono ?_;rintro e w8⟨rfl,X'⟩
 have B8:=hid ((B5.out.trans ((aj w5 (aN v ⟨#[]⟩ none 0 0)).mono B5.out.size)).trans (X'.mono (by have:=B5.out.size; simp; omega)));have hX8:=ar X' (hZn w5 (aN v ⟨#[]⟩ none 0 0));have c8:=iz1 hX8;have f8:=free_at (i:=1) hX8;have hXb:=hid (ZW (Ln.out.later B5.out).bw (Nat.le_refl w5.heap.size));have AT:=hid (aT (i:=1) (u:=.string y) hX8);have kS:=aB w8 w5.heap.size 1 (.string y);have G':Below w1.heap.size w8 (w8.setCell (ZA w5.heap.size 1) (.string y)):=kS.to_below B8.out.size (fun k _ hk=>by have e:k=w5.heap.size:=hk; have:=B5.out.size; omega);have BX:=hid (B8.out.trans G');have KX:=hid (KR.later (base:=base) (R:=R) BX.out);have Q1:=hid (Ln.out.later BX.out);clear X' hX8 kS G';go_wp2_with fail;generalize w8.setCell (ZA w5.heap.size 1) (.string y)=w9 at *;generalize w5.heap.size=X at *;have B1:=hid ((ZT w9.heap.size w9).drew);refine ZX (S:=fun _=>True) ak trivial (fun _=>?_)
 generalize w9.drew=wd at *;refine Zt 0 ?_;refine Zt 1 ?_;refine Zt 2 ?_;refine Zt 3 ?_;refine Zt 4 ?_;refine Zu 5 6 (fun K hK=>?_) fun K hK=>?_
 ·have cH:wd.cell? (ZA R 6)=some (.slice m.fa m.fn m.fc):=(Q1.out.later B1.out).cells 6;go_simp
  refine Zv hK ?_;clear hK K;refine ZR 6 fun K hK=>?_;have y0:=iz0 (ar B1.out AT.out);have y1:=iz1 (ar B1.out AT.out);have y2:=iz2 (ar B1.out AT.out);exact M5
 have y0:=iz0 (ar B1.out AT.out);have y1:=iz1 (ar B1.out AT.out);have y2:=iz2 (ar B1.out AT.out);go_simp;refine Zv hK ?_;clear hK K;refine Zu 5 7 (fun K hK=>?_) fun K hK=>?_
 ·have cH:wd.cell? (ZA R 6)=some (.slice m.fa m.fn m.fc):=(Q1.out.later B1.out).cells 6;exact M5
 go_simp;have BN:=Zy B1 (aj wd (aN v y none 0 0));refine Zv hK ?_;clear hK K;refine ZR 5 fun K hK=>?_;have cH:(wd.alloc (aN v y none 0 0)).cell? (ZA R 6)=some (.slice m.fa m.fn m.fc):=(Q1.out.later BN.out).cells 6;go_simp;refine Zv hK ?_;clear hK K;refine ZR 8 fun K hK=>?_;refine wp_append_lies _ (.tmp 32) (.tmp 34) 25 rfl base 78 i0 (.agg #[ZI 0,.string ⟨#[]⟩,ZN]) 3 48 underlying25 hi hz0 hz1 hz2 rfl au (.slice m.fa m.fn m.fc) m.fn (m.fns.flatMap dA) rfl (Q1.out.later BN.out).rf (ZA wd.heap.size 0) 1 1 (dA ((v,y,(none,0,0),[]):FuM)) rfl rfl ?n1 ?n2 au aP ae (Q1.out.later BN.out).bw _ rfl ?_
 case n1 =>
  exact Dh
 case n2=>intro u hu; simp[dA]at hu; rcases hu with rfl | rfl | rfl <;> rfl
 intro g cap w6 Ft BE _ _;have PX:=hid ((Q1.out).pushF BN.out ((v,y,(none,0,0),[]):FuM) au ⟨rfl,rfl⟩ Ft BE);have z6:=hid (bF ((Q1.out.later BN.out).blk) (Q1.out).low ((Q1.out.later BN.out).rf) BE);clear Ft BE;refine hK.out _ _ trivial (fun _=>?_)
 clear hK K;refine Zt 9 ?_;refine Zt 10 ?_;refine Zt 11 ?_;refine ZR 12 fun K hK=>?_;have c16:=iz6 z6.out;have f16:=free_at (i:=6) z6.out;go_simp;refine Zv hK ?_;clear hK K;refine Z4 ak ?_ _;go_end0;exact⟨(GT.out.trans KX.out).trans PX.out.2,rfl,_,PX.out.1,EL⟩
theorem VK{B base R A n c:Nat}(h:RQ base R mp m ln pt w)(hw:Wds w A n c ws)(hA:base<=A)(hE:cY B w)(Fo:B<=R)(hps:psz (pl m)<=2097152)(h1:5<=pt/\pt<=6)(h2:n=3)(h3:nmV (wdx ws 1)=none) :
  Zw 113 #[ZP R 0,ZL A n c] w (LnP base R mp ln w (iz pt (pl m) ws)):=by
 obtain⟨x,hx⟩:=ZB ws 1 bN;have ex:wdx ws 1=x:=cX;obtain⟨y,hy⟩:∃x,ws[2]? =some x:=⟨_,aD bN⟩;have ey:wdx ws 2=y:=fy
 have e:iz pt (pl m) ws=none:=by
  rw[ex]at h3;unfold iz; rw[if_pos ⟨h1,ig⟩,ex,ey]; rw[h3]; rfl
 rw[e];subst h2;have HO:=hid (cu h 5 6 h1.1 h1.2);have q1:=h.part 6 ae;have d1:=hw.setR (o:=10) (u:=ZI 6) hA h.low;have k1:=KR.set base R 10 w (ZI 6);have e1:=hE.later (k1.below Fo cP hE.bw);have HM:=hid (aO R (w.setCell (ZA R 10) (ZI 6)));generalize w.setCell (ZA R 10) (ZI 6)=w1 at *;obtain⟨Ln,me,GT,aE⟩:=ZF q1 d1 k1 e1;have sx:=hw.sz x (ZO hx);have Kx:=ZJ d1 hx;have sy:=hw.sz y (ZO hy);have IN:=ZJ d1 hy;rw[ex]at h3;have Xs:=hid (fun(W:World) (hW:Zx w1 W)=>oN B R x ln W (e1.tens.later (hW.mono e1.bw)) (e1.errs.later (hW.mono e1.bw)) (ZW e1.bw hW.size) ae ((q1.later hW).cells 9) h3);have cx:=Kx.out w1 (ZT _ _);clear h hw hE hps h1 q1 d1 k1 e1 e hx ex hy ey h3;go_enter func113,ntmps113
 go_wp2_with fail;refine ZE HO.out ?_;go_wp2_with fail;refine ZE HM.out ?_;go_wp2_with fail;refine(Xs.out _ (ZT _ _)).mono ?_;rintro e w5⟨rfl,AI⟩;exact⟨rfl,GT.out.trans (KR.later AI),rfl⟩
theorem Vb{B base R A n c:Nat}(h:RQ base R mp m ln pt w)(hw:Wds w A n c ws)(hA:base<=A)(hE:cY B w)(Fo:B<=R)(hps:psz (pl m)<=2097152) :
  Zw 113 #[ZP R 0,ZL A n c] w (LnP base R mp ln w (iz pt (pl m) ws)):=by
 by_cases h1:5<=pt/\pt<=6
 ·by_cases h2:n=3
  ·rcases h3:nmV (wdx ws 1) with _ | v
   ·exact VK h hw hA hE Fo hps h1 h2 h3
   by_cases h4:(wdx ws 2).toList=[45]
   ·exact NQ h hw hA hE Fo hps h1 h2 h3 h4
   exact RI h hw hA hE Fo hps h1 h2 h3 h4
  exact QS h hw h1 h2
 exact RL h h1
theorem vX:∀(xs pre:List _)(x:BAz)(v:Int),bz xs=some pre->nmV x=some v->bz (xs++[x])=some (pre++[v])
 | [],pre,x,v,h,hv=>by
  simp only[bz,Option.some.injEq]at h;subst h;simp[bz,hv]
 | y::r,pre,x,v,h,hv=>by
  simp only[bz]at h
  rcases hy:nmV y with _ | u
  ·rw[hy]at h; simp at h
  rw[hy]at h
  rcases hr:bz r with _ | t
  ·rw[hr]at h; simp at h
  rw[hr]at h;simp at h;subst h;have:=vX r t x v hr hv;simp[bz,hy,this]
theorem vP:∀(xs:Zai)(k:Nat)(x:BAz),xs[k]? =some x->nmV x=none->bz xs=none
 | [],k,x,h,_=>by simp at h
 | y::r,0,x,h,hx=>by
  simp at h;subst h;simp[bz,hx]
 | y::r,k+1,x,h,hx=>by
  simp at h;have:=vP r k x h hx;simp[bz,this]
theorem uV:∀(xs:Zai)(l:LIz),bz xs=some l->l.length=xs.length
 | [],l,h=>by simp[bz]at h; subst h; rfl
 | y::r,l,h=>by
  simp only[bz]at h
  rcases hy:nmV y with _ | u
  ·rw[hy]at h; simp at h
  rw[hy]at h
  rcases hr:bz r with _ | t
  ·rw[hr]at h; simp at h
  rw[hr]at h;simp at h;subst h;simp[uV r t hr]
def LbP(ln:Int)(w:World)(n:Nat)(res:Option (List Int))(e:Ending)(w':World):Prop :=
 Zx w w'/\match res with
 | some l=>e=.returned (ZL w.heap.size n n)/\w'.ownsRow w.heap.size 3 1 (ZL w.heap.size n n) n (l.flatMap fJ)
 | none=>e=thL ln
variable {B base R:Nat}
theorem rx(h:RQ base R mp m ln pt w)(hE:cY B w)(A o n c:Nat)(xs:Zai)(hl:xs.length=n)(hn:n<=2097152)(hx:∀(j:Nat)x,xs[j]? =some x->w.cell? (ZA A (o+j))=some (.string x))(hz:∀x∈xs,x.size<=2097152) :
  Zw 179 #[ZP R 0,.slice (some (ZA A o)) n c] w (LbP ln w n (bz xs)):=by
 obtain⟨i0,hi,hz0,hz1,hz2⟩:=Z0 AX
 have hb2:i0.bytes*n<=281474976710656:=by rw[hz2]; omega
 have hml:n<=maxLen:=aP;obtain⟨HQ,HE,HX,HZ⟩:=ZF h hE hx hz;clear h hE hx hz;go_enter func179,ntmps179
 go_wp2_with (first | (at_make; refine wpList_make_full _ rfl _ _ 23 rfl w.heap.size 3 i0 (ZI 0) 1 underlying23 hi hz0 hz1 .i64 .i64 _ _ n rfl rfl rfl rfl hb2 hml lRn ?_; intro w1 hown hgrow))
 have hZ:(madeCells (ZI 0).cells (n*1)).toList.length=n*1:=hown.1;have HF0:Hid (FLd w 3 1 n (([]:LIz).flatMap fJ) (madeCells (ZI 0).cells (n*1)).toList w1):=hid ⟨by simpa using hown,(ZT _ _).grown hgrow lRn av⟩;generalize (madeCells (ZI 0).cells (n*1)).toList=Z at *;clear hown hgrow hi hz0 hz1 hz2 hb2 hml
 go_loopw [13] (fun i wr=>∃t:Nat,t<=n/\i=ZI t/\Hid (∃pre,bz (xs.take t)=some pre/\FLd w 3 1 n (pre.flatMap fJ) Z wr)) (fun i _=>n-(intOf i).toNat)
 case atStart=>exact⟨0,ae,rfl,hid ⟨[],rfl,HF0.out⟩⟩
 case round =>
  obtain⟨t,ht,rfl,HF⟩:=hrel;clear HF0
  by_cases hlt:t<n
  ·obtain⟨x,zc⟩:=ZB xs t ae;obtain⟨pre,hpre,hF⟩:=HF.out
   have hpl:pre.length=t:=by rw[uV _ _ hpre,List.length_take,hl]; omega
   have cx:wr.cell? (ZA A (o+t))=some (.string x):=ai hF.bel (HX.out t x zc);have hlt':(t:Int)<(n:Int):=ae;have hxs:=HZ.out x (ZO zc);have qr:=HQ.out.later hF.bel;have er:=HE.out.later (hF.bel.mono HE.out.bw)
   rcases hv:nmV x with _ | v
   ·have HI:=hid (oN B R x ln wr er.tens er.errs er.bw ae (qr.cells 9) hv);have hnone:=vP xs t x zc hv;have HB:=hid hF.bel;clear hF HF hpre qr er zc;go_wp2_with fail;refine HI.out.mono ?_;rintro e w5⟨rfl,AI⟩;refine⟨rfl,?_⟩;rw[hnone];exact⟨HB.out.trans (AI.mono HB.out.size),rfl⟩
   have HI:=hid (iV B R x v wr er.tens er.bw ae hv);have HFr:=hid hF
   have htk:xs.take (t+1)=xs.take t++[x]:=by rw[List.take_add_one,zc]; rfl
   have sC:=hid (show bz (xs.take (t+1))=some (pre++[v]) by rw[htk]; exact vX _ _ x v hpre hv);clear hF HF hpre qr er zc htk;go_wp2_with fail;refine HI.out.mono ?_;rintro e w5⟨rfl,AI⟩;have F5:=hid (HFr.out.later AI);clear AI;obtain⟨u0,q0⟩:=F5.out.cell hZ (show t<n*1 by omega);have r0:=F5.out.free t;have P0:=hid (F5.out.put (j:=t) EZ ae (ZI v));go_wp2_with fail;exact⟨⟨t+1,ae,bu,hid ⟨pre++[v],sC.out,by rw[List.flatMap_append]; exact P0.out⟩⟩,bD⟩
  obtain rfl:t=n:=ae;obtain⟨pre,hpre,hF⟩:=HF.out;rw[ZY ae]at hpre
  have hpl:pre.length=t:=by rw[uV _ _ hpre,hl]
  have hlt':¬(t:Int)<(t:Int):=ae;obtain⟨HFF,HPre⟩:=Zz hF hpre;clear hF HF hpre;go_wp2_with fail;go_ret;rw[HPre.out];exact⟨HFF.out.bel,rfl,HFF.out.full EZ⟩
theorem uW:∀(l:Zaj)(pre:LIz)(r:Zaj),fD l=some pre->fD (l++r)=(fD r).map (fun t=>pre++t)
 | [],pre,r,h=>by
  simp[fD]at h;subst h;show fD r=_
  cases fD r <;> rfl
 | [a],pre,r,h=>by simp[fD]at h
 | a::b::l,pre,r,h=>by
  simp only[fD]at h
  by_cases hd:0<=eH a.toNat/\0<=eH b.toNat
  ·rw[if_pos hd]at h
   rcases hl:fD l with _ | t
   ·rw[hl]at h; simp at h
   rw[hl]at h;simp at h;subst h;have:=uW l t r hl;simp only[List.cons_append,fD];rw[if_pos hd,this]
   cases fD r <;> simp
  rw[if_neg hd]at h; cases h
theorem lF:∀(l:Zaj)(pre:LIz),fD l=some pre->l.length=2*pre.length
 | [],pre,h=>by simp[fD]at h; subst h; rfl
 | [a],pre,h=>by simp[fD]at h
 | a::b::l,pre,h=>by
  simp only[fD]at h
  by_cases hd:0<=eH a.toNat/\0<=eH b.toNat
  ·rw[if_pos hd]at h
   rcases hl:fD l with _ | t
   ·rw[hl]at h; simp at h
   rw[hl]at h;simp at h;subst h;have:=lF l t hl;simp;omega
  rw[if_neg hd]at h; cases h
variable {k:Nat}
theorem MP{l:Zaj}{a b:UInt8}(ha:l[2*k]? =some a)(hb:l[2*k+1]? =some b):l.take (2*(k+1))=l.take (2*k)++[a,b]:=by
 rw[show 2*(k+1)=2*k+1+1 by omega,List.take_add_one,List.take_add_one,ha,hb];simp
theorem xO{l:Zaj}{a b:UInt8}{pre:LIz}(h:fD (l.take (2*k))=some pre)(ha:l[2*k]? =some a)(hb:l[2*k+1]? =some b)(hd:¬(0<=eH a.toNat/\0<=eH b.toNat)):fD l=none:=by
 have e:l=l.take (2*k)++(a::b::l.drop (2*(k+1))):=by
  have h1:=List.take_append_drop (2*(k+1)) l;rw[MP ha hb]at h1;rw[Z2]at h1;exact h1.symm
 rw[e,uW _ _ _ h];simp only[fD];rw[if_neg hd];rfl
theorem Ax{l:Zaj}{a b:UInt8}{pre:LIz}(h:fD (l.take (2*k))=some pre)(ha:l[2*k]? =some a)(hb:l[2*k+1]? =some b)(h1:0<=eH a.toNat)(h2:0<=eH b.toNat):fD (l.take (2*(k+1)))=some (pre++[eH a.toNat*16+eH b.toNat]):=by
 rw[MP ha hb,uW _ _ _ h];simp only[fD];rw[if_pos ⟨h1,h2⟩];rfl
theorem UX:(prog.info? 5).map (fun i=>(i.zero,i.size,i.bytes))=some (some (ZU 0),1,1):=ak
variable {P:Program}{ops:Array Oper}{Q:Zan}{i fuel:Nat}{oi:Oper}{a:Act}
theorem tkD{md:Region.Mode}{S:World->Prop}{d:Option Tmp}{v:Value}{listed:Array Bool}(hi:ops[i]? =some oi)(h:wpAnyH P md ops Q S fuel (listed.setIfInBounds i true) (a.put d v) w)(hv:∀w,S w->(execOp a.eval oi).run P w=.ok (.value v) w:=by (intro w h; (try dsimp only at h); go_simp; try with_reducible rfl))(hd:oi.dst=d:=by kernel_rfl)
  (hc:(Region.noSelect ops&&Region.free md ops listed i&&(Region.ready md ops listed).contains i)=true:=by kernel_rfl) (hw:Region.wanted oi (yielded ops a.tmps)=true:=by kernel_rfl) (hQ:∀c a w,Q (.panic c) (a.put d v) w->Q (.panic c) a w:=by exact fun _ _ _ h=>h) (hS:S w:=by assumption):wpAnyH P md ops Q S (fuel+1) listed a w:=by
 subst hd;simp only[Bool.and_eq_true]at hc;exact xo
def OcP(ln:Int)(w:World)(n:Nat)(res:Option (List Int))(e:Ending)(w':World):Prop :=
 Zx w w'/\match res with
 | some l=>l.length=n/\e=.returned (ZL w.heap.size n n)/\w'.ownsRow w.heap.size 5 1 (ZL w.heap.size n n) n (l.flatMap oV)
 | none=>e=thL ln
theorem SC(h:RQ base R mp m ln pt w)(s:BAz)(hs:s.size<=2097152)(ho:s.size%2≠0) :
  Zw 173 #[ZP R 0,.string s] w (OcP ln w (s.size / 2) (kP s)):=by
 have e:kP s=none:=by
  rcases hx:kP s with _ | t
  ·rfl
  have:=lF _ _ hx;have e2:s.data.toList.length=s.size:=Zab;omega
 rw[e];have HM:=hid (iL h);have hne:((s.size:Int)%2==0)=false:=aA;clear h;go_enter func173,ntmps173
 go_wp2_with fail;refine HM.out.mono ?_;rintro e w1⟨rfl,hw⟩;have hw2:=hw.symm;subst hw2;exact⟨rfl,ZT _ _,rfl⟩
theorem Oe:∀i<16,∀j<16,bits BinOp.or IntKind.u8 (((i:Nat):Int)*16) ((j:Nat):Int)=((i:Nat):Int)*16+((j:Nat):Int):=kO
variable {a b:Int}
theorem YM(ha:0<=a/\a<16)(hb:0<=b/\b<16):bits BinOp.or IntKind.u8 (a*16) b=a*16+b:=by
 have:=Oe a.toNat ae b.toNat ae
 rwa [show((a.toNat:Nat):Int)=a by omega,show((b.toNat:Nat):Int)=b by omega]at this
theorem UH(ha:0<=a/\a<16):IntKind.u8.wrap (a*16)=a*16:=by
 simp[IntKind.wrap,IntKind.bits,IntKind.signed];omega
theorem Qm(h:RQ base R mp m ln pt w)(s:BAz)(n:Nat)(hs:s.size<=2097152)(hn:s.size=2*n) :
  Zw 173 #[ZP R 0,.string s] w (OcP ln w n (kP s)):=by
 obtain⟨i0,hi,hz0,hz1,hz2⟩:=Z0 UX
 have hb2:i0.bytes*n<=281474976710656:=by rw[hz2]; omega
 have hml:n<=maxLen:=aP;have hev:((s.size:Int)%2==0)=true:=aA;have hqu:(s.size:Int) / 2=(n:Int):=ae;have hll:s.data.toList.length=s.size:=Zab;have HQ:=hid h;have HM:=hid (aO R w);obtain⟨HHN,HLL⟩:=Zz hn hll;have hn7:n<=2097152:=ae;clear h hll hn;go_enter func173,ntmps173
 go_wp2_with fail;refine HM.out.mono ?_;rintro e w0⟨rfl,hw⟩;have hw2:=hw.symm;subst hw2;clear HM hev
 go_wp2_with (first | (at_make; refine wpList_make_full _ rfl _ _ 63 rfl w.heap.size 5 i0 (ZU 0) 1 underlying63 hi hz0 hz1 .i64 .i64 _ _ n rfl rfl sJ sJ hb2 hml lRn ?_; intro w1 hown hgrow))
 have hZ:(madeCells (ZU 0).cells (n*1)).toList.length=n*1:=hown.1;have HF0:Hid (FLd w 5 1 n (([]:LIz).flatMap oV) (madeCells (ZU 0).cells (n*1)).toList w1):=hid ⟨by simpa using hown,(ZT _ _).grown hgrow lRn av⟩;generalize (madeCells (ZU 0).cells (n*1)).toList=Z at *;clear hown hgrow hi hz0 hz1 hz2 hb2 hml hqu
 go_loopw [19] (fun i wr=>∃t:Nat,t<=n/\i=ZI t/\Hid (∃pre,fD (s.data.toList.take (2*t))=some pre/\FLd w 5 1 n (pre.flatMap oV) Z wr)) (fun i _=>n-(intOf i).toNat)
 case atStart=>exact⟨0,ae,rfl,hid ⟨[],rfl,HF0.out⟩⟩
 case round =>
  obtain⟨t,ht,rfl,HF⟩:=hrel;clear HF0
  by_cases hlt:t<n
  ·obtain⟨a,ha⟩:=ZB s.data.toList (2*t) Ae;obtain⟨b,hb⟩:=ZB s.data.toList (2*t+1) Ae;obtain⟨pre,hpre,hF⟩:=HF.out
   have hpl:2*pre.length=2*t:=by rw[<- lF _ _ hpre,List.length_take,HLL.out]; have:=HHN.out; omega
   have hlt':(t:Int)<(n:Int):=ae;have HFb:=hid hF.bel;have HFr:=hid hF;have qr:=HQ.out.later hF.bel;have hw1:IntKind.i64.wrap (2*(t:Int))=2*(t:Int):=IntWalk.i64_in _ ae;have hw2:IntKind.i64.wrap (2*(t:Int)+1)=2*(t:Int)+1:=IntWalk.i64_in _ ae;have b0:0<=2*(t:Int):=ae;have b1:2*(t:Int)<(s.size:Int):=sJ;have b2:0<=2*(t:Int)+1:=ae;have b3:2*(t:Int)+1<(s.size:Int):=sJ
   have ea:∀hq9,((s[(2*(t:Int)).toNat]'hq9).toNat:Int)=(a.toNat:Int):=fun hq9=>by
    have e1:(2*(t:Int)).toNat=2*t:=ae;rw[Array.getElem?_toList]at ha
    have:s[(2*(t:Int)).toNat]'hq9=a:=by
     simp only[e1];obtain⟨_,h2⟩:=Array.getElem?_eq_some_iff.1 ha;exact h2
    rw[this]
   have eb:∀hq9,((s[(2*(t:Int)+1).toNat]'hq9).toNat:Int)=(b.toNat:Int):=fun hq9=>by
    have e1:(2*(t:Int)+1).toNat=2*t+1:=ae;rw[Array.getElem?_toList]at hb
    have:s[(2*(t:Int)+1).toNat]'hq9=b:=by
     simp only[e1];obtain⟨_,h2⟩:=Array.getElem?_eq_some_iff.1 hb;exact h2
    rw[this]
   have r1:=jC (a.toNat:Int);have r2:=jC (b.toNat:Int)
   by_cases h1:0<=eH (a.toNat:Int)
   ·by_cases h2:0<=eH (b.toNat:Int)
    ·have HD1:=hid (fun(W:World)=>xp R (a.toNat:Int) W h1)
     have HD2:=hid (fun(W:World)=>xp R (b.toNat:Int) W h2);have sC:=hid (Ax hpre ha hb h1 h2);have hs8:=UH ⟨h1,r1.2⟩;have ho8:=YM ⟨h1,r1.2⟩ ⟨h2,r2.2⟩;generalize eH (a.toNat:Int)=d1 at *;generalize eH (b.toNat:Int)=d2 at *;clear hF HF hpre qr ha hb h1 h2 r1 r2;go_wp2_with fail;have B1:=hid ((ZT wr.heap.size wr).drew);refine ZX (S:=fun _=>True) ak trivial (fun _=>?_)
     generalize wr.drew=wd at *;refine Zt 0 ?_;refine Zt 1 ?_;refine Zt 2 ?_;refine Zt 3 ?_;refine Zt 4 ?_;refine Zt 9 ?_;refine Zt 10 ?_;refine Zt 11 ?_;refine Zt 5 ?_;refine Zt 12 ?_;refine Zt 6 ?_;refine Zt 13 ?_;refine Zt 14 ?_;refine ZR 7 fun K hK=>?_;go_simp;refine(HD1.out _).mono ?_;rintro e w5⟨rfl,Lo⟩;have hw6:=Lo.symm;subst hw6;refine hK.out _ _ trivial (fun _=>?_)
     clear hK K;refine Zt 8 ?_;refine ZR 15 fun K hK=>?_;go_simp;refine(HD2.out _).mono ?_;rintro e w5⟨rfl,Lo⟩;have hw6:=Lo.symm;subst hw6;refine hK.out _ _ trivial (fun _=>?_)
     clear hK K;refine Zt 16 ?_;refine Zt 17 ?_;refine ZR 18 fun K hK=>?_;obtain⟨u0,q0⟩:=(HFr.out.later B1.out).cell hZ (show t<n*1 by omega);have r0:=(HFr.out.later B1.out).free t;have P0:=hid ((HFr.out.later B1.out).put (j:=t) (by rw[oD oV 1 (fun _=>rfl)]; omega) ae (ZU (d1*16+d2)));go_simp;refine Zv hK ?_;clear hK K;refine Z4 ak ?_ _;go_wp2_with fail;exact⟨⟨t+1,ae,bu,hid ⟨pre++[d1*16+d2],sC.out,by rw[List.flatMap_append]; exact P0.out⟩⟩,bD⟩
    have HD1:=hid (fun(W:World)=>xp R (a.toNat:Int) W h1);have HD2:=hid (fun(W:World) (hW:Zx wr W)=>Qn R (b.toNat:Int) ln W ((qr.later hW).cells 9) h2);have HNo:=hid (show kP s=none from xO hpre ha hb (fun x=>h2 x.2));have hs8:=UH ⟨h1,r1.2⟩;generalize eH (a.toNat:Int)=d1 at *;clear hF HF hpre qr ha hb h1 h2 r1 r2;go_wp2_with fail;have B1:=hid ((ZT wr.heap.size wr).drew);refine ZX (S:=fun _=>True) ak trivial (fun _=>?_)
    generalize wr.drew=wd at *;refine Zt 0 ?_;refine Zt 1 ?_;refine Zt 2 ?_;refine Zt 3 ?_;refine Zt 4 ?_;refine Zt 9 ?_;refine Zt 10 ?_;refine Zt 11 ?_;refine Zt 5 ?_;refine Zt 12 ?_;refine Zt 6 ?_;refine Zt 13 ?_;refine Zt 14 ?_;refine ZR 7 fun K hK=>?_;go_simp;refine(HD1.out _).mono ?_;rintro e w5⟨rfl,Lo⟩;have hw6:=Lo.symm;subst hw6;refine hK.out _ _ trivial (fun _=>?_)
    clear hK K;refine Zt 8 ?_;refine ZR 15 fun K hK=>?_;go_simp;refine(HD2.out _ B1.out).mono ?_;exact Gr
   have HD1:=hid (fun(W:World) (hW:Zx wr W)=>Qn R (a.toNat:Int) ln W ((qr.later hW).cells 9) h1);have HNo:=hid (show kP s=none from xO hpre ha hb (fun x=>h1 x.1));clear hF HF hpre qr ha hb h1 r1 r2;go_wp2_with fail;have B1:=hid ((ZT wr.heap.size wr).drew);refine ZX (S:=fun _=>True) ak trivial (fun _=>?_)
   generalize wr.drew=wd at *;refine Zt 0 ?_;refine Zt 1 ?_;refine Zt 2 ?_;refine Zt 3 ?_;refine Zt 4 ?_;refine Zt 9 ?_;refine Zt 10 ?_;refine Zt 11 ?_;refine Zt 5 ?_;refine Zt 12 ?_;refine Zt 6 ?_;refine Zt 13 ?_;refine Zt 14 ?_;refine ZR 7 fun K hK=>?_;go_simp;refine(HD1.out _ B1.out).mono ?_;exact Gr
  obtain rfl:t=n:=ae;obtain⟨pre,hpre,hF⟩:=HF.out;rw[ZY Ae]at hpre
  have hpl:pre.length=t:=by have:=lF _ _ hpre; have:=HLL.out; have:=HHN.out; omega
  have HFF:=hid hF;have HPre:=hid (show kP s=some pre from hpre);clear hF HF hpre;go_wp2_with fail;go_ret;rw[HPre.out];exact⟨HFF.out.bel,hpl,rfl,HFF.out.full (by rw[oD oV 1 (fun _=>rfl),hpl]; omega)⟩
theorem N7(h:RQ base R mp m ln pt w)(s:BAz)(hs:s.size<=2097152) :
  Zw 173 #[ZP R 0,.string s] w (OcP ln w (s.size / 2) (kP s)):=by
 by_cases ho:s.size%2=0
 ·exact Qm h s (s.size / 2) hs ae
 exact SC h s hs ho
section
theorem UE:(prog.info? 81).map (fun i=>(i.zero,i.size,i.bytes))=some (some (.agg #[ZI 0,ZN]),2,32):=ak
theorem UO:(prog.info? 83).map (fun i=>(i.zero,i.size,i.bytes))=some (some (.agg #[.string ⟨#[]⟩,ZI 0]),2,24):=ak
variable {w:World}{base base' e k n:Nat}{xs:Zah}
theorem oF{v:Value}(h:w.ownsRow base e k v n xs)(hb:base'<=base):w.ownsRow base' e k v n xs :=
 ⟨h.1,h.2.imp id fun⟨g,cap,cur,h1,h2,h3⟩=>⟨g,cap,cur,h1,ZW hb h2,h3⟩⟩
variable {w1 W:World}{X:Nat}{a b:Value}{t:TypeId}
theorem sG(hb:Zx w1 W)(hX:W.heap[X]? =some (.cells #[a,b] t))(d':w1.heap.size<=X)(u v:Value) :
  Zx w1 ((W.setCell (ZA X 0) u).setCell (ZA X 1) v)/\((W.setCell (ZA X 0) u).setCell (ZA X 1) v).heap[X]? =some (.cells #[u,v] t)/\Kept (fun k=>k=X) W ((W.setCell (ZA X 0) u).setCell (ZA X 1) v):=by
 have k1:=aB W X 0 u;have k2:=aB (W.setCell (ZA X 0) u) X 1 v;refine⟨hb.trans ((k1.trans k2).to_below hb.size (fun k _ hk=>by have e:k=X:=hk; omega)),?_,k1.trans k2⟩;rw[aT (aT hX)];rfl
variable {W':World}{cs:AVz}
theorem kQ{v:Value}(h:W.ownsRow base e k v n xs)(hk:Kept (fun k=>k=X) W W')(hX:W.heap[X]? =some (.cells cs t))(ht:e≠t):W'.ownsRow base e k v n xs :=
 cf h hk (fun b hb hx=>by
  obtain⟨_,cur,h1⟩:=dN h hb;have e:b=X:=hx;subst e;rw[h1]at hX;simp only[Option.some.injEq,Obj.cells.injEq]at hX
  exact ht hX.2.1)
variable {mp:Value}{m:MM}{ln pt:Int}{ws:Zai}
theorem SZ{B base R A n c:Nat}(h:RQ base R mp m ln pt w)(hw:Wds w A n c ws)(hA:base<=A)(hE:cY B w)(Fo:B<=R)(hps:psz (pl m)<=2097152)(h1:5<=pt/\pt<=8)(h2:n=3){v:Int}(h3:nmV (wdx ws 2)=some v) :
  Zw 115 #[ZP R 0,ZL A n c] w (LnP base R mp ln w (jt pt (pl m) ws)):=by
 obtain⟨i0,hi,hz0,hz1,hz2⟩:=Z0 UO;obtain⟨x,hx⟩:=ZB ws 1 bN;have ex:wdx ws 1=x:=cX;obtain⟨y,hy⟩:∃x,ws[2]? =some x:=⟨_,aD bN⟩;have ey:wdx ws 2=y:=fy
 have e:jt pt (pl m) ws=some (8,{ pl m with exps:=(pl m).exps++[(wdx ws 1,v)] }):=by
  exact GP
 rw[e];subst h2
 have hn:m.en<=2097152:=by
  exact GG
 have HO:=hid (cu h 5 8 h1.1 h1.2);have q1:=h.part 8 ae;have d1:=hw.setR (o:=10) (u:=ZI 8) hA h.low;have k1:=KR.set base R 10 w (ZI 8);have e1:=hE.later (k1.below Fo cP hE.bw);have HM:=hid (aO R (w.setCell (ZA R 10) (ZI 8)));generalize w.setCell (ZA R 10) (ZI 8)=w1 at *;obtain⟨Ln,me,GT,aE⟩:=ZF q1 d1 k1 e1;have sx:=hw.sz x (ZO hx);have Kx:=ZJ d1 hx;have sy:=hw.sz y (ZO hy);have IN:=ZJ d1 hy;rw[ey]at h3;have Xs:=hid (fun(W:World) (hW:Zx w1 W)=>uL x W ae);have tr:=hid (fun(W:World) (hW:Zx w1 W)=>iV B R y v W (e1.tens.later (hW.mono e1.bw)) (ZW e1.bw hW.size) ae h3);have HEx:=hid ex;clear h hw hE hps h1 q1 d1 k1 e1 e hx ex hy ey h3;go_enter func115,ntmps115
 go_wp2_with fail;refine ZE HO.out ?_;go_wp2_with fail;refine ZE HM.out ?_;go_wp2_with fail
 go_cut [4] from 12 to 21 (fun p W=>∃X,p=ZP X 0/\Hid (Zx w1 W/\W.heap[X]? =some (bK x v)))
 case first =>
  have B1:=hid ((ZT w1.heap.size w1).drew);refine ZX (S:=(fun W=>W.cell? (ZA A 1)=some (.string x)/\W.cell? (ZA A 2)=some (.string y))) ak ⟨Kx.out _ B1.out,IN.out _ B1.out⟩ (fun hSw=>?_)
  generalize w1.drew=wd at *;refine Zt 0 ?_ (hS:=aJ);refine Zt 4 ?_ (hS:=aJ);refine Zt 5 ?_ (hS:=aJ);refine Zt 1 ?_ (hS:=aJ);refine Zt 6 ?_ (hS:=aJ);refine Zt 2 ?_ (hS:=aJ);refine Zt 7 ?_ (hS:=aJ);refine Zu 3 10 (fun K hK=>?_) fun K hK=>?_
  ·go_simp;refine(Xs.out _ B1.out).mono ?_;rintro e w5⟨rfl,AI⟩;have B5:=Zy B1 AI
   replace hSw:=And.intro (Kx.out _ B5.out) (IN.out _ B5.out);clear AI;refine Zv hK ?_ hSw;clear hK K;refine Zu 8 10 (fun K hK=>?_) fun K hK=>?_
   ·go_simp;refine(tr.out _ B5.out).mono ?_;rintro e w6⟨rfl,LE⟩;have B6:=Zy B5 LE
    replace hSw:=And.intro (Kx.out _ B6.out) (IN.out _ B6.out);clear LE;refine hK.out _ _ hSw (fun _=>?_)
    clear hK K;refine Zt 9 ?_ (hS:=aJ);refine ZR 10 fun K hK=>?_;go_simp;have eE:=aj w6 (bK ⟨#[]⟩ 0);have eM:=hZn w6 (bK ⟨#[]⟩ 0);have d':w1.heap.size<=w6.heap.size:=B6.out.size;generalize w6.alloc (bK ⟨#[]⟩ 0)=w7 at *;have MY:=eE;clear eE;have B7:=Zy B6 MY;clear MY;generalize w6.heap.size=X at *;have Is:=hid eM;clear eM;replace hSw:=And.intro (Kx.out _ B7.out) (IN.out _ B7.out);refine Zv hK ?_ hSw;clear hK K;refine ZR 11 fun K hK=>?_;have cX0:=iz0 Is.out;have cX1:=iz1 Is.out;have fX0:=free_at (i:=0) Is.out;have fX1:=free_at (i:=1) Is.out;go_simp;have HST:=hid (fun u v=>sG B7.out Is.out d' u v);clear hSw;refine hK.out _ _ ⟨Kx.out _ (HST.out _ _).1,IN.out _ (HST.out _ _).1⟩ (fun hSw=>?_);clear hK K;refine Z4 ak ?_ _;go_wp2_with fail
    go_meet
    exact⟨X,rfl,hid ⟨(HST.out _ _).1,(HST.out _ _).2.1⟩⟩
   go_simp;have eE:=aj w5 (bK ⟨#[]⟩ 0);have eM:=hZn w5 (bK ⟨#[]⟩ 0);have d':w1.heap.size<=w5.heap.size:=B5.out.size;generalize w5.alloc (bK ⟨#[]⟩ 0)=w7 at *;have MY:=eE;clear eE;have B7:=Zy B5 MY;clear MY;generalize w5.heap.size=X at *;have Is:=hid eM;clear eM;replace hSw:=And.intro (Kx.out _ B7.out) (IN.out _ B7.out);refine Zv hK ?_ hSw;clear hK K;refine ZR 8 fun K hK=>?_;go_simp;refine(tr.out _ B7.out).mono ?_;rintro e w6⟨rfl,LE⟩;have Is:=hid (ar LE Is.out);have B6:=Zy B7 LE;exact LV
  go_simp;have eE:=aj wd (bK ⟨#[]⟩ 0);have eM:=hZn wd (bK ⟨#[]⟩ 0);have d':w1.heap.size<=wd.heap.size:=B1.out.size;generalize wd.alloc (bK ⟨#[]⟩ 0)=w7 at *;have MY:=eE;clear eE;have B7:=Zy B1 MY;clear MY;generalize wd.heap.size=X at *;have Is:=hid eM;clear eM;replace hSw:=And.intro (Kx.out _ B7.out) (IN.out _ B7.out);refine Zv hK ?_ hSw;clear hK K;refine ZR 3 fun K hK=>?_;go_simp;refine(Xs.out _ B7.out).mono ?_;rintro e w5⟨rfl,AI⟩;have Is:=hid (ar AI Is.out);have B5:=Zy B7 AI;replace hSw:=And.intro (Kx.out _ B5.out) (IN.out _ B5.out);clear AI;refine Zv hK ?_ hSw;clear hK K;refine ZR 8 fun K hK=>?_;go_simp;refine(tr.out _ B5.out).mono ?_;rintro e w6⟨rfl,LE⟩;have Is:=hid (ar LE Is.out);have B6:=Zy B5 LE;exact LV
 case rest =>
  obtain⟨X,rfl,HC⟩:=hcut;have BX:=hid HC.out.1;have AT:=hid HC.out.2;have Q1:=hid (Ln.out.later BX.out);clear HC Xs tr;generalize wc=w9 at *;go_wp2_with fail;have B1:=hid ((ZT w9.heap.size w9).drew);refine ZX (S:=fun _=>True) ak trivial (fun _=>?_)
  generalize w9.drew=wd at *;refine Zt 0 ?_;refine Zt 1 ?_;refine Zt 2 ?_;refine Zt 3 ?_;refine Zt 4 ?_;refine Zu 5 6 (fun K hK=>?_) fun K hK=>?_
  ·have cH:wd.cell? (ZA R 8)=some (.slice m.ea m.en m.ec):=(Q1.out.later B1.out).cells 8;go_simp
   refine Zv hK ?_;clear hK K;refine ZR 6 fun K hK=>?_;have y0:=iz0 (ar B1.out AT.out);have y1:=iz1 (ar B1.out AT.out);exact Ow
  have y0:=iz0 (ar B1.out AT.out);have y1:=iz1 (ar B1.out AT.out);go_simp;refine Zv hK ?_;clear hK K;refine Zu 5 7 (fun K hK=>?_) fun K hK=>?_
  ·have cH:wd.cell? (ZA R 8)=some (.slice m.ea m.en m.ec):=(Q1.out.later B1.out).cells 8;exact Ow
  go_simp;have BN:=Zy B1 (aj wd (bK x v));refine Zv hK ?_;clear hK K;refine ZR 5 fun K hK=>?_;have cH:(wd.alloc (bK x v)).cell? (ZA R 8)=some (.slice m.ea m.en m.ec):=(Q1.out.later BN.out).cells 8;go_simp;refine Zv hK ?_;clear hK K;refine ZR 8 fun K hK=>?_;refine wp_append_lies _ (.tmp 27) (.tmp 29) 27 rfl base 83 i0 (.agg #[.string ⟨#[]⟩,ZI 0]) 2 24 underlying27 hi hz0 hz1 hz2 rfl au (.slice m.ea m.en m.ec) m.en (m.exps.flatMap jV) rfl (Q1.out.later BN.out).re (ZA wd.heap.size 0) 1 1 (jV ((x,v):Ex)) rfl rfl ?n1 ?n2 au aP ae (Q1.out.later BN.out).bw _ rfl ?_
  case n1 =>
   exact yN
  case n2=>intro u hu; simp[jV]at hu; rcases hu with rfl | rfl <;> rfl
  intro g cap w6 Ft BE _ _;have PX:=hid ((Q1.out).pushE BN.out ((x,v):Ex) Ft BE);have z6:=hid (bF ((Q1.out.later BN.out).blk) (Q1.out).low ((Q1.out.later BN.out).re) BE);clear Ft BE;refine hK.out _ _ trivial (fun _=>?_)
  clear hK K;refine Zt 9 ?_;refine Zt 10 ?_;refine Zt 11 ?_;refine ZR 12 fun K hK=>?_;have c16:=iz8 z6.out;have f16:=free_at (i:=8) z6.out;go_simp;refine Zv hK ?_;clear hK K;refine Z4 ak ?_ _;go_end0;exact⟨(GT.out.trans (KR.later BX.out)).trans PX.out.2,rfl,_,PX.out.1,by rw[HEx.out]; unfold pl; rfl⟩
theorem WK{B base R A n c:Nat}(h:RQ base R mp m ln pt w)(hw:Wds w A n c ws)(hA:base<=A)(hE:cY B w)(Fo:B<=R)(hps:psz (pl m)<=2097152)(h1:5<=pt/\pt<=8)(h2:n=3)(h3:nmV (wdx ws 2)=none) :
  Zw 115 #[ZP R 0,ZL A n c] w (LnP base R mp ln w (jt pt (pl m) ws)):=by
 obtain⟨x,hx⟩:=ZB ws 1 bN;have ex:wdx ws 1=x:=cX;obtain⟨y,hy⟩:∃x,ws[2]? =some x:=⟨_,aD bN⟩;have ey:wdx ws 2=y:=fy
 have e:jt pt (pl m) ws=none:=by
  exact GP
 rw[e];subst h2;have HO:=hid (cu h 5 8 h1.1 h1.2);have q1:=h.part 8 ae;have d1:=hw.setR (o:=10) (u:=ZI 8) hA h.low;have k1:=KR.set base R 10 w (ZI 8);have e1:=hE.later (k1.below Fo cP hE.bw);have HM:=hid (aO R (w.setCell (ZA R 10) (ZI 8)));generalize w.setCell (ZA R 10) (ZI 8)=w1 at *;obtain⟨Ln,me,GT,aE⟩:=ZF q1 d1 k1 e1;have sx:=hw.sz x (ZO hx);have Kx:=ZJ d1 hx;have sy:=hw.sz y (ZO hy);have IN:=ZJ d1 hy;rw[ey]at h3;have Xs:=hid (fun(W:World) (hW:Zx w1 W)=>uL x W ae);have tr:=hid (fun(W:World) (hW:Zx w1 W)=>oN B R y ln W (e1.tens.later (hW.mono e1.bw)) (e1.errs.later (hW.mono e1.bw)) (ZW e1.bw hW.size) ae ((q1.later hW).cells 9) h3);clear h hw hE hps h1 q1 d1 k1 e1 e hx ex hy ey h3;go_enter func115,ntmps115
 go_wp2_with fail;refine ZE HO.out ?_;go_wp2_with fail;refine ZE HM.out ?_;go_wp2_with fail;have B1:=hid ((ZT w1.heap.size w1).drew)
 refine ZX (S:=(fun W=>W.cell? (ZA A 1)=some (.string x)/\W.cell? (ZA A 2)=some (.string y))) ak ⟨Kx.out _ B1.out,IN.out _ B1.out⟩ (fun hSw=>?_)
 generalize w1.drew=wd at *;refine Zt 0 ?_ (hS:=aJ);refine Zt 4 ?_ (hS:=aJ);refine Zt 5 ?_ (hS:=aJ);refine Zt 1 ?_ (hS:=aJ);refine Zt 6 ?_ (hS:=aJ);refine Zt 2 ?_ (hS:=aJ);refine Zt 7 ?_ (hS:=aJ);refine Zu 3 10 (fun K hK=>?_) fun K hK=>?_
 ·go_simp;refine(Xs.out _ B1.out).mono ?_;rintro e w5⟨rfl,AI⟩;have B5:=Zy B1 AI
  replace hSw:=And.intro (Kx.out _ B5.out) (IN.out _ B5.out);clear AI;refine Zv hK ?_ hSw;clear hK K;refine Zu 8 10 (fun K hK=>?_) fun K hK=>?_
  ·exact sN
  go_simp;have eE:=aj w5 (bK ⟨#[]⟩ 0);have eM:=hZn w5 (bK ⟨#[]⟩ 0);have d':w1.heap.size<=w5.heap.size:=B5.out.size;generalize w5.alloc (bK ⟨#[]⟩ 0)=w7 at *;have MY:=eE;clear eE;have B7:=Zy B5 MY;clear MY;generalize w5.heap.size=X at *;have Is:=hid eM;clear eM;replace hSw:=And.intro (Kx.out _ B7.out) (IN.out _ B7.out);refine Zv hK ?_ hSw;clear hK K;refine ZR 8 fun K hK=>?_;exact E0
 go_simp;have eE:=aj wd (bK ⟨#[]⟩ 0);have eM:=hZn wd (bK ⟨#[]⟩ 0);have d':w1.heap.size<=wd.heap.size:=B1.out.size;generalize wd.alloc (bK ⟨#[]⟩ 0)=w7 at *;have MY:=eE;clear eE;have B7:=Zy B1 MY;clear MY;generalize wd.heap.size=X at *;have Is:=hid eM;clear eM;replace hSw:=And.intro (Kx.out _ B7.out) (IN.out _ B7.out);refine Zv hK ?_ hSw;clear hK K;refine ZR 3 fun K hK=>?_;go_simp;refine(Xs.out _ B7.out).mono ?_;rintro e w5⟨rfl,AI⟩;have Is:=hid (ar AI Is.out);have B5:=Zy B7 AI;replace hSw:=And.intro (Kx.out _ B5.out) (IN.out _ B5.out);clear AI;refine Zv hK ?_ hSw;clear hK K;refine ZR 8 fun K hK=>?_;exact sN
variable {l:LIz}
theorem Sl{B base R A n c:Nat}(h:RQ base R mp m ln pt w)(hw:Wds w A n c ws)(hA:base<=A)(hE:cY B w)(Fo:B<=R)(hps:psz (pl m)<=2097152)(h1:5<=pt/\pt<=7)(h2:n=3){v:Int}(h3:nmV (wdx ws 1)=some v)(h4:kP (wdx ws 2)=some l) :
  Zw 114 #[ZP R 0,ZL A n c] w (LnP base R mp ln w (jl pt (pl m) ws)):=by
 obtain⟨i0,hi,hz0,hz1,hz2⟩:=Z0 UE;obtain⟨x,hx⟩:=ZB ws 1 bN;have ex:wdx ws 1=x:=cX;obtain⟨y,hy⟩:∃x,ws[2]? =some x:=⟨_,aD bN⟩;have ey:wdx ws 2=y:=fy
 have e:jl pt (pl m) ws=some (7,{ pl m with data:=(pl m).data++[(v,l)] }):=by
  exact ID
 rw[e];subst h2
 have hn:m.dn<=2097152:=by
  exact EM
 have HO:=hid (cu h 5 7 h1.1 h1.2);have q1:=h.part 7 ae;have d1:=hw.setR (o:=10) (u:=ZI 7) hA h.low;have k1:=KR.set base R 10 w (ZI 7);have e1:=hE.later (k1.below Fo cP hE.bw);have HM:=hid (aO R (w.setCell (ZA R 10) (ZI 7)));generalize w.setCell (ZA R 10) (ZI 7)=w1 at *;obtain⟨Ln,me,GT,aE⟩:=ZF q1 d1 k1 e1;have sx:=hw.sz x (ZO hx);have Kx:=ZJ d1 hx;have sy:=hw.sz y (ZO hy);have IN:=ZJ d1 hy;rw[ex]at h3;rw[ey]at h4;have Xs:=hid (fun(W:World) (hW:Zx w1 W)=>iV B R x v W (e1.tens.later (hW.mono e1.bw)) (ZW e1.bw hW.size) ae h3);have tr:=hid (fun(W:World) (hW:Zx w1 W)=>(by have:=N7 (q1.later hW) y ae; rw[h4]at this; exact this.mono (fun e w' h=>⟨h.1,h.2.2.1,h.2.2.2⟩):Zw 173 #[ZP R 0,.string y] W (fun e w'=>Zx W w'/\e=.returned (ZL W.heap.size (y.size / 2) (y.size / 2))/\w'.ownsRow W.heap.size 5 1 (ZL W.heap.size (y.size / 2) (y.size / 2)) (y.size / 2) (l.flatMap oV))));clear h hw hE hps h1 q1 d1 k1 e1 e hx ex hy ey h3 h4;go_enter func114,ntmps114
 go_wp2_with fail;refine ZE HO.out ?_;go_wp2_with fail;refine ZE HM.out ?_;go_wp2_with fail
 go_cut [4] from 12 to 22 (fun p W=>∃X,p=ZP X 0/\Hid (Zx w1 W/\∃G,W.heap[X]? =some (bo v (some (ZA G 0)) (y.size / 2) (y.size / 2))/\W.ownsRow w1.heap.size 5 1 (ZL G (y.size / 2) (y.size / 2)) (y.size / 2) (l.flatMap oV)))
 case first =>
  have B1:=hid ((ZT w1.heap.size w1).drew);refine ZX (S:=(fun W=>W.cell? (ZA A 1)=some (.string x)/\W.cell? (ZA A 2)=some (.string y))) ak ⟨Kx.out _ B1.out,IN.out _ B1.out⟩ (fun hSw=>?_)
  generalize w1.drew=wd at *;refine Zt 0 ?_ (hS:=aJ);refine Zt 1 ?_ (hS:=aJ);refine Zt 5 ?_ (hS:=aJ);refine Zt 6 ?_ (hS:=aJ);refine Zt 2 ?_ (hS:=aJ);refine Zt 7 ?_ (hS:=aJ);refine Zt 3 ?_ (hS:=aJ);refine Zt 8 ?_ (hS:=aJ);refine Zu 4 11 (fun K hK=>?_) fun K hK=>?_
  ·go_simp;refine(Xs.out _ B1.out).mono ?_;rintro e w5⟨rfl,AI⟩;have B5:=Zy B1 AI
   replace hSw:=And.intro (Kx.out _ B5.out) (IN.out _ B5.out);clear AI;refine Zv hK ?_ hSw;clear hK K;refine Zu 9 11 (fun K hK=>?_) fun K hK=>?_
   ·go_simp;refine(tr.out _ B5.out).mono ?_;rintro e w6⟨LE,rfl,Ft⟩;have O5:=hid (oF Ft B5.out.size)
    skip
    have B6:=Zy B5 LE;replace hSw:=And.intro (Kx.out _ B6.out) (IN.out _ B6.out);clear LE Ft;refine hK.out _ _ hSw (fun _=>?_)
    clear hK K;refine Zt 10 ?_ (hS:=aJ);refine ZR 11 fun K hK=>?_;go_simp;have eE:=aj w6 (bo 0 none 0 0);have eM:=hZn w6 (bo 0 none 0 0);have d':w1.heap.size<=w6.heap.size:=B6.out.size;generalize w6.alloc (bo 0 none 0 0)=w7 at *;have MY:=eE;clear eE;have O5:=hid (bJ O5.out MY);have B7:=Zy B6 MY;clear MY;generalize w6.heap.size=X at *;have Is:=hid eM;clear eM;replace hSw:=And.intro (Kx.out _ B7.out) (IN.out _ B7.out);refine Zv hK ?_ hSw;clear hK K;refine ZR 12 fun K hK=>?_;have cX0:=iz0 Is.out;have cX1:=iz1 Is.out;have fX0:=free_at (i:=0) Is.out;have fX1:=free_at (i:=1) Is.out;go_simp;have HST:=hid (fun u v=>sG B7.out Is.out d' u v);clear hSw;refine hK.out _ _ ⟨Kx.out _ (HST.out _ _).1,IN.out _ (HST.out _ _).1⟩ (fun hSw=>?_);clear hK K;refine Z4 ak ?_ _;go_wp2_with fail
    go_meet
    exact⟨X,rfl,hid ⟨(HST.out _ _).1,_,(HST.out _ _).2.1,kQ O5.out (HST.out _ _).2.2 Is.out au⟩⟩
   go_simp;have eE:=aj w5 (bo 0 none 0 0);have eM:=hZn w5 (bo 0 none 0 0);have d':w1.heap.size<=w5.heap.size:=B5.out.size;generalize w5.alloc (bo 0 none 0 0)=w7 at *;have MY:=eE;clear eE;have B7:=Zy B5 MY;clear MY;generalize w5.heap.size=X at *;have Is:=hid eM;clear eM;replace hSw:=And.intro (Kx.out _ B7.out) (IN.out _ B7.out);refine Zv hK ?_ hSw;clear hK K;refine ZR 9 fun K hK=>?_;go_simp;refine(tr.out _ B7.out).mono ?_;rintro e w6⟨LE,rfl,Ft⟩;have O5:=hid (oF Ft B7.out.size);have Is:=hid (ar LE Is.out)
   skip
   have B6:=Zy B7 LE;exact NE
  go_simp;have eE:=aj wd (bo 0 none 0 0);have eM:=hZn wd (bo 0 none 0 0);have d':w1.heap.size<=wd.heap.size:=B1.out.size;generalize wd.alloc (bo 0 none 0 0)=w7 at *;have MY:=eE;clear eE;have B7:=Zy B1 MY;clear MY;generalize wd.heap.size=X at *;have Is:=hid eM;clear eM;replace hSw:=And.intro (Kx.out _ B7.out) (IN.out _ B7.out);refine Zv hK ?_ hSw;clear hK K;refine ZR 4 fun K hK=>?_;go_simp;refine(Xs.out _ B7.out).mono ?_;rintro e w5⟨rfl,AI⟩;have Is:=hid (ar AI Is.out);have B5:=Zy B7 AI;replace hSw:=And.intro (Kx.out _ B5.out) (IN.out _ B5.out);clear AI;refine Zv hK ?_ hSw;clear hK K;refine ZR 9 fun K hK=>?_;go_simp;refine(tr.out _ B5.out).mono ?_;rintro e w6⟨LE,rfl,Ft⟩;have O5:=hid (oF Ft B5.out.size);have Is:=hid (ar LE Is.out)
  skip
  have B6:=Zy B5 LE;exact NE
 case rest =>
  obtain⟨X,rfl,HC⟩:=hcut;obtain⟨gR,G,hx9,ho9⟩:=HC.out;obtain⟨BX,AT,OX⟩:=ZH gR hx9 ho9;have Q1:=hid (Ln.out.later BX.out);clear HC Xs tr gR hx9 ho9;generalize wc=w9 at *;go_wp2_with fail;have B1:=hid ((ZT w9.heap.size w9).drew);refine ZX (S:=fun _=>True) ak trivial (fun _=>?_)
  generalize w9.drew=wd at *;refine Zt 0 ?_;refine Zt 1 ?_;refine Zt 2 ?_;refine Zt 3 ?_;refine Zt 4 ?_;refine Zu 5 6 (fun K hK=>?_) fun K hK=>?_
  ·have cH:wd.cell? (ZA R 7)=some (.slice m.da m.dn m.dc):=(Q1.out.later B1.out).cells 7;go_simp
   refine Zv hK ?_;clear hK K;refine ZR 6 fun K hK=>?_;have y0:=iz0 (ar B1.out AT.out);have y1:=iz1 (ar B1.out AT.out);exact M4
  have y0:=iz0 (ar B1.out AT.out);have y1:=iz1 (ar B1.out AT.out);go_simp;refine Zv hK ?_;clear hK K;refine Zu 5 7 (fun K hK=>?_) fun K hK=>?_
  ·have cH:wd.cell? (ZA R 7)=some (.slice m.da m.dn m.dc):=(Q1.out.later B1.out).cells 7;exact M4
  go_simp;have BN:=Zy B1 (aj wd (bo v (some (ZA G 0)) (y.size / 2) (y.size / 2)));refine Zv hK ?_;clear hK K;refine ZR 5 fun K hK=>?_;have cH:(wd.alloc (bo v (some (ZA G 0)) (y.size / 2) (y.size / 2))).cell? (ZA R 7)=some (.slice m.da m.dn m.dc):=(Q1.out.later BN.out).cells 7;go_simp;refine Zv hK ?_;clear hK K;refine ZR 8 fun K hK=>?_;refine wp_append_lies _ (.tmp 28) (.tmp 30) 26 rfl base 81 i0 (.agg #[ZI 0,ZN]) 2 32 underlying26 hi hz0 hz1 hz2 rfl au (.slice m.da m.dn m.dc) m.dn (m.data.flatMap iD) rfl (Q1.out.later BN.out).rd (ZA wd.heap.size 0) 1 1 (iD ((v,(some (ZA G 0),y.size / 2,y.size / 2),l):DaM)) rfl rfl ?n1 ?n2 au aP ae (Q1.out.later BN.out).bw _ rfl ?_
  case n1 =>
   exact EY
  case n2=>intro u hu; simp[iD]at hu; rcases hu with rfl | rfl <;> rfl
  intro g cap w6 Ft BE _ _;have PX:=hid ((Q1.out).pushD BN.out ((v,(some (ZA G 0),y.size / 2,y.size / 2),l):DaM) (oF (bJ OX.out (ZT _ _)) Ln.out.bw) (fun k hk=>Ln.out.frD (dN OX.out hk).1) Ft BE);have z6:=hid (bF ((Q1.out.later BN.out).blk) (Q1.out).low ((Q1.out.later BN.out).rd) BE);clear Ft BE;refine hK.out _ _ trivial (fun _=>?_)
  clear hK K;refine Zt 9 ?_;refine Zt 10 ?_;refine Zt 11 ?_;refine ZR 12 fun K hK=>?_;have c16:=iz7 z6.out;have f16:=free_at (i:=7) z6.out;go_simp;refine Zv hK ?_;clear hK K;refine Z4 ak ?_ _;go_end0;exact⟨(GT.out.trans (KR.later BX.out)).trans PX.out.2,rfl,_,PX.out.1,by unfold pl; simp[plD,List.map_append]⟩
theorem VU{B base R A n c:Nat}(h:RQ base R mp m ln pt w)(hw:Wds w A n c ws)(hA:base<=A)(hE:cY B w)(Fo:B<=R)(hps:psz (pl m)<=2097152)(h1:5<=pt/\pt<=7)(h2:n=3)(h3:nmV (wdx ws 1)=none) :
  Zw 114 #[ZP R 0,ZL A n c] w (LnP base R mp ln w (jl pt (pl m) ws)):=by
 obtain⟨x,hx⟩:=ZB ws 1 bN;have ex:wdx ws 1=x:=cX;obtain⟨y,hy⟩:∃x,ws[2]? =some x:=⟨_,aD bN⟩;have ey:wdx ws 2=y:=fy
 have e:jl pt (pl m) ws=none:=by
  rw[ex]at h3;unfold jl; rw[if_pos ⟨h1,ig⟩,ex,ey]; rw[h3]; rfl
 rw[e];subst h2;have HO:=hid (cu h 5 7 h1.1 h1.2);have q1:=h.part 7 ae;have d1:=hw.setR (o:=10) (u:=ZI 7) hA h.low;have k1:=KR.set base R 10 w (ZI 7);have e1:=hE.later (k1.below Fo cP hE.bw);have HM:=hid (aO R (w.setCell (ZA R 10) (ZI 7)));generalize w.setCell (ZA R 10) (ZI 7)=w1 at *;obtain⟨Ln,me,GT,aE⟩:=ZF q1 d1 k1 e1;have sx:=hw.sz x (ZO hx);have Kx:=ZJ d1 hx;have sy:=hw.sz y (ZO hy);have IN:=ZJ d1 hy;rw[ex]at h3;have Xs:=hid (fun(W:World) (hW:Zx w1 W)=>oN B R x ln W (e1.tens.later (hW.mono e1.bw)) (e1.errs.later (hW.mono e1.bw)) (ZW e1.bw hW.size) ae ((q1.later hW).cells 9) h3);clear h hw hE hps h1 q1 d1 k1 e1 e hx ex hy ey h3;go_enter func114,ntmps114
 go_wp2_with fail;refine ZE HO.out ?_;go_wp2_with fail;refine ZE HM.out ?_;go_wp2_with fail;have B1:=hid ((ZT w1.heap.size w1).drew)
 refine ZX (S:=(fun W=>W.cell? (ZA A 1)=some (.string x)/\W.cell? (ZA A 2)=some (.string y))) ak ⟨Kx.out _ B1.out,IN.out _ B1.out⟩ (fun hSw=>?_)
 generalize w1.drew=wd at *;refine Zt 0 ?_ (hS:=aJ);refine Zt 1 ?_ (hS:=aJ);refine Zt 5 ?_ (hS:=aJ);refine Zt 6 ?_ (hS:=aJ);refine Zt 2 ?_ (hS:=aJ);refine Zt 7 ?_ (hS:=aJ);refine Zt 3 ?_ (hS:=aJ);refine Zt 8 ?_ (hS:=aJ);refine Zu 4 11 (fun K hK=>?_) fun K hK=>?_
 ·exact Gu
 go_simp;have eE:=aj wd (bo 0 none 0 0);have eM:=hZn wd (bo 0 none 0 0);have d':w1.heap.size<=wd.heap.size:=B1.out.size;generalize wd.alloc (bo 0 none 0 0)=w7 at *;have MY:=eE;clear eE;have B7:=Zy B1 MY;clear MY;generalize wd.heap.size=X at *;have Is:=hid eM;clear eM;replace hSw:=And.intro (Kx.out _ B7.out) (IN.out _ B7.out);refine Zv hK ?_ hSw;clear hK K;refine ZR 4 fun K hK=>?_;go_simp;refine(Xs.out _ B7.out).mono ?_;rintro e w5⟨rfl,AI⟩;exact⟨rfl,GT.out.trans (KR.later (B7.out.trans (AI.mono B7.out.size))),rfl⟩
theorem Va{B base R A n c:Nat}(h:RQ base R mp m ln pt w)(hw:Wds w A n c ws)(hA:base<=A)(hE:cY B w)(Fo:B<=R)(hps:psz (pl m)<=2097152)(h1:5<=pt/\pt<=7)(h2:n=3){v:Int}(h3:nmV (wdx ws 1)=some v)(h4:kP (wdx ws 2)=none) :
  Zw 114 #[ZP R 0,ZL A n c] w (LnP base R mp ln w (jl pt (pl m) ws)):=by
 obtain⟨x,hx⟩:=ZB ws 1 bN;have ex:wdx ws 1=x:=cX;obtain⟨y,hy⟩:∃x,ws[2]? =some x:=⟨_,aD bN⟩;have ey:wdx ws 2=y:=fy
 have e:jl pt (pl m) ws=none:=by
  exact ID
 rw[e];subst h2;have HO:=hid (cu h 5 7 h1.1 h1.2);have q1:=h.part 7 ae;have d1:=hw.setR (o:=10) (u:=ZI 7) hA h.low;have k1:=KR.set base R 10 w (ZI 7);have e1:=hE.later (k1.below Fo cP hE.bw);have HM:=hid (aO R (w.setCell (ZA R 10) (ZI 7)));generalize w.setCell (ZA R 10) (ZI 7)=w1 at *;obtain⟨Ln,me,GT,aE⟩:=ZF q1 d1 k1 e1;have sx:=hw.sz x (ZO hx);have Kx:=ZJ d1 hx;have sy:=hw.sz y (ZO hy);have IN:=ZJ d1 hy;rw[ex]at h3;rw[ey]at h4;have Xs:=hid (fun(W:World) (hW:Zx w1 W)=>iV B R x v W (e1.tens.later (hW.mono e1.bw)) (ZW e1.bw hW.size) ae h3);have tr:=hid (fun(W:World) (hW:Zx w1 W)=>(by have:=N7 (q1.later hW) y ae; rw[h4]at this; exact this.mono (fun e w' h=>⟨h.2,h.1⟩):Zw 173 #[ZP R 0,.string y] W (fun e w'=>e=thL ln/\Zx W w')));clear h hw hE hps h1 q1 d1 k1 e1 e hx ex hy ey h3 h4;go_enter func114,ntmps114
 go_wp2_with fail;refine ZE HO.out ?_;go_wp2_with fail;refine ZE HM.out ?_;go_wp2_with fail;have B1:=hid ((ZT w1.heap.size w1).drew)
 refine ZX (S:=(fun W=>W.cell? (ZA A 1)=some (.string x)/\W.cell? (ZA A 2)=some (.string y))) ak ⟨Kx.out _ B1.out,IN.out _ B1.out⟩ (fun hSw=>?_)
 generalize w1.drew=wd at *;refine Zt 0 ?_ (hS:=aJ);refine Zt 1 ?_ (hS:=aJ);refine Zt 5 ?_ (hS:=aJ);refine Zt 6 ?_ (hS:=aJ);refine Zt 2 ?_ (hS:=aJ);refine Zt 7 ?_ (hS:=aJ);refine Zt 3 ?_ (hS:=aJ);refine Zt 8 ?_ (hS:=aJ);refine Zu 4 11 (fun K hK=>?_) fun K hK=>?_
 ·go_simp;refine(Xs.out _ B1.out).mono ?_;rintro e w5⟨rfl,AI⟩;have B5:=Zy B1 AI
  replace hSw:=And.intro (Kx.out _ B5.out) (IN.out _ B5.out);clear AI;refine Zv hK ?_ hSw;clear hK K;refine Zu 9 11 (fun K hK=>?_) fun K hK=>?_
  ·exact sN
  go_simp;have eE:=aj w5 (bo 0 none 0 0);have eM:=hZn w5 (bo 0 none 0 0);have d':w1.heap.size<=w5.heap.size:=B5.out.size;generalize w5.alloc (bo 0 none 0 0)=w7 at *;have MY:=eE;clear eE;have B7:=Zy B5 MY;clear MY;generalize w5.heap.size=X at *;have Is:=hid eM;clear eM;replace hSw:=And.intro (Kx.out _ B7.out) (IN.out _ B7.out);refine Zv hK ?_ hSw;clear hK K;refine ZR 9 fun K hK=>?_;exact E0
 go_simp;have eE:=aj wd (bo 0 none 0 0);have eM:=hZn wd (bo 0 none 0 0);have d':w1.heap.size<=wd.heap.size:=B1.out.size;generalize wd.alloc (bo 0 none 0 0)=w7 at *;have MY:=eE;clear eE;have B7:=Zy B1 MY;clear MY;generalize wd.heap.size=X at *;have Is:=hid eM;clear eM;replace hSw:=And.intro (Kx.out _ B7.out) (IN.out _ B7.out);refine Zv hK ?_ hSw;clear hK K;refine ZR 4 fun K hK=>?_;go_simp;refine(Xs.out _ B7.out).mono ?_;rintro e w5⟨rfl,AI⟩;have Is:=hid (ar AI Is.out);have B5:=Zy B7 AI;replace hSw:=And.intro (Kx.out _ B5.out) (IN.out _ B5.out);clear AI;refine Zv hK ?_ hSw;clear hK K;refine ZR 9 fun K hK=>?_;exact sN
theorem U9{B base R A n c:Nat}(h:RQ base R mp m ln pt w)(hw:Wds w A n c ws)(hA:base<=A)(hE:cY B w)(Fo:B<=R)(hps:psz (pl m)<=2097152) :
  Zw 114 #[ZP R 0,ZL A n c] w (LnP base R mp ln w (jl pt (pl m) ws)):=by
 by_cases h1:5<=pt/\pt<=7
 ·by_cases h2:n=3
  ·rcases h3:nmV (wdx ws 1) with _ | v
   ·exact VU h hw hA hE Fo hps h1 h2 h3
   rcases h4:kP (wdx ws 2) with _ | l
   ·exact Va h hw hA hE Fo hps h1 h2 h3 h4
   exact Sl h hw hA hE Fo hps h1 h2 h3 h4
  exact Ss h hw h1 h2
 exact S0 h h1
theorem Vk{B base R A n c:Nat}(h:RQ base R mp m ln pt w)(hw:Wds w A n c ws)(hA:base<=A)(hE:cY B w)(Fo:B<=R)(hps:psz (pl m)<=2097152) :
  Zw 115 #[ZP R 0,ZL A n c] w (LnP base R mp ln w (jt pt (pl m) ws)):=by
 by_cases h1:5<=pt/\pt<=8
 ·by_cases h2:n=3
  ·rcases h3:nmV (wdx ws 2) with _ | v
   ·exact WK h hw hA hE Fo hps h1 h2 h3
   exact SZ h hw hA hE Fo hps h1 h2 h3
  exact Tv h hw h1 h2
 exact Sp h h1
end
section
theorem Od:(prog.info? 102).map (fun i=>(i.zero,i.size,i.bytes))=some (some (.agg #[ZU 0,.bool false,.int .u64 0]),3,16):=ak
theorem Yv(v:Int):IntKind.u64.wrap v=v%18446744073709551616:=by simp[IntKind.wrap,IntKind.signed,IntKind.bits]
theorem fP:uU.toList=[118,97,114]:=by rw[bq]; rfl
theorem fk:qD.toList=[99,111,110,115,116]:=by rw[bq]; rfl
variable {mp:Value}{m:MM}{ln pt:Int}{w:World}{ws:Zai}{M:Bool}
theorem Yf{B base R A n c:Nat}(h:RQ base R mp m ln pt w)(hw:Wds w A n c ws)(hA:base<=A)(hE:cY B w)(Fo:B<=R)(hps:psz (pl m)<=2097152)(h1:1<=pt/\pt<=4)(h2:n=4)(h3:((wdx ws 2).toList=[118,97,114]/\M=true)\/((wdx ws 2).toList=[99,111,110,115,116]/\M=false)){v:Int}(h4:nmV (wdx ws 3)=some v)(h5:(wdx ws 1).toList=[119])(h6:v=wrap32 v) :
  Zw 111 #[ZP R 0,ZL A n c] w (LnP base R mp ln w (dO pt (pl m) ws)):=by
 obtain⟨i0,hi,hz0,hz1,hz2⟩:=Z0 Od;obtain⟨x,hx⟩:=ZB ws 1 bN;have ex:wdx ws 1=x:=cX;obtain⟨z,hz⟩:∃x,ws[2]? =some x:=⟨_,aD bN⟩;have ez:wdx ws 2=z:=qo;obtain⟨y,hy⟩:∃x,ws[3]? =some x:=⟨_,aD bN⟩;have ey:wdx ws 3=y:=fy
 have e:dO pt (pl m) ws=some (4,{ pl m with globals:=(pl m).globals++[(119,M,v%4294967296)] }):=by
  unfold dO; rw[if_pos ⟨h1,ig,h3.imp (fun y=>y.1.trans fP.symm) (fun y=>y.1.trans fk.symm)⟩]; rw[h4]
  have eg:gvV (wdx ws 1) v=some (119,v%4294967296):=by unfold gvV; rw[if_pos h5,if_pos h6]
  exact FN
 rw[e];subst h2
 have hn:m.gn<=2097152:=by
  exact wS
 have HO:=hid (cu h 1 4 h1.1 h1.2);have q1:=h.part 4 ae;have d1:=hw.setR (o:=10) (u:=ZI 4) hA h.low;have k1:=KR.set base R 10 w (ZI 4);have e1:=hE.later (k1.below Fo cP hE.bw);have HM:=hid (aO R (w.setCell (ZA R 10) (ZI 4)));generalize w.setCell (ZA R 10) (ZI 4)=w1 at *;obtain⟨Ln,me,GT,aE⟩:=ZF q1 d1 k1 e1;have sx:=hw.sz x (ZO hx);have Kx:=ZJ d1 hx;have sz:=hw.sz z (ZO hz);have HWz:=ZJ d1 hz;have sy:=hw.sz y (ZO hy);have IN:=ZJ d1 hy;rw[ez]at h3
 have kz1:(z.toList==[118,97,114])=M:=by rcases h3 with ⟨y,rfl⟩ | ⟨y,rfl⟩ <;> rw[y] <;> rfl
 have yy:M=false->(z.toList==[99,111,110,115,116])=true:=fun e=>by
  exact pM
 rw[ey]at h4;rw[ex]at h5
 have hx1:(x.toList==[119])=true:=by rw[h5]; rfl
 have hfit:(v==wrap64 (wrap32 v))=true:=by rw[zM]; simpa using h6
 have Xs:=hid (fun(W:World) (hW:Zx w1 W)=>pF B R y v W (e1.tens.later (hW.mono e1.bw)) (ZW e1.bw hW.size) ae h4);clear h hw hE hps h1 q1 d1 k1 e1 e hx ex hz ez hy ey h3 h4 h5 h6;go_enter func111,ntmps111
 go_wp2_with fail;refine ZE HO.out ?_;go_wp2_with fail;refine ZE HM.out ?_;have KZ2:=hid yy;clear yy
 go_upto_region 2 with fail
 go_cut [] from 13 to 24 (fun wx=>wx=w1)
 case first =>
  exact D9
 case rest =>
 have hc:=hcut.symm;subst hc;have cz:=HWz.out w1 (ZT _ _);clear hcut KZ2;have cy:(w1.alloc (aZ 0 M 0)).cell? (ZA A 3)=some (.string y):=IN.out _ (aj w1 _);have G':=hid (aj w1 (aZ 0 M 0));have hX0:=hid (hZn w1 (aZ 0 M 0));go_wp2_with fail;refine(Xs.out _ G'.out).mono ?_;rintro e w5⟨rfl,AI⟩;have B5:=Zy G' AI;have sh:=ar AI hX0.out;have c50:=iz0 sh;have c52:=iz2 sh;have f50:=free_at (i:=0) sh;have f52:=free_at (i:=2) sh;have j7:=hid sh;have cx5:w5.cell? (ZA A 1)=some (.string x):=Kx.out _ B5.out;have HQ5:=hid (Ln.out.later B5.out);clear AI cy hX0 sh;have HM5:=hid (aO R w5);go_wp2_with fail;refine ZE HM5.out ?_;have ST:=hid (fun(u v:Value)=>(aB w5 w1.heap.size 0 u).trans (aB (w5.setCell (ZA w1.heap.size 0) u) w1.heap.size 2 v));go_wp2_with fail;have BX:=hid (B5.out.trans ((ST.out (ZU 119) (.int .u64 (v%4294967296))).to_below B5.out.size (fun k _ hk=>by have e:k=w1.heap.size:=hk; omega)));have AT:=hid (show((w5.setCell (ZA w1.heap.size 0) (ZU 119)).setCell (ZA w1.heap.size 2) (.int .u64 (v%4294967296))).heap[w1.heap.size]? =some (aZ 119 M (v%4294967296)) by rw[aT (aT j7.out)]; rfl);have Q1:=hid (Ln.out.later BX.out);have KX:=hid (KR.later (base:=base) (R:=R) BX.out);clear ST;generalize (w5.setCell (ZA w1.heap.size 0) (ZU 119)).setCell (ZA w1.heap.size 2) (.int .u64 (v%4294967296))=w9 at *;generalize w1.heap.size=X at *;have B1:=hid ((ZT w9.heap.size w9).drew);refine ZX (S:=fun _=>True) ak trivial (fun _=>?_)
 generalize w9.drew=wd at *;refine Zt 0 ?_;refine Zt 1 ?_;refine Zt 2 ?_;refine Zt 3 ?_;refine Zt 4 ?_;refine Zu 5 6 (fun K hK=>?_) fun K hK=>?_
 ·have cH:wd.cell? (ZA R 3)=some (.slice m.ga m.gn m.gc):=(Q1.out.later B1.out).cells 3;go_simp
  refine Zv hK ?_;clear hK K;refine ZR 6 fun K hK=>?_;have y0:=iz0 (ar B1.out AT.out);have y1:=iz1 (ar B1.out AT.out);have y2:=iz2 (ar B1.out AT.out);exact NF
 have y0:=iz0 (ar B1.out AT.out);have y1:=iz1 (ar B1.out AT.out);have y2:=iz2 (ar B1.out AT.out);go_simp;refine Zv hK ?_;clear hK K;refine Zu 5 7 (fun K hK=>?_) fun K hK=>?_
 ·have cH:wd.cell? (ZA R 3)=some (.slice m.ga m.gn m.gc):=(Q1.out.later B1.out).cells 3;exact NF
 go_simp;have BN:=Zy B1 (aj wd (aZ 119 M (v%4294967296)));refine Zv hK ?_;clear hK K;refine ZR 5 fun K hK=>?_;have cH:(wd.alloc (aZ 119 M (v%4294967296))).cell? (ZA R 3)=some (.slice m.ga m.gn m.gc):=(Q1.out.later BN.out).cells 3;go_simp;refine Zv hK ?_;clear hK K;refine ZR 8 fun K hK=>?_;refine wp_append_lies _ (.tmp 65) (.tmp 67) 24 rfl base 102 i0 (.agg #[ZU 0,.bool false,.int .u64 0]) 3 16 underlying24 hi hz0 hz1 hz2 rfl au (.slice m.ga m.gn m.gc) m.gn (m.globals.flatMap fQ) rfl (Q1.out.later BN.out).rg (ZA wd.heap.size 0) 1 1 (fQ ((119,M,v%4294967296):Gl)) rfl rfl ?n1 ?n2 au aP ae (Q1.out.later BN.out).bw _ rfl ?_
 case n1 =>
  exact D8
 case n2=>intro u hu; simp[fQ]at hu; rcases hu with rfl | rfl | rfl <;> rfl
 intro g cap w6 Ft BE _ _;have PX:=hid ((Q1.out).pushG BN.out ((119,M,v%4294967296):Gl) Ft BE);exact Nn
theorem Vn{B base R A n c:Nat}(h:RQ base R mp m ln pt w)(hw:Wds w A n c ws)(hA:base<=A)(hE:cY B w)(Fo:B<=R)(hps:psz (pl m)<=2097152)(h1:1<=pt/\pt<=4)(h2:n=4)(h3:((wdx ws 2).toList=[118,97,114]/\M=true)\/((wdx ws 2).toList=[99,111,110,115,116]/\M=false)){v:Int}(h4:nmV (wdx ws 3)=some v)(h5:(wdx ws 1).toList=[119])(h6:¬v=wrap32 v) :
  Zw 111 #[ZP R 0,ZL A n c] w (LnP base R mp ln w (dO pt (pl m) ws)):=by
 obtain⟨x,hx⟩:=ZB ws 1 bN;have ex:wdx ws 1=x:=cX;obtain⟨z,hz⟩:∃x,ws[2]? =some x:=⟨_,aD bN⟩;have ez:wdx ws 2=z:=qo;obtain⟨y,hy⟩:∃x,ws[3]? =some x:=⟨_,aD bN⟩;have ey:wdx ws 3=y:=fy
 have e:dO pt (pl m) ws=none:=by
  unfold dO; rw[if_pos ⟨h1,ig,h3.imp (fun y=>y.1.trans fP.symm) (fun y=>y.1.trans fk.symm)⟩]; rw[h4]
  have eg:gvV (wdx ws 1) v=none:=by unfold gvV; rw[if_pos h5,if_neg h6]
  simp only[Zac,eg,Option.map_none]
 rw[e];subst h2;have HO:=hid (cu h 1 4 h1.1 h1.2);have q1:=h.part 4 ae;have d1:=hw.setR (o:=10) (u:=ZI 4) hA h.low;have k1:=KR.set base R 10 w (ZI 4);have e1:=hE.later (k1.below Fo cP hE.bw);have HM:=hid (aO R (w.setCell (ZA R 10) (ZI 4)));generalize w.setCell (ZA R 10) (ZI 4)=w1 at *;obtain⟨Ln,me,GT,aE⟩:=ZF q1 d1 k1 e1;have sx:=hw.sz x (ZO hx);have Kx:=ZJ d1 hx;have sz:=hw.sz z (ZO hz);have HWz:=ZJ d1 hz;have sy:=hw.sz y (ZO hy);have IN:=ZJ d1 hy;rw[ez]at h3
 have kz1:(z.toList==[118,97,114])=M:=by rcases h3 with ⟨y,rfl⟩ | ⟨y,rfl⟩ <;> rw[y] <;> rfl
 have yy:M=false->(z.toList==[99,111,110,115,116])=true:=fun e=>by
  exact pM
 rw[ey]at h4;rw[ex]at h5
 have hx1:(x.toList==[119])=true:=by rw[h5]; rfl
 have hfit:(v==wrap64 (wrap32 v))=false:=by rw[zM]; simpa using h6
 exact Ov
theorem Yp{B base R A n c:Nat}(h:RQ base R mp m ln pt w)(hw:Wds w A n c ws)(hA:base<=A)(hE:cY B w)(Fo:B<=R)(hps:psz (pl m)<=2097152)(h1:1<=pt/\pt<=4)(h2:n=4)(h3:((wdx ws 2).toList=[118,97,114]/\M=true)\/((wdx ws 2).toList=[99,111,110,115,116]/\M=false)){v:Int}(h4:nmV (wdx ws 3)=some v)(h5:(wdx ws 1).toList=[108]) :
  Zw 111 #[ZP R 0,ZL A n c] w (LnP base R mp ln w (dO pt (pl m) ws)):=by
 obtain⟨i0,hi,hz0,hz1,hz2⟩:=Z0 Od;obtain⟨x,hx⟩:=ZB ws 1 bN;have ex:wdx ws 1=x:=cX;obtain⟨z,hz⟩:∃x,ws[2]? =some x:=⟨_,aD bN⟩;have ez:wdx ws 2=z:=qo;obtain⟨y,hy⟩:∃x,ws[3]? =some x:=⟨_,aD bN⟩;have ey:wdx ws 3=y:=fy
 have e:dO pt (pl m) ws=some (4,{ pl m with globals:=(pl m).globals++[(108,M,v%18446744073709551616)] }):=by
  unfold dO; rw[if_pos ⟨h1,ig,h3.imp (fun y=>y.1.trans fP.symm) (fun y=>y.1.trans fk.symm)⟩]; rw[h4]
  have eg:gvV (wdx ws 1) v=some (108,v%18446744073709551616):=by unfold gvV; rw[if_neg (by rw[h5]; decide),if_pos h5]
  exact FN
 rw[e];subst h2
 have hn:m.gn<=2097152:=by
  exact wS
 have HO:=hid (cu h 1 4 h1.1 h1.2);have q1:=h.part 4 ae;have d1:=hw.setR (o:=10) (u:=ZI 4) hA h.low;have k1:=KR.set base R 10 w (ZI 4);have e1:=hE.later (k1.below Fo cP hE.bw);have HM:=hid (aO R (w.setCell (ZA R 10) (ZI 4)));generalize w.setCell (ZA R 10) (ZI 4)=w1 at *;obtain⟨Ln,me,GT,aE⟩:=ZF q1 d1 k1 e1;have sx:=hw.sz x (ZO hx);have Kx:=ZJ d1 hx;have sz:=hw.sz z (ZO hz);have HWz:=ZJ d1 hz;have sy:=hw.sz y (ZO hy);have IN:=ZJ d1 hy;rw[ez]at h3
 have kz1:(z.toList==[118,97,114])=M:=by rcases h3 with ⟨y,rfl⟩ | ⟨y,rfl⟩ <;> rw[y] <;> rfl
 have yy:M=false->(z.toList==[99,111,110,115,116])=true:=fun e=>by
  exact pM
 rw[ey]at h4;rw[ex]at h5
 have hx1:(x.toList==[119])=false:=by rw[h5]; rfl
 have hx2:(x.toList==[108])=true:=by rw[h5]; rfl
 have hu64:IntKind.u64.wrap v=v%18446744073709551616:=Yv v;have Xs:=hid (fun(W:World) (hW:Zx w1 W)=>pF B R y v W (e1.tens.later (hW.mono e1.bw)) (ZW e1.bw hW.size) ae h4);clear h hw hE hps h1 q1 d1 k1 e1 e hx ex hz ez hy ey h3 h4 h5;go_enter func111,ntmps111
 go_wp2_with fail;refine ZE HO.out ?_;go_wp2_with fail;refine ZE HM.out ?_;have KZ2:=hid yy;clear yy
 go_upto_region 2 with fail
 go_cut [] from 13 to 24 (fun wx=>wx=w1)
 case first =>
  exact D9
 case rest =>
 have hc:=hcut.symm;subst hc;have cz:=HWz.out w1 (ZT _ _);clear hcut KZ2;have cy:(w1.alloc (aZ 0 M 0)).cell? (ZA A 3)=some (.string y):=IN.out _ (aj w1 _);have G':=hid (aj w1 (aZ 0 M 0));have hX0:=hid (hZn w1 (aZ 0 M 0));go_wp2_with fail;refine(Xs.out _ G'.out).mono ?_;rintro e w5⟨rfl,AI⟩;have B5:=Zy G' AI;have sh:=ar AI hX0.out;have c50:=iz0 sh;have c52:=iz2 sh;have f50:=free_at (i:=0) sh;have f52:=free_at (i:=2) sh;have j7:=hid sh;have cx5:w5.cell? (ZA A 1)=some (.string x):=Kx.out _ B5.out;have HQ5:=hid (Ln.out.later B5.out);clear AI cy hX0 sh;have ST:=hid (fun(u v:Value)=>(aB w5 w1.heap.size 0 u).trans (aB (w5.setCell (ZA w1.heap.size 0) u) w1.heap.size 2 v));go_wp2_with fail;have BX:=hid (B5.out.trans ((ST.out (ZU 108) (.int .u64 (v%18446744073709551616))).to_below B5.out.size (fun k _ hk=>by have e:k=w1.heap.size:=hk; omega)));have AT:=hid (show((w5.setCell (ZA w1.heap.size 0) (ZU 108)).setCell (ZA w1.heap.size 2) (.int .u64 (v%18446744073709551616))).heap[w1.heap.size]? =some (aZ 108 M (v%18446744073709551616)) by rw[aT (aT j7.out)]; rfl);have Q1:=hid (Ln.out.later BX.out);have KX:=hid (KR.later (base:=base) (R:=R) BX.out);clear ST;generalize (w5.setCell (ZA w1.heap.size 0) (ZU 108)).setCell (ZA w1.heap.size 2) (.int .u64 (v%18446744073709551616))=w9 at *;generalize w1.heap.size=X at *;have B1:=hid ((ZT w9.heap.size w9).drew);refine ZX (S:=fun _=>True) ak trivial (fun _=>?_)
 generalize w9.drew=wd at *;refine Zt 0 ?_;refine Zt 1 ?_;refine Zt 2 ?_;refine Zt 3 ?_;refine Zt 4 ?_;refine Zu 5 6 (fun K hK=>?_) fun K hK=>?_
 ·have cH:wd.cell? (ZA R 3)=some (.slice m.ga m.gn m.gc):=(Q1.out.later B1.out).cells 3;go_simp
  refine Zv hK ?_;clear hK K;refine ZR 6 fun K hK=>?_;have y0:=iz0 (ar B1.out AT.out);have y1:=iz1 (ar B1.out AT.out);have y2:=iz2 (ar B1.out AT.out);exact ND
 have y0:=iz0 (ar B1.out AT.out);have y1:=iz1 (ar B1.out AT.out);have y2:=iz2 (ar B1.out AT.out);go_simp;refine Zv hK ?_;clear hK K;refine Zu 5 7 (fun K hK=>?_) fun K hK=>?_
 ·have cH:wd.cell? (ZA R 3)=some (.slice m.ga m.gn m.gc):=(Q1.out.later B1.out).cells 3;exact ND
 go_simp;have BN:=Zy B1 (aj wd (aZ 108 M (v%18446744073709551616)));refine Zv hK ?_;clear hK K;refine ZR 5 fun K hK=>?_;have cH:(wd.alloc (aZ 108 M (v%18446744073709551616))).cell? (ZA R 3)=some (.slice m.ga m.gn m.gc):=(Q1.out.later BN.out).cells 3;go_simp;refine Zv hK ?_;clear hK K;refine ZR 8 fun K hK=>?_;refine wp_append_lies _ (.tmp 65) (.tmp 67) 24 rfl base 102 i0 (.agg #[ZU 0,.bool false,.int .u64 0]) 3 16 underlying24 hi hz0 hz1 hz2 rfl au (.slice m.ga m.gn m.gc) m.gn (m.globals.flatMap fQ) rfl (Q1.out.later BN.out).rg (ZA wd.heap.size 0) 1 1 (fQ ((108,M,v%18446744073709551616):Gl)) rfl rfl ?n1 ?n2 au aP ae (Q1.out.later BN.out).bw _ rfl ?_
 case n1 =>
  exact D8
 case n2=>intro u hu; simp[fQ]at hu; rcases hu with rfl | rfl | rfl <;> rfl
 intro g cap w6 Ft BE _ _;have PX:=hid ((Q1.out).pushG BN.out ((108,M,v%18446744073709551616):Gl) Ft BE);exact Nn
theorem XF{B base R A n c:Nat}(h:RQ base R mp m ln pt w)(hw:Wds w A n c ws)(hA:base<=A)(hE:cY B w)(Fo:B<=R)(hps:psz (pl m)<=2097152)(h1:1<=pt/\pt<=4)(h2:n=4)(h3:((wdx ws 2).toList=[118,97,114]/\M=true)\/((wdx ws 2).toList=[99,111,110,115,116]/\M=false)){v:Int}(h4:nmV (wdx ws 3)=some v)(h5:¬(wdx ws 1).toList=[119])(h6:¬(wdx ws 1).toList=[108]) :
  Zw 111 #[ZP R 0,ZL A n c] w (LnP base R mp ln w (dO pt (pl m) ws)):=by
 obtain⟨x,hx⟩:=ZB ws 1 bN;have ex:wdx ws 1=x:=cX;obtain⟨z,hz⟩:∃x,ws[2]? =some x:=⟨_,aD bN⟩;have ez:wdx ws 2=z:=qo;obtain⟨y,hy⟩:∃x,ws[3]? =some x:=⟨_,aD bN⟩;have ey:wdx ws 3=y:=fy
 have e:dO pt (pl m) ws=none:=by
  unfold dO; rw[if_pos ⟨h1,ig,h3.imp (fun y=>y.1.trans fP.symm) (fun y=>y.1.trans fk.symm)⟩]; rw[h4]
  have eg:gvV (wdx ws 1) v=none:=by unfold gvV; rw[if_neg h5,if_neg h6]
  simp only[Zac,eg,Option.map_none]
 rw[e];subst h2;have HO:=hid (cu h 1 4 h1.1 h1.2);have q1:=h.part 4 ae;have d1:=hw.setR (o:=10) (u:=ZI 4) hA h.low;have k1:=KR.set base R 10 w (ZI 4);have e1:=hE.later (k1.below Fo cP hE.bw);have HM:=hid (aO R (w.setCell (ZA R 10) (ZI 4)));generalize w.setCell (ZA R 10) (ZI 4)=w1 at *;obtain⟨Ln,me,GT,aE⟩:=ZF q1 d1 k1 e1;have sx:=hw.sz x (ZO hx);have Kx:=ZJ d1 hx;have sz:=hw.sz z (ZO hz);have HWz:=ZJ d1 hz;have sy:=hw.sz y (ZO hy);have IN:=ZJ d1 hy;rw[ez]at h3
 have kz1:(z.toList==[118,97,114])=M:=by rcases h3 with ⟨y,rfl⟩ | ⟨y,rfl⟩ <;> rw[y] <;> rfl
 have yy:M=false->(z.toList==[99,111,110,115,116])=true:=fun e=>by
  exact pM
 rw[ey]at h4;rw[ex]at h5 h6;have hx1:(x.toList==[119])=false:=sQ
 have hx2:(x.toList==[108])=false:=by simpa using h6
 exact Ov
theorem X9{B base R A n c:Nat}(h:RQ base R mp m ln pt w)(hw:Wds w A n c ws)(hA:base<=A)(hE:cY B w)(Fo:B<=R)(hps:psz (pl m)<=2097152)(h1:1<=pt/\pt<=4)(h2:n=4)(h3:((wdx ws 2).toList=[118,97,114]/\M=true)\/((wdx ws 2).toList=[99,111,110,115,116]/\M=false))(h4:nmV (wdx ws 3)=none) :
  Zw 111 #[ZP R 0,ZL A n c] w (LnP base R mp ln w (dO pt (pl m) ws)):=by
 obtain⟨x,hx⟩:=ZB ws 1 bN;have ex:wdx ws 1=x:=cX;obtain⟨z,hz⟩:∃x,ws[2]? =some x:=⟨_,aD bN⟩;have ez:wdx ws 2=z:=qo;obtain⟨y,hy⟩:∃x,ws[3]? =some x:=⟨_,aD bN⟩;have ey:wdx ws 3=y:=fy
 have e:dO pt (pl m) ws=none:=by
  unfold dO; rw[if_pos ⟨h1,ig,h3.imp (fun y=>y.1.trans fP.symm) (fun y=>y.1.trans fk.symm)⟩]; rw[h4]; rfl
 rw[e];subst h2;have HO:=hid (cu h 1 4 h1.1 h1.2);have q1:=h.part 4 ae;have d1:=hw.setR (o:=10) (u:=ZI 4) hA h.low;have k1:=KR.set base R 10 w (ZI 4);have e1:=hE.later (k1.below Fo cP hE.bw);have HM:=hid (aO R (w.setCell (ZA R 10) (ZI 4)));generalize w.setCell (ZA R 10) (ZI 4)=w1 at *;obtain⟨Ln,me,GT,aE⟩:=ZF q1 d1 k1 e1;have sx:=hw.sz x (ZO hx);have Kx:=ZJ d1 hx;have sz:=hw.sz z (ZO hz);have HWz:=ZJ d1 hz;have sy:=hw.sz y (ZO hy);have IN:=ZJ d1 hy;rw[ez]at h3
 have kz1:(z.toList==[118,97,114])=M:=by rcases h3 with ⟨y,rfl⟩ | ⟨y,rfl⟩ <;> rw[y] <;> rfl
 have yy:M=false->(z.toList==[99,111,110,115,116])=true:=fun e=>by
  exact pM
 rw[ey]at h4;have Xs:=hid (fun(W:World) (hW:Zx w1 W)=>Ej B R y ln W (e1.tens.later (hW.mono e1.bw)) (e1.errs.later (hW.mono e1.bw)) (ZW e1.bw hW.size) ae ((q1.later hW).cells 9) h4);clear h hw hE hps h1 q1 d1 k1 e1 e hx ex hz ez hy ey h3 h4;go_enter func111,ntmps111
 go_wp2_with fail;refine ZE HO.out ?_;go_wp2_with fail;refine ZE HM.out ?_;have KZ2:=hid yy;clear yy
 go_upto_region 2 with fail
 go_cut [] from 13 to 24 (fun wx=>wx=w1)
 case first =>
  exact D9
 case rest =>
 have hc:=hcut.symm;subst hc;have cz:=HWz.out w1 (ZT _ _);clear hcut KZ2;have cy:(w1.alloc (aZ 0 M 0)).cell? (ZA A 3)=some (.string y):=IN.out _ (aj w1 _);have G':=hid (aj w1 (aZ 0 M 0));have hX0:=hid (hZn w1 (aZ 0 M 0));go_wp2_with fail;refine(Xs.out _ G'.out).mono ?_;rintro e w5⟨rfl,AI⟩;exact⟨rfl,GT.out.trans (KR.later (G'.out.trans (AI.mono G'.out.size))),rfl⟩
theorem YY{B base R A n c:Nat}(h:RQ base R mp m ln pt w)(hw:Wds w A n c ws)(hA:base<=A)(hE:cY B w)(Fo:B<=R)(hps:psz (pl m)<=2097152)(h1:1<=pt/\pt<=4)(h2:n=4)(h3:¬((wdx ws 2).toList=uU.toList\/(wdx ws 2).toList=qD.toList)) :
  Zw 111 #[ZP R 0,ZL A n c] w (LnP base R mp ln w (dO pt (pl m) ws)):=by
 obtain⟨x,hx⟩:=ZB ws 1 bN;have ex:wdx ws 1=x:=cX;obtain⟨z,hz⟩:∃x,ws[2]? =some x:=⟨_,aD bN⟩;have ez:wdx ws 2=z:=qo;obtain⟨y,hy⟩:∃x,ws[3]? =some x:=⟨_,aD bN⟩;have ey:wdx ws 3=y:=fy
 have e:dO pt (pl m) ws=none:=by
  unfold dO; rw[if_neg (fun x=>h3 x.2.2)]
 rw[e];subst h2;have HO:=hid (cu h 1 4 h1.1 h1.2);have q1:=h.part 4 ae;have d1:=hw.setR (o:=10) (u:=ZI 4) hA h.low;have k1:=KR.set base R 10 w (ZI 4);have e1:=hE.later (k1.below Fo cP hE.bw);have HM:=hid (aO R (w.setCell (ZA R 10) (ZI 4)));generalize w.setCell (ZA R 10) (ZI 4)=w1 at *;obtain⟨Ln,me,GT,aE⟩:=ZF q1 d1 k1 e1;have sx:=hw.sz x (ZO hx);have Kx:=ZJ d1 hx;have sz:=hw.sz z (ZO hz);have HWz:=ZJ d1 hz;have sy:=hw.sz y (ZO hy);have IN:=ZJ d1 hy;rw[ez]at h3
 have kz1:(z.toList==[118,97,114])=false:=by have:¬z.toList=[118,97,114]:=fun e=>h3 (.inl (e.trans fP.symm)); simpa using this
 have yy:(z.toList==[99,111,110,115,116])=false:=by have:¬z.toList=[99,111,110,115,116]:=fun e=>h3 (.inr (e.trans fk.symm)); simpa using this
 have pa:=hid (iL q1);clear h hw hE hps h1 q1 d1 k1 e1 e hx ex hz ez hy ey h3;go_enter func111,ntmps111
 go_wp2_with fail;refine ZE HO.out ?_;go_wp2_with fail;refine ZE HM.out ?_;have cz:=HWz.out w1 (ZT _ _);go_wp2_with fail;refine ZE pa.out ?_;exact⟨rfl,GT.out,rfl⟩
theorem TR{B base R A n c:Nat}(h:RQ base R mp m ln pt w)(hw:Wds w A n c ws)(hA:base<=A)(hE:cY B w)(Fo:B<=R)(hps:psz (pl m)<=2097152) :
  Zw 111 #[ZP R 0,ZL A n c] w (LnP base R mp ln w (dO pt (pl m) ws)):=by
 by_cases h1:1<=pt/\pt<=4
 ·by_cases h2:n=4
  ·by_cases h3:(wdx ws 2).toList=uU.toList\/(wdx ws 2).toList=qD.toList
   ·obtain⟨M,h3'⟩:∃M,((wdx ws 2).toList=[118,97,114]/\M=true)\/((wdx ws 2).toList=[99,111,110,115,116]/\M=false):=h3.elim (fun y=>⟨true,.inl ⟨y.trans fP,rfl⟩⟩) (fun y=>⟨false,.inr ⟨y.trans fk,rfl⟩⟩)
    rcases h4:nmV (wdx ws 3) with _ | v
    ·exact X9 h hw hA hE Fo hps h1 h2 h3' h4
    by_cases h5:(wdx ws 1).toList=[119]
    ·by_cases h6:v=wrap32 v
     ·exact Yf h hw hA hE Fo hps h1 h2 h3' h4 h5 h6
     exact Vn h hw hA hE Fo hps h1 h2 h3' h4 h5 h6
    by_cases h6:(wdx ws 1).toList=[108]
    ·exact Yp h hw hA hE Fo hps h1 h2 h3' h4 h6
    exact XF h hw hA hE Fo hps h1 h2 h3' h4 h5 h6
   exact YY h hw hA hE Fo hps h1 h2 h3
  exact RP h hw h1 h2
 exact RJ h h1
theorem LX(init:List FuM)(t:Int)(lo:BAz)(a a':SLv)(c c':List InM):((init++[((t,lo,a,c):FuM)]).flatMap dA).set (init.length*3+2) (.slice a'.1 a'.2.1 a'.2.2)=(init++[((t,lo,a',c'):FuM)]).flatMap dA:=by
 rw[List.flatMap_append,List.flatMap_append,List.flatMap_singleton,List.flatMap_singleton,List.set_append_right _ _ (by rw[oD dA 3 (fun _=>rfl)]; omega),oD dA 3 (fun _=>rfl)]
 congr 1
 rw[show init.length*3+2-init.length*3=2 by omega];rfl
variable {base R g cap cn cc:Nat}{W w':World}{t:Int}{ca:OAz}
theorem RQ.pushI(h:RQ base R mp m ln pt w)(hW:Zx w W){init:List FuM}{lo:BAz}{code:List InM}(hf:m.fns=init++[((t,lo,(ca,cn,cc),code):FuM)]){fb:Nat}(vb:m.fa=some (ZA fb 0))(y:InM)
  (hy:w.ownsRow base 3 1 (.slice y.2.2.1.1 y.2.2.1.2.1 y.2.2.1.2.2) y.2.2.1.2.1 (y.2.2.2.flatMap fJ)) (hfr:∀k,ibk y=some k->∀z∈vh m,z≠some k) (ho:w'.ownsRow base 75 3 (ZL g (cn+1) cap) (cn+1) (code.flatMap eD++eD y)) (hg:W.grownBy w' (Value.slice ca cn cc).ownBlock) (hgb:(Value.slice ca cn cc).ownBlock=some g\/g=W.heap.size) :
  RQ base R mp { m with fns:=init++[((t,lo,(some (ZA g 0),cn+1,cap),code++[y]):FuM)] } ln pt (w'.setCell (ZA fb (init.length*3+2)) (ZL g (cn+1) cap))/\KR base R w (w'.setCell (ZA fb (init.length*3+2)) (ZL g (cn+1) cap)):=by
 have hq:=h.later hW;have hR:=h.low;have hlm:((t,lo,(ca,cn,cc),code):FuM)∈m.fns:=uE;have hu:=(hq.fo _ hlm).code;have qad:=aU hq.rf hu hg au;rw[vb]at qad;obtain⟨ee,cur,hcur⟩:=dN qad (b:=fb) rfl;have kS:=aB w' fb (init.length*3+2) (ZL g (cn+1) cap);have far:∀{e k n:Nat} {v:Value} {xs:Zah},w'.ownsRow base e k v n xs->e≠78->(w'.setCell (ZA fb (init.length*3+2)) (ZL g (cn+1) cap)).ownsRow base e k v n xs:=fun h0 he=>kQ h0 kS hcur he;have hlast:m.fns[init.length]? =some ((t,lo,(ca,cn,cc),code):FuM):=uE
 have qat:∀(i:Nat)x,init[i]? =some x->w'.ownsRow base 75 3 (.slice x.2.2.1.1 x.2.2.1.2.1 x.2.2.1.2.2) x.2.2.1.2.1 (x.2.2.2.flatMap eD):=fun i x hi=>by
  exact LB
 refine⟨⟨?_,hR,?_,?_,?_,?_,?_,?_,?_,?_,?_,?_,?_,?_⟩,((KR.later hW).trans (KR.grow hu hg)).trans ⟨kS.os,kS.tape,kS.output,kS.size,fun k hk hs=>kS.block k hk (fun e=>hs (.inr (by have e:k=fb:=e; omega)))⟩⟩
 ·exact Eu
 ·exact fI
 ·exact far (aU hq.rt hu hg au) au
 ·exact far (aU hq.rh hu hg au) au
 ·exact far (aU hq.rg hu hg au) au
 ·exact OE
 ·exact far (aU hq.rd hu hg au) au
 ·exact far (aU hq.re hu hg au) au
 ·exact LO
 ·exact Nl
 ·exact fun x hx=>far (aU (hq.dd x hx) hu hg au) au
 ·intro hp
  have:=h.nf hp;rw[hf]at this;simp at this
 refine⟨?_,h.di.d⟩
 have e:vh { m with fns:=init++[((t,lo,(some (ZA g 0),cn+1,cap),code++[y]):FuM)] }=vh m++[ibk y]:=by
  unfold vh;rw[hf];simp[List.flatMap_append]
 rw[e];refine List.pairwise_append.2 ⟨h.di.i,List.pairwise_singleton _ _,fun a ha b hb k h1 h2=>?_⟩;obtain rfl:=List.mem_singleton.1 hb;exact hfr k h2 a ha h1
end
open Go.RowKit Go.MapKept
section
theorem XY:prog.underlying 123=some (.map 9 172):=ak
theorem u9s:prog.underlying 9=some .string:=ak
theorem mr(W:World)(B:Nat)(es:Array MapEntry)(clock:Nat)(key:BAz)(v:Value)(hb:W.heap[B]? =some (.map es clock))(hf:Instr.findNow .string (.string key) es.toList 0=some none) :
  ∃W',(Instr.mapUpdate 123 (.map (some B)) (.string key) v).run prog W=.ok () W'/\W'.heap[B]? =some (.map (es.push { key:=.string key,val:=v,born:=clock }) (clock+1))/\Kept (fun k=>k=B) W W':=by
 have hlt:B<W.heap.size:=aK hb;refine⟨{ W with heap:=W.heap.setIfInBounds B (.map (es.push { key:=.string key,val:=v,born:=clock }) (clock+1)) },?_,by simp[hlt],⟨rfl,rfl,rfl,av,fun k hk hne=>by have:k≠B:=hne; simp[Ne.symm this]⟩⟩;have h1:=run_checkKey (P:=prog) (w:=W) (k:=.string key) u9s (by simp[IsKey]) false 9999;have h2:=run_findKey (P:=prog) (w:=W) u9s hf;have h3:=run_setObj_map (P:=prog) (.map (es.push { key:=.string key,val:=v,born:=clock }) (clock+1)) hb;unfold Instr.mapUpdate;simp only[Sem.run_bind,run_underlying XY,Result.andThen];simp[getObj,Sem.run,hb,h1,h2,h3,Result.andThen]
def kdE:Array MapEntry:=#[{ key:=.string ⟨#[102,108,97,103,111,110]⟩,val:=.func (.func 108) #[] #[],born:=0 },{ key:=.string ⟨#[116,121,112,101]⟩,val:=.func (.func 109) #[] #[],born:=1 },{ key:=.string ⟨#[101,120,116,101,114,110]⟩,val:=.func (.func 110) #[] #[],born:=2 },{ key:=.string ⟨#[103,108,111,98,97,108]⟩,val:=.func (.func 111) #[] #[],born:=3 },{ key:=.string ⟨#[109,101,109,111,114,121]⟩,val:=.func (.func 112) #[] #[],born:=4 },{ key:=.string ⟨#[102,117,110,99]⟩,val:=.func (.func 113) #[] #[],born:=5 },{ key:=.string ⟨#[100,97,116,97]⟩,val:=.func (.func 114) #[] #[],born:=6 },{ key:=.string ⟨#[101,120,112,111,114,116]⟩,val:=.func (.func 115) #[] #[],born:=7 }]
theorem Ui(w:World):Zw 54 #[] w fun e w'=>e=.returned (.map (some w.heap.size))/\w'.heap[w.heap.size]? =some (.map kdE 8)/\Zx w w':=by
 have hmk:=fun w'=>run_makeMap (P:=prog) 123 w';have hb0:=hZn w (.map #[] 0);have B0:=aj w (.map #[] 0);have hsz:w.heap.size<(w.alloc (.map #[] 0)).heap.size:=av;obtain⟨W1,r1,hb1,K1⟩:=mr (w.alloc (.map #[] 0)) w.heap.size _ 0 ⟨#[102,108,97,103,111,110]⟩ (.func (.func 108) #[] #[]) hb0 ak;obtain⟨W2,r2,hb2,K2⟩:=mr (W1) w.heap.size _ 1 ⟨#[116,121,112,101]⟩ (.func (.func 109) #[] #[]) hb1 ak;obtain⟨W3,r3,hb3,K3⟩:=mr (W2) w.heap.size _ 2 ⟨#[101,120,116,101,114,110]⟩ (.func (.func 110) #[] #[]) hb2 ak;obtain⟨W4,r4,hb4,K4⟩:=mr (W3) w.heap.size _ 3 ⟨#[103,108,111,98,97,108]⟩ (.func (.func 111) #[] #[]) hb3 ak;obtain⟨W5,r5,AI,K5⟩:=mr (W4) w.heap.size _ 4 ⟨#[109,101,109,111,114,121]⟩ (.func (.func 112) #[] #[]) hb4 ak;obtain⟨W6,r6,LE,K6⟩:=mr (W5) w.heap.size _ 5 ⟨#[102,117,110,99]⟩ (.func (.func 113) #[] #[]) AI ak;obtain⟨W7,r7,MY,K7⟩:=mr (W6) w.heap.size _ 6 ⟨#[100,97,116,97]⟩ (.func (.func 114) #[] #[]) LE ak;obtain⟨W8,r8,X',K8⟩:=mr (W7) w.heap.size _ 7 ⟨#[101,120,112,111,114,116]⟩ (.func (.func 115) #[] #[]) MY ak;have HB8:=hid X';have HK:=hid ((((((((K1.trans K2).trans K3).trans K4).trans K5).trans K6).trans K7).trans K8));have BW:=hid (B0.trans (HK.out.to_below (Nat.le_of_lt hsz) (fun k _ hk=>by have e:k=w.heap.size:=hk; omega)));clear hb0 hb1 hb2 hb3 hb4 AI LE MY X' K1 K2 K3 K4 K5 K6 K7 K8 HK B0 hsz;go_enter func54,ntmps54
 go_wp2_with fail;go_ret;exact⟨rfl,HB8.out,BW.out⟩
theorem Cq(W:World)(KB:Nat)(x:BAz)(r:Option (Nat×Value))(hb:W.heap[KB]? =some (.map kdE 8))(hf:Instr.findNow .string (.string x) kdE.toList 0=some r) :
  (Instr.lookup 123 (.map (some KB)) (.string x) true).run prog W=.ok (match r with | some q=>.tuple #[q.2,.bool true] | none=>.tuple #[.nilFunc,.bool false]) W:=by
 have h1:=run_checkKey (P:=prog) (w:=W) (k:=.string x) u9s (by simp[IsKey]) kdE.isEmpty 9999;have h2:=run_findKey (P:=prog) (w:=W) u9s hf;have hz:(zeroValue 172).run prog W=.ok .nilFunc W:=kZ;unfold Instr.lookup;simp only[Sem.run_bind,run_underlying XY,Result.andThen];simp only[getObj,Sem.run,hb]
 cases r with
 | none=>simp[h1,h2,hz,Result.andThen]
 | some q=>simp[h1,h2,Result.andThen]
theorem MH(W:World)(KB i f:Nat)(x:BAz)(hb:W.heap[KB]? =some (.map kdE 8))(hf:Instr.findNow .string (.string x) kdE.toList 0=some (some (i,.func (.func f) #[] #[]))) :
  (Instr.lookup 123 (.map (some KB)) (.string x) true).run prog W=.ok (.tuple #[.func (.func f) #[] #[],.bool true]) W:=Cq W KB x _ hb hf
theorem KP(W:World)(KB:Nat)(x:BAz)(hb:W.heap[KB]? =some (.map kdE 8))(hf:Instr.findNow .string (.string x) kdE.toList 0=some none) :
  (Instr.lookup 123 (.map (some KB)) (.string x) true).run prog W=.ok (.tuple #[.nilFunc,.bool false]) W:=Cq W KB x _ hb hf
theorem Df:Instr.findNow .string (.string ⟨#[102,108,97,103,111,110]⟩) kdE.toList 0=some (some (0,.func (.func 108) #[] #[])):=ak
theorem NR:Instr.findNow .string (.string ⟨#[116,121,112,101]⟩) kdE.toList 0=some (some (1,.func (.func 109) #[] #[])):=ak
theorem CP:Instr.findNow .string (.string ⟨#[101,120,116,101,114,110]⟩) kdE.toList 0=some (some (2,.func (.func 110) #[] #[])):=ak
theorem Dw:Instr.findNow .string (.string ⟨#[103,108,111,98,97,108]⟩) kdE.toList 0=some (some (3,.func (.func 111) #[] #[])):=ak
theorem Dm:Instr.findNow .string (.string ⟨#[109,101,109,111,114,121]⟩) kdE.toList 0=some (some (4,.func (.func 112) #[] #[])):=ak
theorem Li:Instr.findNow .string (.string ⟨#[102,117,110,99]⟩) kdE.toList 0=some (some (5,.func (.func 113) #[] #[])):=ak
theorem OZ:Instr.findNow .string (.string ⟨#[100,97,116,97]⟩) kdE.toList 0=some (some (6,.func (.func 114) #[] #[])):=ak
theorem Cv:Instr.findNow .string (.string ⟨#[101,120,112,111,114,116]⟩) kdE.toList 0=some (some (7,.func (.func 115) #[] #[])):=ak
variable {x y:BAz}
theorem rO(h:x≠y):(x==y)=false:=by
 cases hb:x==y
 ·rfl
 exfalso
 apply h
 cases x with | mk a=>cases y with | mk b =>
 have hb':(a==b)=true:=hb;rw[eq_of_beq hb']
theorem Mj(x:BAz)(h0:x≠⟨#[102,108,97,103,111,110]⟩)(h1:x≠⟨#[116,121,112,101]⟩)(h2:x≠⟨#[101,120,116,101,114,110]⟩)(h3:x≠⟨#[103,108,111,98,97,108]⟩)(h4:x≠⟨#[109,101,109,111,114,121]⟩)(h5:x≠⟨#[102,117,110,99]⟩)(h6:x≠⟨#[100,97,116,97]⟩)(h7:x≠⟨#[101,120,112,111,114,116]⟩):Instr.findNow .string (.string x) kdE.toList 0=some none:=by
 have e0:(x==(⟨#[102,108,97,103,111,110]⟩:BAz))=false:=rO h0;have e1:(x==(⟨#[116,121,112,101]⟩:BAz))=false:=rO h1;have e2:(x==(⟨#[101,120,116,101,114,110]⟩:BAz))=false:=rO h2;have e3:(x==(⟨#[103,108,111,98,97,108]⟩:BAz))=false:=rO h3;have e4:(x==(⟨#[109,101,109,111,114,121]⟩:BAz))=false:=rO h4;have e5:(x==(⟨#[102,117,110,99]⟩:BAz))=false:=rO h5;have e6:(x==(⟨#[100,97,116,97]⟩:BAz))=false:=rO h6;have e7:(x==(⟨#[101,120,112,111,114,116]⟩:BAz))=false:=rO h7;simp[kdE,Instr.findNow,Instr.sameNow,e0,e1,e2,e3,e4,e5,e6,e7]
end
end Go.Proofs.YtheefojaplnnoaaGreatDoor
