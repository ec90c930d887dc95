/-
  Texts Pr Pt Pu Pv Nc Nd Na.
-/
import Derived.Test.YtheefojaplnnoaaGreatDoorY08
set_option linter.unusedVariables false
set_option maxRecDepth 100000
set_option maxHeartbeats 16000000
namespace Go.Proofs.YtheefojaplnnoaaGreatDoor
open Go.Proofs.Tryz
open Go.RowKit
theorem nW:(prog.info? 75).map (fun i=>(i.zero,i.size,i.bytes))=some (some (.agg #[ZU 0,ZI 0,ZN]),3,40):=ak
theorem rQ:∀(l:Zai)(f:Int)(r:BAz),(lG f r l).2=true->f<=(lG f r l).1/\(lG f r l).1<f+l.length
 | [],f,r,h=>by simp[lG]at h
 | p::l,f,r,h=>by
  unfold lG at h ⊢
  by_cases hp:p=r
  ·rw[if_pos hp]; simp; omega
  rw[if_neg hp]at h ⊢;have:=rQ l (f+1) r h;simp only[Z1];omega
theorem nr:∀(n i:Nat)(s:BAz),i+n<=7->(fU n i s).2=true->0<=(fU n i s).1/\(fU n i s).1<=255
 | 0,i,s,_,h=>by simp[fU]at h
 | n+1,i,s,hi,h=>by
  unfold fU at h ⊢
  by_cases hk:(fX (kF i) (kA i) (kW i) s).2=true
  ·rw[if_pos hk];obtain⟨f0,_,_,f3,_⟩:=oH i ae;unfold fX at hk ⊢
   split at hk
   ·rename_i hp
    rw[if_pos hp];have:=rQ _ _ _ hk
    dsimp only;omega
   cases hk
  rw[if_neg hk]at h ⊢;exact nr n (i+1) s ae h
theorem dM(s:BAz)(h:(bi s).2=true):0<=(bi s).1/\(bi s).1<=255:=nr 7 0 s ae h
theorem J6(init:List FuM)(t:Int)(lo:BAz)(a a':SLv)(c:List InM)(y:InM):(init++[((t,lo,a',c++[y]):FuM)]).map plF=qA ((init++[((t,lo,a,c):FuM)]).map plF) (plI y):=by
 unfold qA;simp[plF,List.map_append]
variable {base R:Nat}{mp:Value}{m:MM}{ln pt:Int}{w:World}
theorem sF(h:RQ base R mp m ln pt w)(hne:m.fns≠[]):∃init t lo ca cn cc code fb,m.fns=init++[((t,lo,(ca,cn,cc),code):FuM)]/\m.fa=some (ZA fb 0)/\m.fn=init.length+1:=by
 exact Lt
variable {ws:Zai}
theorem Vg{B base R A n c:Nat}(h:RQ base R mp m ln pt w)(hw:Wds w A n c ws)(hA:base<=A)(hE:cY B w)(Fo:B<=R)(hps:psz (pl m)<=2097152)(hc:c=n)(hn0:1<=n)(hne:m.fns≠[])(h1:6<=pt/\pt<=6)(h3:(bi (wdx ws 0)).2=false) :
  Zw 119 #[ZP R 0,ZL A n c] w (LnP base R mp ln w (cj pt (pl m) ws)):=by
 have hc':=hc.symm;subst hc';obtain⟨i0,hi,hz0,hz1,hz2⟩:=Z0 nW;obtain⟨x,hx⟩:=ZB ws 0 bN;have ex:wdx ws 0=x:=cX
 have e:cj pt (pl m) ws=none:=by unfold cj; rw[if_neg (fun x=>by rw[h3]at x; cases x.2)]
 rw[e];have HO:=hid (cu h 6 6 h1.1 h1.2);have q1:=h.part 6 ae;have d1:=hw.setR (o:=10) (u:=ZI 6) hA h.low;have k1:=KR.set base R 10 w (ZI 6);have e1:=hE.later (k1.below Fo cP hE.bw);generalize w.setCell (ZA R 10) (ZI 6)=w1 at *;obtain⟨Ln,me,GT,aE⟩:=ZF q1 d1 k1 e1;have sx:=hw.sz x (ZO hx);have cx:w1.cell? (ZA A 0)=some (.string x):=lX;have HF:=hid (lK x w1 e1.kinds);rw[ex]at h3;rw[h3]at HF;generalize (bi x).1=op at *;clear h hw hE h1 q1 d1 k1 e1 e hx;go_enter func119,ntmps119
 go_wp2_with fail;refine ZE HO.out ?_;go_wp2_with fail;refine HF.out.mono ?_;rintro e w2⟨rfl,hb2⟩;have B2:=hid hb2;clear hb2 cx;have pa:=hid (iL (Ln.out.later B2.out));go_wp2_with fail;refine ZE pa.out ?_;exact⟨rfl,GT.out.trans (KR.later B2.out),rfl⟩
theorem WG{B base R A n c:Nat}(h:RQ base R mp m ln pt w)(hw:Wds w A n c ws)(hA:base<=A)(hE:cY B w)(Fo:B<=R)(hps:psz (pl m)<=2097152)(hc:c=n)(hn0:1<=n)(hne:m.fns≠[])(h1:6<=pt/\pt<=6)(h3:(bi (wdx ws 0)).2=true)(h4:(ofV (bi (wdx ws 0)).1).1.2.2.1=0)(h5:n=1) :
  Zw 119 #[ZP R 0,ZL A n c] w (LnP base R mp ln w (cj pt (pl m) ws)):=by
 have hc':=hc.symm;subst hc';obtain⟨i0,hi,hz0,hz1,hz2⟩:=Z0 nW;obtain⟨x,hx⟩:=ZB ws 0 bN;have ex:wdx ws 0=x:=cX
 have e:cj pt (pl m) ws=some (6,{ pl m with fns:=qA (pl m).fns ((bi (wdx ws 0)).1,0,[]) }):=by
  unfold cj;rw[if_pos ⟨h1,h3⟩]
  have ep:iP (bi (wdx ws 0)).1 ws=some ((bi (wdx ws 0)).1,0,[]):=by
   unfold iP;rw[if_pos h4,if_pos (by rw[hw.len]; exact h5)]
  rw[ep];rfl
 rw[e];have HO:=hid (cu h 6 6 h1.1 h1.2);have q1:=h.part 6 ae;have d1:=hw.setR (o:=10) (u:=ZI 6) hA h.low;have k1:=KR.set base R 10 w (ZI 6);have e1:=hE.later (k1.below Fo cP hE.bw);generalize w.setCell (ZA R 10) (ZI 6)=w1 at *;obtain⟨Ln,me,GT,aE⟩:=ZF q1 d1 k1 e1;have sx:=hw.sz x (ZO hx);have cx:w1.cell? (ZA A 0)=some (.string x):=lX;have HF:=hid (lK x w1 e1.kinds);rw[ex]at h3 h4;have To:=dM x h3;have ho0:=To.1;have ZS:=To.2;rw[h3]at HF;generalize hop:(bi x).1=op at *;obtain⟨rc,wd,tk,pp,ps,IT,hrow⟩:∃rc wd tk pp ps IT,(ofV op).1=(rc,wd,tk,pp,ps,IT):=⟨_,_,_,_,_,_,rfl⟩;rw[hrow]at h4;dsimp only at h4;subst h4;subst h5;obtain⟨init,ft,wi,ca,cn,cc,code,fb,gC,vb,hfn⟩:=sF q1 hne
 have hcn:cn<=2097152:=by
  exact yJ
 have hin:init.length<=2097152:=by
  exact qa
 obtain⟨pv,dy,j8⟩:=ZH gC vb hfn;clear h hw hE h1 q1 d1 k1 e1 e hx;go_enter func119,ntmps119
 go_wp2_with fail;refine ZE HO.out ?_;go_wp2_with fail;refine HF.out.mono ?_;rintro e w2⟨rfl,hb2⟩;have B2:=hid hb2;clear hb2 cx;have pa:=hid (aO R w2);have ci:=hid (of6 op w2 ((aE.out.later (B2.out.mono aE.out.bw)).kinds) ho0 ZS);rw[hrow]at ci;unfold rv dP at ci;go_wp2_with fail;refine ZE pa.out ?_;go_wp2_with fail;refine ci.out.mono ?_;rintro e w3⟨rfl,hb3⟩;have B3:=Zy B2 hb3;clear hb3 ci;have B4:=Zy B3 (aj w3 (bV rc wd 0 pp ps IT));have B5:=Zy B4 (aj (w3.alloc (bV rc wd 0 pp ps IT)) (aH op 0 none 0 0));have j7:=hid (hZn (w3.alloc (bV rc wd 0 pp ps IT)) (aH op 0 none 0 0));have Y':(w3.alloc (bV rc wd 0 pp ps IT)).heap.size=w3.heap.size+1:=av;rw[Y']at j7;have HM5:=hid (aO R ((w3.alloc (bV rc wd 0 pp ps IT)).alloc (aH op 0 none 0 0)));go_wp2_with fail;refine ZE HM5.out ?_;clear HM5;go_wp2_with fail;generalize (w3.alloc (bV rc wd 0 pp ps IT)).alloc (aH op 0 none 0 0)=w9 at *;generalize w3.heap.size+1=X at *;have BX:=B5;have AT:=j7;have YR:=hid (Z7 w9 base 3 1);have Q9:=hid (Ln.out.later BX.out);obtain⟨k,hik⟩:∃k,init.length=k:=⟨_,rfl⟩;have HIK:=hid hik;have hk7:k<=2097152:=ae
 have c6:w9.drew.cell? (ZA R 6)=some (ZL fb (k+1) m.fc):=by have:=Q9.out.cells 6; rw[show(lU mp m ln 6)[6]? =some (.slice m.fa m.fn m.fc) from rfl,dy.out,j8.out,hik]at this; exact this
 have hlm:((ft,wi,(ca,cn,cc),code):FuM)∈m.fns:=tG;have tt:=hid (fun(W:World) (hW:Zx w9 W)=>((Q9.out.later hW).fo _ hlm).code);have lE:=hid (fun(W:World) (hW:Zx w9 W)=>(by have:=(Q9.out.later hW).rf; rw[dy.out,j8.out,hik]at this; exact this:W.ownsRow base 78 3 (ZL fb (k+1) m.fc) (k+1) (m.fns.flatMap dA)));have hgl:m.fns[k]? =some ((ft,wi,(ca,cn,cc),code):FuM):=kI;have hll:m.fns.length=k+1:=kI;have vl:=hid (fun(W:World) (hW:Zx w9 W)=>kX (k:=3) dA (fun _=>rfl) (lE.out W hW) hll hgl 2 ae);have HZC:=hid (fun(W:World)(hW:Zx w9 W)(W':World) (hg:W.grownBy W' (Value.slice ca cn cc).ownBlock)=>(by have h1:=aU (lE.out W hW) (tt.out W hW) hg au; exact⟨kX (k:=3) dA (fun _=>rfl) h1 hll hgl 2 ae,h1.frozenAt _⟩:W'.cell? (ZA fb (k*3+2))=some (.slice ca cn cc)/\W'.frozen? (ZA fb (k*3+2))=false));have BW:=hid ((ZT w9.heap.size w9).drew);have hkl:(k:Int)<(k:Int)+1:=ae;have hwk:IntKind.i64.wrap (k:Int)=(k:Int):=IntWalk.i64_in _ ae;clear hlm hgl hll hik;refine ZX (S:=fun W=>W.cell? (ZA R 6)=some (ZL fb (k+1) m.fc)) ak c6 (fun hSw=>?_)
 generalize w9.drew=wd at *;refine Zt 0 ?_ (hS:=aJ);refine Zt 1 ?_ (hS:=aJ);refine Zt 2 ?_ (hS:=aJ);refine Zt 3 ?_ (hS:=aJ);refine Zt 4 ?_ (hS:=aJ);refine Zt 5 ?_ (hS:=aJ);refine Zt 6 ?_ (hS:=aJ);refine Zt 7 ?_ (hS:=aJ);refine Zt 8 ?_ (hS:=aJ);refine Zt 9 ?_ (hS:=aJ);refine Zt 10 ?_ (hS:=aJ);refine Zt 11 ?_ (hS:=aJ);refine Zt 12 ?_ (hS:=aJ);refine Zt 13 ?_ (hS:=aJ);refine Z4 ak ?_ _;go_wp2_with fail;have BV:=Zy BW ((ZT wd.heap.size wd).drew)
 refine ZX (S:=fun _=>True) ak trivial (fun _=>?_)
 generalize wd.drew=wv at *;refine Zt 0 ?_;refine Zt 1 ?_;refine Zt 2 ?_;refine Zt 3 ?_;refine Zu 4 5 (fun K hK=>?_) fun K hK=>?_
 ·have c4:wv.cell? (ZA fb (k*3+2))=some (.slice ca cn cc):=vl.out _ BV.out;go_simp
  refine Zv hK ?_;clear hK K;refine ZR 5 fun K hK=>?_;have y0:=iz0 (ar BV.out AT.out);have y1:=iz1 (ar BV.out AT.out);have y2:=iz2 (ar BV.out AT.out);exact PN
 have y0:=iz0 (ar BV.out AT.out);have y1:=iz1 (ar BV.out AT.out);have y2:=iz2 (ar BV.out AT.out);go_simp;refine Zv hK ?_;clear hK K;refine Zu 4 6 (fun K hK=>?_) fun K hK=>?_
 ·have c4:wv.cell? (ZA fb (k*3+2))=some (.slice ca cn cc):=vl.out _ BV.out;exact PN
 go_simp;have BN:=Zy BV (aj wv (aH op 0 none 0 0));refine Zv hK ?_;clear hK K;refine ZR 4 fun K hK=>?_;have c4:(wv.alloc (aH op 0 none 0 0)).cell? (ZA fb (k*3+2))=some (.slice ca cn cc):=vl.out _ BN.out;go_simp;refine Zv hK ?_;clear hK K;refine ZR 7 fun K hK=>?_;refine wp_append_lies _ (.tmp 73) (.tmp 75) 76 rfl base 75 i0 (.agg #[ZU 0,ZI 0,ZN]) 3 40 underlying76 hi hz0 hz1 hz2 rfl au (.slice ca cn cc) cn (code.flatMap eD) rfl (tt.out _ BN.out) (ZA wv.heap.size 0) 1 1 (eD ((op,0,(none,0,0),[]):InM)) rfl rfl ?n1 ?n2 au aP ae (Q9.out.later BN.out).bw _ rfl ?_
 case n1 =>
  exact xW
 case n2=>intro u hu; simp[eD]at hu; rcases hu with rfl | rfl | rfl <;> rfl
 intro g cap w6 Ft BE US _;have PX:=hid (Q9.out.pushI BN.out pv.out dy.out ((op,0,(none,0,0),[]):InM) YR.out (fun k hk=>absurd hk xH) Ft BE US);exact xd
theorem VR{B base R A n c:Nat}(h:RQ base R mp m ln pt w)(hw:Wds w A n c ws)(hA:base<=A)(hE:cY B w)(Fo:B<=R)(hps:psz (pl m)<=2097152)(hc:c=n)(hn0:1<=n)(hne:m.fns≠[])(h1:6<=pt/\pt<=6)(h3:(bi (wdx ws 0)).2=true)(h4:(ofV (bi (wdx ws 0)).1).1.2.2.1=0)(h5:n≠1) :
  Zw 119 #[ZP R 0,ZL A n c] w (LnP base R mp ln w (cj pt (pl m) ws)):=by
 have hc':=hc.symm;subst hc';obtain⟨i0,hi,hz0,hz1,hz2⟩:=Z0 nW;obtain⟨x,hx⟩:=ZB ws 0 bN;have ex:wdx ws 0=x:=cX
 have e:cj pt (pl m) ws=none:=by
  unfold cj;rw[if_pos ⟨h1,h3⟩]
  have ep:iP (bi (wdx ws 0)).1 ws=none:=by
   unfold iP;rw[if_pos h4,if_neg (by rw[hw.len]; exact h5)]
  rw[ep];rfl
 rw[e];have HO:=hid (cu h 6 6 h1.1 h1.2);have q1:=h.part 6 ae;have d1:=hw.setR (o:=10) (u:=ZI 6) hA h.low;have k1:=KR.set base R 10 w (ZI 6);have e1:=hE.later (k1.below Fo cP hE.bw);generalize w.setCell (ZA R 10) (ZI 6)=w1 at *;obtain⟨Ln,me,GT,aE⟩:=ZF q1 d1 k1 e1;have sx:=hw.sz x (ZO hx);have cx:w1.cell? (ZA A 0)=some (.string x):=lX;have HF:=hid (lK x w1 e1.kinds);rw[ex]at h3 h4;have To:=dM x h3;have ho0:=To.1;have ZS:=To.2;rw[h3]at HF;generalize hop:(bi x).1=op at *;obtain⟨rc,wd,tk,pp,ps,IT,hrow⟩:∃rc wd tk pp ps IT,(ofV op).1=(rc,wd,tk,pp,ps,IT):=⟨_,_,_,_,_,_,rfl⟩;rw[hrow]at h4;dsimp only at h4;subst h4;have mm:((n:Int)==1)=false:=aA;clear h hw hE h1 q1 d1 k1 e1 e hx;go_enter func119,ntmps119
 go_wp2_with fail;refine ZE HO.out ?_;go_wp2_with fail;refine HF.out.mono ?_;rintro e w2⟨rfl,hb2⟩;have B2:=hid hb2;clear hb2 cx;have pa:=hid (aO R w2);have ci:=hid (of6 op w2 ((aE.out.later (B2.out.mono aE.out.bw)).kinds) ho0 ZS);rw[hrow]at ci;unfold rv dP at ci;go_wp2_with fail;refine ZE pa.out ?_;go_wp2_with fail;refine ci.out.mono ?_;rintro e w3⟨rfl,hb3⟩;have B3:=Zy B2 hb3;clear hb3 ci;have B4:=Zy B3 (aj w3 (bV rc wd 0 pp ps IT));have B5:=Zy B4 (aj (w3.alloc (bV rc wd 0 pp ps IT)) (aH op 0 none 0 0));have j7:=hid (hZn (w3.alloc (bV rc wd 0 pp ps IT)) (aH op 0 none 0 0));have Y':(w3.alloc (bV rc wd 0 pp ps IT)).heap.size=w3.heap.size+1:=av;exact Gz
theorem QI{B base R A n c:Nat}(h:RQ base R mp m ln pt w)(hw:Wds w A n c ws)(hA:base<=A)(hE:cY B w)(Fo:B<=R)(hps:psz (pl m)<=2097152)(hc:c=n)(hn0:1<=n)(hne:m.fns≠[])(h1:6<=pt/\pt<=6)(h3:(bi (wdx ws 0)).2=true)(h4:¬(ofV (bi (wdx ws 0)).1).1.2.2.1=0)(h5:¬(ofV (bi (wdx ws 0)).1).1.2.2.1=3)(h6:n≠2) :
  Zw 119 #[ZP R 0,ZL A n c] w (LnP base R mp ln w (cj pt (pl m) ws)):=by
 have hc':=hc.symm;subst hc';obtain⟨i0,hi,hz0,hz1,hz2⟩:=Z0 nW;obtain⟨x,hx⟩:=ZB ws 0 bN;have ex:wdx ws 0=x:=cX
 have e:cj pt (pl m) ws=none:=by
  unfold cj;rw[if_pos ⟨h1,h3⟩]
  have ep:iP (bi (wdx ws 0)).1 ws=none:=by
   unfold iP;rw[if_neg h4,if_neg h5,if_neg (by rw[hw.len]; exact h6)]
  rw[ep];rfl
 rw[e];have HO:=hid (cu h 6 6 h1.1 h1.2);have q1:=h.part 6 ae;have d1:=hw.setR (o:=10) (u:=ZI 6) hA h.low;have k1:=KR.set base R 10 w (ZI 6);have e1:=hE.later (k1.below Fo cP hE.bw);generalize w.setCell (ZA R 10) (ZI 6)=w1 at *;obtain⟨Ln,me,GT,aE⟩:=ZF q1 d1 k1 e1;have sx:=hw.sz x (ZO hx);have cx:w1.cell? (ZA A 0)=some (.string x):=lX;have HF:=hid (lK x w1 e1.kinds);rw[ex]at h3 h4 h5;have To:=dM x h3;have ho0:=To.1;have ZS:=To.2;rw[h3]at HF;generalize hop:(bi x).1=op at *;obtain⟨rc,wd,tk,pp,ps,IT,hrow⟩:∃rc wd tk pp ps IT,(ofV op).1=(rc,wd,tk,pp,ps,IT):=⟨_,_,_,_,_,_,rfl⟩;rw[hrow]at h4 h5;dsimp only at h4 h5;have ht0:(tk==0)=false:=sH;have eq:(tk==3)=false:=sQ;have mm:((n:Int)==2)=false:=aA;clear h4 h5;clear h hw hE h1 q1 d1 k1 e1 e hx;go_enter func119,ntmps119
 go_wp2_with fail;refine ZE HO.out ?_;go_wp2_with fail;refine HF.out.mono ?_;rintro e w2⟨rfl,hb2⟩;have B2:=hid hb2;clear hb2 cx;have pa:=hid (aO R w2);have ci:=hid (of6 op w2 ((aE.out.later (B2.out.mono aE.out.bw)).kinds) ho0 ZS);rw[hrow]at ci;unfold rv dP at ci;go_wp2_with fail;refine ZE pa.out ?_;go_wp2_with fail;refine ci.out.mono ?_;rintro e w3⟨rfl,hb3⟩;have B3:=Zy B2 hb3;clear hb3 ci;have B4:=Zy B3 (aj w3 (bV rc wd tk pp ps IT));have B5:=Zy B4 (aj (w3.alloc (bV rc wd tk pp ps IT)) (aH op 0 none 0 0));have j7:=hid (hZn (w3.alloc (bV rc wd tk pp ps IT)) (aH op 0 none 0 0));have Y':(w3.alloc (bV rc wd tk pp ps IT)).heap.size=w3.heap.size+1:=av;exact Gz
theorem TZ{B base R A n c:Nat}(h:RQ base R mp m ln pt w)(hw:Wds w A n c ws)(hA:base<=A)(hE:cY B w)(Fo:B<=R)(hps:psz (pl m)<=2097152)(hc:c=n)(hn0:1<=n)(hne:m.fns≠[])(h1:6<=pt/\pt<=6)(h3:(bi (wdx ws 0)).2=true)(h4:¬(ofV (bi (wdx ws 0)).1).1.2.2.1=0)(h5:¬(ofV (bi (wdx ws 0)).1).1.2.2.1=3)(h6:n=2)(h7:nmV (wdx ws 1)=none) :
  Zw 119 #[ZP R 0,ZL A n c] w (LnP base R mp ln w (cj pt (pl m) ws)):=by
 have hc':=hc.symm;subst hc';obtain⟨i0,hi,hz0,hz1,hz2⟩:=Z0 nW;obtain⟨x,hx⟩:=ZB ws 0 bN;have ex:wdx ws 0=x:=cX;obtain⟨y,hy⟩:=ZB ws 1 bN;have ey:wdx ws 1=y:=fy
 have e:cj pt (pl m) ws=none:=by
  unfold cj;rw[if_pos ⟨h1,h3⟩]
  have ep:iP (bi (wdx ws 0)).1 ws=none:=by
   exact IU
  rw[ep];rfl
 rw[e];have HO:=hid (cu h 6 6 h1.1 h1.2);have q1:=h.part 6 ae;have d1:=hw.setR (o:=10) (u:=ZI 6) hA h.low;have k1:=KR.set base R 10 w (ZI 6);have e1:=hE.later (k1.below Fo cP hE.bw);generalize w.setCell (ZA R 10) (ZI 6)=w1 at *;obtain⟨Ln,me,GT,aE⟩:=ZF q1 d1 k1 e1;have sx:=hw.sz x (ZO hx);have cx:w1.cell? (ZA A 0)=some (.string x):=lX;have HF:=hid (lK x w1 e1.kinds);rw[ex]at h3 h4 h5;have To:=dM x h3;have ho0:=To.1;have ZS:=To.2;rw[h3]at HF;generalize hop:(bi x).1=op at *;obtain⟨rc,wd,tk,pp,ps,IT,hrow⟩:∃rc wd tk pp ps IT,(ofV op).1=(rc,wd,tk,pp,ps,IT):=⟨_,_,_,_,_,_,rfl⟩;rw[hrow]at h4 h5;dsimp only at h4 h5;have ht0:(tk==0)=false:=sH;have eq:(tk==3)=false:=sQ;have sy:=hw.sz y (ZO hy);have IN:=ZJ d1 hy;rw[ey]at h7;subst h6;have Xs:=hid (fun(W:World) (hW:Zx w1 W)=>Ej B R y ln W (e1.tens.later (hW.mono e1.bw)) (e1.errs.later (hW.mono e1.bw)) (ZW e1.bw hW.size) ae ((q1.later hW).cells 9) h7);clear h4 h5 h7 hy;clear h hw hE h1 q1 d1 k1 e1 e hx;go_enter func119,ntmps119
 go_wp2_with fail;refine ZE HO.out ?_;go_wp2_with fail;refine HF.out.mono ?_;rintro e w2⟨rfl,hb2⟩;have B2:=hid hb2;clear hb2 cx;have pa:=hid (aO R w2);have ci:=hid (of6 op w2 ((aE.out.later (B2.out.mono aE.out.bw)).kinds) ho0 ZS);rw[hrow]at ci;unfold rv dP at ci;go_wp2_with fail;refine ZE pa.out ?_;go_wp2_with fail;refine ci.out.mono ?_;rintro e w3⟨rfl,hb3⟩;have B3:=Zy B2 hb3;clear hb3 ci;have B4:=Zy B3 (aj w3 (bV rc wd tk pp ps IT));have B5:=Zy B4 (aj (w3.alloc (bV rc wd tk pp ps IT)) (aH op 0 none 0 0));have j7:=hid (hZn (w3.alloc (bV rc wd tk pp ps IT)) (aH op 0 none 0 0));have Y':(w3.alloc (bV rc wd tk pp ps IT)).heap.size=w3.heap.size+1:=av;rw[Y']at j7;have HM5:=hid (aO R ((w3.alloc (bV rc wd tk pp ps IT)).alloc (aH op 0 none 0 0)));have cy5:((w3.alloc (bV rc wd tk pp ps IT)).alloc (aH op 0 none 0 0)).cell? (ZA A 1)=some (.string y):=IN.out _ B5.out;go_wp2_with fail;refine ZE HM5.out ?_;clear HM5;exact GW
variable {a:Int}
theorem U8{B base R A n c:Nat}(h:RQ base R mp m ln pt w)(hw:Wds w A n c ws)(hA:base<=A)(hE:cY B w)(Fo:B<=R)(hps:psz (pl m)<=2097152)(hc:c=n)(hn0:1<=n)(hne:m.fns≠[])(h1:6<=pt/\pt<=6)(h3:(bi (wdx ws 0)).2=true)(h4:¬(ofV (bi (wdx ws 0)).1).1.2.2.1=0)(h5:¬(ofV (bi (wdx ws 0)).1).1.2.2.1=3)(h6:n=2)(h7:nmV (wdx ws 1)=some a) :
  Zw 119 #[ZP R 0,ZL A n c] w (LnP base R mp ln w (cj pt (pl m) ws)):=by
 have hc':=hc.symm;subst hc';obtain⟨i0,hi,hz0,hz1,hz2⟩:=Z0 nW;obtain⟨x,hx⟩:=ZB ws 0 bN;have ex:wdx ws 0=x:=cX;obtain⟨y,hy⟩:=ZB ws 1 bN;have ey:wdx ws 1=y:=fy
 have e:cj pt (pl m) ws=some (6,{ pl m with fns:=qA (pl m).fns ((bi (wdx ws 0)).1,a,[]) }):=by
  unfold cj;rw[if_pos ⟨h1,h3⟩]
  have ep:iP (bi (wdx ws 0)).1 ws=some ((bi (wdx ws 0)).1,a,[]):=by
   exact IU
  rw[ep];rfl
 rw[e];have HO:=hid (cu h 6 6 h1.1 h1.2);have q1:=h.part 6 ae;have d1:=hw.setR (o:=10) (u:=ZI 6) hA h.low;have k1:=KR.set base R 10 w (ZI 6);have e1:=hE.later (k1.below Fo cP hE.bw);generalize w.setCell (ZA R 10) (ZI 6)=w1 at *;obtain⟨Ln,me,GT,aE⟩:=ZF q1 d1 k1 e1;have sx:=hw.sz x (ZO hx);have cx:w1.cell? (ZA A 0)=some (.string x):=lX;have HF:=hid (lK x w1 e1.kinds);rw[ex]at h3 h4 h5;have To:=dM x h3;have ho0:=To.1;have ZS:=To.2;rw[h3]at HF;generalize hop:(bi x).1=op at *;obtain⟨rc,wd,tk,pp,ps,IT,hrow⟩:∃rc wd tk pp ps IT,(ofV op).1=(rc,wd,tk,pp,ps,IT):=⟨_,_,_,_,_,_,rfl⟩;rw[hrow]at h4 h5;dsimp only at h4 h5;have ht0:(tk==0)=false:=sH;have eq:(tk==3)=false:=sQ;have sy:=hw.sz y (ZO hy);have IN:=ZJ d1 hy;rw[ey]at h7;subst h6;have Xs:=hid (fun(W:World) (hW:Zx w1 W)=>pF B R y a W (e1.tens.later (hW.mono e1.bw)) (ZW e1.bw hW.size) ae h7);obtain⟨init,ft,wi,ca,cn,cc,code,fb,gC,vb,hfn⟩:=sF q1 hne
 have hcn:cn<=2097152:=by
  exact yJ
 have hin:init.length<=2097152:=by
  exact qa
 obtain⟨pv,dy,j8⟩:=ZH gC vb hfn;clear h4 h5 h7 hy;clear h hw hE h1 q1 d1 k1 e1 e hx;go_enter func119,ntmps119
 go_wp2_with fail;refine ZE HO.out ?_;go_wp2_with fail;refine HF.out.mono ?_;rintro e w2⟨rfl,hb2⟩;have B2:=hid hb2;clear hb2 cx;have pa:=hid (aO R w2);have ci:=hid (of6 op w2 ((aE.out.later (B2.out.mono aE.out.bw)).kinds) ho0 ZS);rw[hrow]at ci;unfold rv dP at ci;go_wp2_with fail;refine ZE pa.out ?_;go_wp2_with fail;refine ci.out.mono ?_;rintro e w3⟨rfl,hb3⟩;have B3:=Zy B2 hb3;clear hb3 ci;have B4:=Zy B3 (aj w3 (bV rc wd tk pp ps IT));have B5:=Zy B4 (aj (w3.alloc (bV rc wd tk pp ps IT)) (aH op 0 none 0 0));have j7:=hid (hZn (w3.alloc (bV rc wd tk pp ps IT)) (aH op 0 none 0 0));have Y':(w3.alloc (bV rc wd tk pp ps IT)).heap.size=w3.heap.size+1:=av;rw[Y']at j7;have HM5:=hid (aO R ((w3.alloc (bV rc wd tk pp ps IT)).alloc (aH op 0 none 0 0)));have cy5:((w3.alloc (bV rc wd tk pp ps IT)).alloc (aH op 0 none 0 0)).cell? (ZA A 1)=some (.string y):=IN.out _ B5.out;go_wp2_with fail;refine ZE HM5.out ?_;clear HM5;go_wp2_with fail;refine(Xs.out _ B5.out).mono ?_;rintro e w7⟨rfl,MY⟩;have vi:=ar MY j7.out;have B7:=Zy B5 MY;have c71:=iz1 vi;have f71:=free_at (i:=1) vi;have kS:=aB w7 (w3.heap.size+1) 1 (ZI a)
 have AT:=hid (show(w7.setCell (ZA (w3.heap.size+1) 1) (ZI a)).heap[w3.heap.size+1]? =some (aH op a none 0 0) by rw[aT vi]; rfl);have BX:=hid (B7.out.trans (kS.to_below B7.out.size (fun k _ hk=>xZ)));clear MY vi kS;go_wp2_with fail;generalize w7.setCell (ZA (w3.heap.size+1) 1) (ZI a)=w9 at *;generalize w3.heap.size+1=X at *;have YR:=hid (Z7 w9 base 3 1);have Q9:=hid (Ln.out.later BX.out);obtain⟨k,hik⟩:∃k,init.length=k:=⟨_,rfl⟩;have HIK:=hid hik;have hk7:k<=2097152:=ae
 have c6:w9.drew.cell? (ZA R 6)=some (ZL fb (k+1) m.fc):=by have:=Q9.out.cells 6; rw[show(lU mp m ln 6)[6]? =some (.slice m.fa m.fn m.fc) from rfl,dy.out,j8.out,hik]at this; exact this
 have hlm:((ft,wi,(ca,cn,cc),code):FuM)∈m.fns:=tG;have tt:=hid (fun(W:World) (hW:Zx w9 W)=>((Q9.out.later hW).fo _ hlm).code);have lE:=hid (fun(W:World) (hW:Zx w9 W)=>(by have:=(Q9.out.later hW).rf; rw[dy.out,j8.out,hik]at this; exact this:W.ownsRow base 78 3 (ZL fb (k+1) m.fc) (k+1) (m.fns.flatMap dA)));have hgl:m.fns[k]? =some ((ft,wi,(ca,cn,cc),code):FuM):=kI;have hll:m.fns.length=k+1:=kI;have vl:=hid (fun(W:World) (hW:Zx w9 W)=>kX (k:=3) dA (fun _=>rfl) (lE.out W hW) hll hgl 2 ae);have HZC:=hid (fun(W:World)(hW:Zx w9 W)(W':World) (hg:W.grownBy W' (Value.slice ca cn cc).ownBlock)=>(by have h1:=aU (lE.out W hW) (tt.out W hW) hg au; exact⟨kX (k:=3) dA (fun _=>rfl) h1 hll hgl 2 ae,h1.frozenAt _⟩:W'.cell? (ZA fb (k*3+2))=some (.slice ca cn cc)/\W'.frozen? (ZA fb (k*3+2))=false));have BW:=hid ((ZT w9.heap.size w9).drew);have hkl:(k:Int)<(k:Int)+1:=ae;have hwk:IntKind.i64.wrap (k:Int)=(k:Int):=IntWalk.i64_in _ ae;clear hlm hgl hll hik;refine ZX (S:=fun W=>W.cell? (ZA R 6)=some (ZL fb (k+1) m.fc)) ak c6 (fun hSw=>?_)
 generalize w9.drew=wd at *;refine Zt 0 ?_ (hS:=aJ);refine Zt 1 ?_ (hS:=aJ);refine Zt 2 ?_ (hS:=aJ);refine Zt 3 ?_ (hS:=aJ);refine Zt 4 ?_ (hS:=aJ);refine Zt 5 ?_ (hS:=aJ);refine Zt 6 ?_ (hS:=aJ);refine Zt 7 ?_ (hS:=aJ);refine Zt 8 ?_ (hS:=aJ);refine Zt 9 ?_ (hS:=aJ);refine Zt 10 ?_ (hS:=aJ);refine Zt 11 ?_ (hS:=aJ);refine Zt 12 ?_ (hS:=aJ);refine Zt 13 ?_ (hS:=aJ);refine Z4 ak ?_ _;go_wp2_with fail;have BV:=Zy BW ((ZT wd.heap.size wd).drew)
 refine ZX (S:=fun _=>True) ak trivial (fun _=>?_)
 generalize wd.drew=wv at *;refine Zt 0 ?_;refine Zt 1 ?_;refine Zt 2 ?_;refine Zt 3 ?_;refine Zu 4 5 (fun K hK=>?_) fun K hK=>?_
 ·have c4:wv.cell? (ZA fb (k*3+2))=some (.slice ca cn cc):=vl.out _ BV.out;go_simp
  refine Zv hK ?_;clear hK K;refine ZR 5 fun K hK=>?_;have y0:=iz0 (ar BV.out AT.out);have y1:=iz1 (ar BV.out AT.out);have y2:=iz2 (ar BV.out AT.out);exact NM
 have y0:=iz0 (ar BV.out AT.out);have y1:=iz1 (ar BV.out AT.out);have y2:=iz2 (ar BV.out AT.out);go_simp;refine Zv hK ?_;clear hK K;refine Zu 4 6 (fun K hK=>?_) fun K hK=>?_
 ·have c4:wv.cell? (ZA fb (k*3+2))=some (.slice ca cn cc):=vl.out _ BV.out;exact NM
 go_simp;have BN:=Zy BV (aj wv (aH op a none 0 0));refine Zv hK ?_;clear hK K;refine ZR 4 fun K hK=>?_;have c4:(wv.alloc (aH op a none 0 0)).cell? (ZA fb (k*3+2))=some (.slice ca cn cc):=vl.out _ BN.out;go_simp;refine Zv hK ?_;clear hK K;refine ZR 7 fun K hK=>?_;refine wp_append_lies _ (.tmp 73) (.tmp 75) 76 rfl base 75 i0 (.agg #[ZU 0,ZI 0,ZN]) 3 40 underlying76 hi hz0 hz1 hz2 rfl au (.slice ca cn cc) cn (code.flatMap eD) rfl (tt.out _ BN.out) (ZA wv.heap.size 0) 1 1 (eD ((op,a,(none,0,0),[]):InM)) rfl rfl ?n1 ?n2 au aP ae (Q9.out.later BN.out).bw _ rfl ?_
 case n1 =>
  exact xW
 case n2=>intro u hu; simp[eD]at hu; rcases hu with rfl | rfl | rfl <;> rfl
 intro g cap w6 Ft BE US _;have PX:=hid (Q9.out.pushI BN.out pv.out dy.out ((op,a,(none,0,0),[]):InM) YR.out (fun k hk=>absurd hk xH) Ft BE US);exact xd
variable {l:LIz}
theorem U7{B base R A n c:Nat}(h:RQ base R mp m ln pt w)(hw:Wds w A n c ws)(hA:base<=A)(hE:cY B w)(Fo:B<=R)(hps:psz (pl m)<=2097152)(hc:c=n)(hn0:1<=n)(hne:m.fns≠[])(h1:6<=pt/\pt<=6)(h3:(bi (wdx ws 0)).2=true)(h4:(ofV (bi (wdx ws 0)).1).1.2.2.1=3)(h5:2<=n)(h6:bz ws.tail=some l) :
  Zw 119 #[ZP R 0,ZL A n c] w (LnP base R mp ln w (cj pt (pl m) ws)):=by
 have hc':=hc.symm;subst hc';obtain⟨i0,hi,hz0,hz1,hz2⟩:=Z0 nW;obtain⟨x,hx⟩:=ZB ws 0 bN;have ex:wdx ws 0=x:=cX
 have e:cj pt (pl m) ws=some (6,{ pl m with fns:=qA (pl m).fns ((bi (wdx ws 0)).1,0,l) }):=by
  exact Hh
 rw[e];have HO:=hid (cu h 6 6 h1.1 h1.2);have q1:=h.part 6 ae;have d1:=hw.setR (o:=10) (u:=ZI 6) hA h.low;have k1:=KR.set base R 10 w (ZI 6);have e1:=hE.later (k1.below Fo cP hE.bw);generalize w.setCell (ZA R 10) (ZI 6)=w1 at *;obtain⟨Ln,me,GT,aE⟩:=ZF q1 d1 k1 e1;have sx:=hw.sz x (ZO hx);have cx:w1.cell? (ZA A 0)=some (.string x):=lX;have HF:=hid (lK x w1 e1.kinds);rw[ex]at h3 h4;have To:=dM x h3;have ho0:=To.1;have ZS:=To.2;rw[h3]at HF;generalize hop:(bi x).1=op at *;obtain⟨rc,wd,tk,pp,ps,IT,hrow⟩:∃rc wd tk pp ps IT,(ofV op).1=(rc,wd,tk,pp,ps,IT):=⟨_,_,_,_,_,_,rfl⟩;rw[hrow]at h4;dsimp only at h4;subst h4;have hlen:ws.tail.length=(n-1):=uA;have Xs:=hid (fun(W:World) (hW:Zx w1 W)=>(by have:=rx (q1.later hW) (e1.later (hW.mono e1.bw)) A 1 (n-1) (n-1) ws.tail hlen qV (fun j x hx=>Iu) (fun x hx=>hw.sz x (List.mem_of_mem_tail hx)); rw[h6]at this; exact this.mono (fun e w' h=>⟨h.1,h.2.1,h.2.2⟩):Zw 179 #[ZP R 0,.slice (some (ZA A 1)) (n-1) (n-1)] W (fun e w'=>Zx W w'/\e=.returned (ZL W.heap.size (n-1) (n-1))/\w'.ownsRow W.heap.size 3 1 (ZL W.heap.size (n-1) (n-1)) (n-1) (l.flatMap fJ))));obtain⟨init,ft,wi,ca,cn,cc,code,fb,gC,vb,hfn⟩:=sF q1 hne
 have hcn:cn<=2097152:=by
  exact yJ
 have hin:init.length<=2097152:=by
  exact qa
 obtain⟨pv,dy,j8⟩:=ZH gC vb hfn;have hc2:¬n=1:=ae;have On:1<=n:=ae;clear h6 hlen;clear h hw hE h1 q1 d1 k1 e1 e hx;go_enter func119,ntmps119
 go_wp2_with fail;refine ZE HO.out ?_;go_wp2_with fail;refine HF.out.mono ?_;rintro e w2⟨rfl,hb2⟩;have B2:=hid hb2;clear hb2 cx;have pa:=hid (aO R w2);have ci:=hid (of6 op w2 ((aE.out.later (B2.out.mono aE.out.bw)).kinds) ho0 ZS);rw[hrow]at ci;unfold rv dP at ci;go_wp2_with fail;refine ZE pa.out ?_;go_wp2_with fail;refine ci.out.mono ?_;rintro e w3⟨rfl,hb3⟩;have B3:=Zy B2 hb3;clear hb3 ci;have B4:=Zy B3 (aj w3 (bV rc wd 3 pp ps IT));have B5:=Zy B4 (aj (w3.alloc (bV rc wd 3 pp ps IT)) (aH op 0 none 0 0));have j7:=hid (hZn (w3.alloc (bV rc wd 3 pp ps IT)) (aH op 0 none 0 0));have Y':(w3.alloc (bV rc wd 3 pp ps IT)).heap.size=w3.heap.size+1:=av;rw[Y']at j7;go_wp2_with fail;refine(Xs.out _ B5.out).mono ?_;rintro e w7⟨MY,rfl,ho7⟩;have vi:=ar MY j7.out;have B7:=Zy B5 MY;have HG:=hid (oF ho7 (ZW (Ln.out.later B5.out).bw lRn));have c72:=iz2 vi;have f72:=free_at (i:=2) vi;clear MY ho7;have hzz:((w3.alloc (bV rc wd 3 pp ps IT)).alloc (aH op 0 none 0 0)).heap.size=w3.heap.size+1+1:=av;rw[hzz]at HG;have HX7:=hid vi;have kS:=hid (aB w7 (w3.heap.size+1) 2 (ZL (w3.heap.size+1+1) (n-1) (n-1)))
 have AT:=hid (show(w7.setCell (ZA (w3.heap.size+1) 2) (ZL (w3.heap.size+1+1) (n-1) (n-1))).heap[w3.heap.size+1]? =some (aH op 0 (some (ZA (w3.heap.size+1+1) 0)) (n-1) (n-1)) by rw[aT vi]; rfl);have BX:=hid (B7.out.trans (kS.out.to_below B7.out.size (fun k _ hk=>xZ)));have YR:=hid (kQ HG.out kS.out vi au);clear vi kS hzz;go_wp2_with fail;generalize w7.setCell (ZA (w3.heap.size+1) 2) (ZL (w3.heap.size+1+1) (n-1) (n-1))=w9 at *;have HGE:=hid (show w1.heap.size<=w3.heap.size+1+1 from by have:=B3.out.size; omega);generalize w3.heap.size+1+1=G at *;generalize w3.heap.size+1=X at *;have Q9:=hid (Ln.out.later BX.out);obtain⟨k,hik⟩:∃k,init.length=k:=⟨_,rfl⟩;have HIK:=hid hik;have hk7:k<=2097152:=ae
 have c6:w9.drew.cell? (ZA R 6)=some (ZL fb (k+1) m.fc):=by have:=Q9.out.cells 6; rw[show(lU mp m ln 6)[6]? =some (.slice m.fa m.fn m.fc) from rfl,dy.out,j8.out,hik]at this; exact this
 have hlm:((ft,wi,(ca,cn,cc),code):FuM)∈m.fns:=tG;have tt:=hid (fun(W:World) (hW:Zx w9 W)=>((Q9.out.later hW).fo _ hlm).code);have lE:=hid (fun(W:World) (hW:Zx w9 W)=>(by have:=(Q9.out.later hW).rf; rw[dy.out,j8.out,hik]at this; exact this:W.ownsRow base 78 3 (ZL fb (k+1) m.fc) (k+1) (m.fns.flatMap dA)));have hgl:m.fns[k]? =some ((ft,wi,(ca,cn,cc),code):FuM):=kI;have hll:m.fns.length=k+1:=kI;have vl:=hid (fun(W:World) (hW:Zx w9 W)=>kX (k:=3) dA (fun _=>rfl) (lE.out W hW) hll hgl 2 ae);have HZC:=hid (fun(W:World)(hW:Zx w9 W)(W':World) (hg:W.grownBy W' (Value.slice ca cn cc).ownBlock)=>(by have h1:=aU (lE.out W hW) (tt.out W hW) hg au; exact⟨kX (k:=3) dA (fun _=>rfl) h1 hll hgl 2 ae,h1.frozenAt _⟩:W'.cell? (ZA fb (k*3+2))=some (.slice ca cn cc)/\W'.frozen? (ZA fb (k*3+2))=false));have BW:=hid ((ZT w9.heap.size w9).drew);have hkl:(k:Int)<(k:Int)+1:=ae;have hwk:IntKind.i64.wrap (k:Int)=(k:Int):=IntWalk.i64_in _ ae;clear hlm hgl hll hik;refine ZX (S:=fun W=>W.cell? (ZA R 6)=some (ZL fb (k+1) m.fc)) ak c6 (fun hSw=>?_)
 generalize w9.drew=wd at *;refine Zt 0 ?_ (hS:=aJ);refine Zt 1 ?_ (hS:=aJ);refine Zt 2 ?_ (hS:=aJ);refine Zt 3 ?_ (hS:=aJ);refine Zt 4 ?_ (hS:=aJ);refine Zt 5 ?_ (hS:=aJ);refine Zt 6 ?_ (hS:=aJ);refine Zt 7 ?_ (hS:=aJ);refine Zt 8 ?_ (hS:=aJ);refine Zt 9 ?_ (hS:=aJ);refine Zt 10 ?_ (hS:=aJ);refine Zt 11 ?_ (hS:=aJ);refine Zt 12 ?_ (hS:=aJ);refine Zt 13 ?_ (hS:=aJ);refine Z4 ak ?_ _;go_wp2_with fail;have BV:=Zy BW ((ZT wd.heap.size wd).drew)
 refine ZX (S:=fun _=>True) ak trivial (fun _=>?_)
 generalize wd.drew=wv at *;refine Zt 0 ?_;refine Zt 1 ?_;refine Zt 2 ?_;refine Zt 3 ?_;refine Zu 4 5 (fun K hK=>?_) fun K hK=>?_
 ·have c4:wv.cell? (ZA fb (k*3+2))=some (.slice ca cn cc):=vl.out _ BV.out;go_simp
  refine Zv hK ?_;clear hK K;refine ZR 5 fun K hK=>?_;have y0:=iz0 (ar BV.out AT.out);have y1:=iz1 (ar BV.out AT.out);have y2:=iz2 (ar BV.out AT.out);exact Ma
 have y0:=iz0 (ar BV.out AT.out);have y1:=iz1 (ar BV.out AT.out);have y2:=iz2 (ar BV.out AT.out);go_simp;refine Zv hK ?_;clear hK K;refine Zu 4 6 (fun K hK=>?_) fun K hK=>?_
 ·have c4:wv.cell? (ZA fb (k*3+2))=some (.slice ca cn cc):=vl.out _ BV.out;exact Ma
 go_simp;have BN:=Zy BV (aj wv (aH op 0 (some (ZA G 0)) (n-1) (n-1)));refine Zv hK ?_;clear hK K;refine ZR 4 fun K hK=>?_;have c4:(wv.alloc (aH op 0 (some (ZA G 0)) (n-1) (n-1))).cell? (ZA fb (k*3+2))=some (.slice ca cn cc):=vl.out _ BN.out;go_simp;refine Zv hK ?_;clear hK K;refine ZR 7 fun K hK=>?_;refine wp_append_lies _ (.tmp 73) (.tmp 75) 76 rfl base 75 i0 (.agg #[ZU 0,ZI 0,ZN]) 3 40 underlying76 hi hz0 hz1 hz2 rfl au (.slice ca cn cc) cn (code.flatMap eD) rfl (tt.out _ BN.out) (ZA wv.heap.size 0) 1 1 (eD ((op,0,(some (ZA G 0),(n-1),(n-1)),l):InM)) rfl rfl ?n1 ?n2 au aP ae (Q9.out.later BN.out).bw _ rfl ?_
 case n1 =>
  exact xW
 case n2=>intro u hu; simp[eD]at hu; rcases hu with rfl | rfl | rfl <;> rfl
 intro g cap w6 Ft BE US _;have PX:=hid (Q9.out.pushI BN.out pv.out dy.out ((op,0,(some (ZA G 0),(n-1),(n-1)),l):InM) YR.out (fun k hk=>Ln.out.frI yM) Ft BE US);exact xd
theorem SN{B base R A n c:Nat}(h:RQ base R mp m ln pt w)(hw:Wds w A n c ws)(hA:base<=A)(hE:cY B w)(Fo:B<=R)(hps:psz (pl m)<=2097152)(hc:c=n)(hn0:1<=n)(hne:m.fns≠[])(h1:6<=pt/\pt<=6)(h3:(bi (wdx ws 0)).2=true)(h4:(ofV (bi (wdx ws 0)).1).1.2.2.1=3)(h5:n=1)(h6:bz ws.tail=some l) :
  Zw 119 #[ZP R 0,ZL A n c] w (LnP base R mp ln w (cj pt (pl m) ws)):=by
 have hc':=hc.symm;subst hc';obtain⟨i0,hi,hz0,hz1,hz2⟩:=Z0 nW;obtain⟨x,hx⟩:=ZB ws 0 bN;have ex:wdx ws 0=x:=cX
 have e:cj pt (pl m) ws=some (6,{ pl m with fns:=qA (pl m).fns ((bi (wdx ws 0)).1,0,l) }):=by
  exact Hh
 rw[e];have HO:=hid (cu h 6 6 h1.1 h1.2);have q1:=h.part 6 ae;have d1:=hw.setR (o:=10) (u:=ZI 6) hA h.low;have k1:=KR.set base R 10 w (ZI 6);have e1:=hE.later (k1.below Fo cP hE.bw);generalize w.setCell (ZA R 10) (ZI 6)=w1 at *;obtain⟨Ln,me,GT,aE⟩:=ZF q1 d1 k1 e1;have sx:=hw.sz x (ZO hx);have cx:w1.cell? (ZA A 0)=some (.string x):=lX;have HF:=hid (lK x w1 e1.kinds);rw[ex]at h3 h4;have To:=dM x h3;have ho0:=To.1;have ZS:=To.2;rw[h3]at HF;generalize hop:(bi x).1=op at *;obtain⟨rc,wd,tk,pp,ps,IT,hrow⟩:∃rc wd tk pp ps IT,(ofV op).1=(rc,wd,tk,pp,ps,IT):=⟨_,_,_,_,_,_,rfl⟩;rw[hrow]at h4;dsimp only at h4;subst h4
 have hlen:ws.tail.length=0:=by rw[List.length_tail,hw.len]; omega
 have Xs:=hid (fun(W:World) (hW:Zx w1 W)=>(by have:=rx (q1.later hW) (e1.later (hW.mono e1.bw)) A 0 0 0 ws.tail hlen qV (fun j x hx=>by have:=aF hx; omega) (fun x hx=>hw.sz x (List.mem_of_mem_tail hx)); rw[h6]at this; exact this.mono (fun e w' h=>⟨h.1,h.2.1,h.2.2⟩):Zw 179 #[ZP R 0,ZL A 0 0] W (fun e w'=>Zx W w'/\e=.returned (ZL W.heap.size 0 0)/\w'.ownsRow W.heap.size 3 1 (ZL W.heap.size 0 0) 0 (l.flatMap fJ))));obtain⟨init,ft,wi,ca,cn,cc,code,fb,gC,vb,hfn⟩:=sF q1 hne
 have hcn:cn<=2097152:=by
  exact yJ
 have hin:init.length<=2097152:=by
  exact qa
 obtain⟨pv,dy,j8⟩:=ZH gC vb hfn;subst h5;clear h6 hlen;clear h hw hE h1 q1 d1 k1 e1 e hx;go_enter func119,ntmps119
 go_wp2_with fail;refine ZE HO.out ?_;go_wp2_with fail;refine HF.out.mono ?_;rintro e w2⟨rfl,hb2⟩;have B2:=hid hb2;clear hb2 cx;have pa:=hid (aO R w2);have ci:=hid (of6 op w2 ((aE.out.later (B2.out.mono aE.out.bw)).kinds) ho0 ZS);rw[hrow]at ci;unfold rv dP at ci;go_wp2_with fail;refine ZE pa.out ?_;go_wp2_with fail;refine ci.out.mono ?_;rintro e w3⟨rfl,hb3⟩;have B3:=Zy B2 hb3;clear hb3 ci;have B4:=Zy B3 (aj w3 (bV rc wd 3 pp ps IT));have B5:=Zy B4 (aj (w3.alloc (bV rc wd 3 pp ps IT)) (aH op 0 none 0 0));have j7:=hid (hZn (w3.alloc (bV rc wd 3 pp ps IT)) (aH op 0 none 0 0));have Y':(w3.alloc (bV rc wd 3 pp ps IT)).heap.size=w3.heap.size+1:=av;rw[Y']at j7;go_wp2_with fail;refine(Xs.out _ B5.out).mono ?_;rintro e w7⟨MY,rfl,ho7⟩;have vi:=ar MY j7.out;have B7:=Zy B5 MY;have HG:=hid (oF ho7 (ZW (Ln.out.later B5.out).bw lRn));have c72:=iz2 vi;have f72:=free_at (i:=2) vi;clear MY ho7;have hzz:((w3.alloc (bV rc wd 3 pp ps IT)).alloc (aH op 0 none 0 0)).heap.size=w3.heap.size+1+1:=av;rw[hzz]at HG;have HX7:=hid vi;have kS:=hid (aB w7 (w3.heap.size+1) 2 (ZL (w3.heap.size+1+1) 0 0))
 have AT:=hid (show(w7.setCell (ZA (w3.heap.size+1) 2) (ZL (w3.heap.size+1+1) 0 0)).heap[w3.heap.size+1]? =some (aH op 0 (some (ZA (w3.heap.size+1+1) 0)) 0 0) by rw[aT vi]; rfl);have BX:=hid (B7.out.trans (kS.out.to_below B7.out.size (fun k _ hk=>xZ)));have YR:=hid (kQ HG.out kS.out vi au);clear vi kS hzz;go_wp2_with fail;generalize w7.setCell (ZA (w3.heap.size+1) 2) (ZL (w3.heap.size+1+1) 0 0)=w9 at *;have HGE:=hid (show w1.heap.size<=w3.heap.size+1+1 from by have:=B3.out.size; omega);generalize w3.heap.size+1+1=G at *;generalize w3.heap.size+1=X at *;have Q9:=hid (Ln.out.later BX.out);obtain⟨k,hik⟩:∃k,init.length=k:=⟨_,rfl⟩;have HIK:=hid hik;have hk7:k<=2097152:=ae
 have c6:w9.drew.cell? (ZA R 6)=some (ZL fb (k+1) m.fc):=by have:=Q9.out.cells 6; rw[show(lU mp m ln 6)[6]? =some (.slice m.fa m.fn m.fc) from rfl,dy.out,j8.out,hik]at this; exact this
 have hlm:((ft,wi,(ca,cn,cc),code):FuM)∈m.fns:=tG;have tt:=hid (fun(W:World) (hW:Zx w9 W)=>((Q9.out.later hW).fo _ hlm).code);have lE:=hid (fun(W:World) (hW:Zx w9 W)=>(by have:=(Q9.out.later hW).rf; rw[dy.out,j8.out,hik]at this; exact this:W.ownsRow base 78 3 (ZL fb (k+1) m.fc) (k+1) (m.fns.flatMap dA)));have hgl:m.fns[k]? =some ((ft,wi,(ca,cn,cc),code):FuM):=kI;have hll:m.fns.length=k+1:=kI;have vl:=hid (fun(W:World) (hW:Zx w9 W)=>kX (k:=3) dA (fun _=>rfl) (lE.out W hW) hll hgl 2 ae);have HZC:=hid (fun(W:World)(hW:Zx w9 W)(W':World) (hg:W.grownBy W' (Value.slice ca cn cc).ownBlock)=>(by have h1:=aU (lE.out W hW) (tt.out W hW) hg au; exact⟨kX (k:=3) dA (fun _=>rfl) h1 hll hgl 2 ae,h1.frozenAt _⟩:W'.cell? (ZA fb (k*3+2))=some (.slice ca cn cc)/\W'.frozen? (ZA fb (k*3+2))=false));have BW:=hid ((ZT w9.heap.size w9).drew);have hkl:(k:Int)<(k:Int)+1:=ae;have hwk:IntKind.i64.wrap (k:Int)=(k:Int):=IntWalk.i64_in _ ae;clear hlm hgl hll hik;refine ZX (S:=fun W=>W.cell? (ZA R 6)=some (ZL fb (k+1) m.fc)) ak c6 (fun hSw=>?_)
 generalize w9.drew=wd at *;refine Zt 0 ?_ (hS:=aJ);refine Zt 1 ?_ (hS:=aJ);refine Zt 2 ?_ (hS:=aJ);refine Zt 3 ?_ (hS:=aJ);refine Zt 4 ?_ (hS:=aJ);refine Zt 5 ?_ (hS:=aJ);refine Zt 6 ?_ (hS:=aJ);refine Zt 7 ?_ (hS:=aJ);refine Zt 8 ?_ (hS:=aJ);refine Zt 9 ?_ (hS:=aJ);refine Zt 10 ?_ (hS:=aJ);refine Zt 11 ?_ (hS:=aJ);refine Zt 12 ?_ (hS:=aJ);refine Zt 13 ?_ (hS:=aJ);refine Z4 ak ?_ _;go_wp2_with fail;have BV:=Zy BW ((ZT wd.heap.size wd).drew)
 refine ZX (S:=fun _=>True) ak trivial (fun _=>?_)
 generalize wd.drew=wv at *;refine Zt 0 ?_;refine Zt 1 ?_;refine Zt 2 ?_;refine Zt 3 ?_;refine Zu 4 5 (fun K hK=>?_) fun K hK=>?_
 ·have c4:wv.cell? (ZA fb (k*3+2))=some (.slice ca cn cc):=vl.out _ BV.out;go_simp
  refine Zv hK ?_;clear hK K;refine ZR 5 fun K hK=>?_;have y0:=iz0 (ar BV.out AT.out);have y1:=iz1 (ar BV.out AT.out);have y2:=iz2 (ar BV.out AT.out);exact Lf
 have y0:=iz0 (ar BV.out AT.out);have y1:=iz1 (ar BV.out AT.out);have y2:=iz2 (ar BV.out AT.out);go_simp;refine Zv hK ?_;clear hK K;refine Zu 4 6 (fun K hK=>?_) fun K hK=>?_
 ·have c4:wv.cell? (ZA fb (k*3+2))=some (.slice ca cn cc):=vl.out _ BV.out;exact Lf
 go_simp;have BN:=Zy BV (aj wv (aH op 0 (some (ZA G 0)) 0 0));refine Zv hK ?_;clear hK K;refine ZR 4 fun K hK=>?_;have c4:(wv.alloc (aH op 0 (some (ZA G 0)) 0 0)).cell? (ZA fb (k*3+2))=some (.slice ca cn cc):=vl.out _ BN.out;go_simp;refine Zv hK ?_;clear hK K;refine ZR 7 fun K hK=>?_;refine wp_append_lies _ (.tmp 73) (.tmp 75) 76 rfl base 75 i0 (.agg #[ZU 0,ZI 0,ZN]) 3 40 underlying76 hi hz0 hz1 hz2 rfl au (.slice ca cn cc) cn (code.flatMap eD) rfl (tt.out _ BN.out) (ZA wv.heap.size 0) 1 1 (eD ((op,0,(some (ZA G 0),0,0),l):InM)) rfl rfl ?n1 ?n2 au aP ae (Q9.out.later BN.out).bw _ rfl ?_
 case n1 =>
  exact xW
 case n2=>intro u hu; simp[eD]at hu; rcases hu with rfl | rfl | rfl <;> rfl
 intro g cap w6 Ft BE US _;have PX:=hid (Q9.out.pushI BN.out pv.out dy.out ((op,0,(some (ZA G 0),0,0),l):InM) YR.out (fun k hk=>Ln.out.frI yM) Ft BE US);exact xd
theorem WU{B base R A n c:Nat}(h:RQ base R mp m ln pt w)(hw:Wds w A n c ws)(hA:base<=A)(hE:cY B w)(Fo:B<=R)(hps:psz (pl m)<=2097152)(hc:c=n)(hn0:1<=n)(hne:m.fns≠[])(h1:6<=pt/\pt<=6)(h3:(bi (wdx ws 0)).2=true)(h4:(ofV (bi (wdx ws 0)).1).1.2.2.1=3)(h5:2<=n)(h6:bz ws.tail=none) :
  Zw 119 #[ZP R 0,ZL A n c] w (LnP base R mp ln w (cj pt (pl m) ws)):=by
 have hc':=hc.symm;subst hc';obtain⟨i0,hi,hz0,hz1,hz2⟩:=Z0 nW;obtain⟨x,hx⟩:=ZB ws 0 bN;have ex:wdx ws 0=x:=cX
 have e:cj pt (pl m) ws=none:=by
  unfold cj;rw[if_pos ⟨h1,h3⟩]
  have ep:iP (bi (wdx ws 0)).1 ws=none:=by
   unfold iP;rw[if_neg (by rw[h4]; decide),if_pos h4,h6]; rfl
  rw[ep];rfl
 rw[e];have HO:=hid (cu h 6 6 h1.1 h1.2);have q1:=h.part 6 ae;have d1:=hw.setR (o:=10) (u:=ZI 6) hA h.low;have k1:=KR.set base R 10 w (ZI 6);have e1:=hE.later (k1.below Fo cP hE.bw);generalize w.setCell (ZA R 10) (ZI 6)=w1 at *;obtain⟨Ln,me,GT,aE⟩:=ZF q1 d1 k1 e1;have sx:=hw.sz x (ZO hx);have cx:w1.cell? (ZA A 0)=some (.string x):=lX;have HF:=hid (lK x w1 e1.kinds);rw[ex]at h3 h4;have To:=dM x h3;have ho0:=To.1;have ZS:=To.2;rw[h3]at HF;generalize hop:(bi x).1=op at *;obtain⟨rc,wd,tk,pp,ps,IT,hrow⟩:∃rc wd tk pp ps IT,(ofV op).1=(rc,wd,tk,pp,ps,IT):=⟨_,_,_,_,_,_,rfl⟩;rw[hrow]at h4;dsimp only at h4;subst h4;have hlen:ws.tail.length=(n-1):=uA;have Xs:=hid (fun(W:World) (hW:Zx w1 W)=>(by have:=rx (q1.later hW) (e1.later (hW.mono e1.bw)) A 1 (n-1) (n-1) ws.tail hlen qV (fun j x hx=>Iu) (fun x hx=>hw.sz x (List.mem_of_mem_tail hx)); rw[h6]at this; exact this.mono (fun e w' h=>⟨h.2,h.1⟩):Zw 179 #[ZP R 0,.slice (some (ZA A 1)) (n-1) (n-1)] W (fun e w'=>e=thL ln/\Zx W w')));have hc2:¬n=1:=ae;have On:1<=n:=ae;clear h6 hlen;clear h hw hE h1 q1 d1 k1 e1 e hx;go_enter func119,ntmps119
 go_wp2_with fail;refine ZE HO.out ?_;go_wp2_with fail;refine HF.out.mono ?_;rintro e w2⟨rfl,hb2⟩;have B2:=hid hb2;clear hb2 cx;have pa:=hid (aO R w2);have ci:=hid (of6 op w2 ((aE.out.later (B2.out.mono aE.out.bw)).kinds) ho0 ZS);rw[hrow]at ci;unfold rv dP at ci;go_wp2_with fail;refine ZE pa.out ?_;go_wp2_with fail;refine ci.out.mono ?_;rintro e w3⟨rfl,hb3⟩;have B3:=Zy B2 hb3;clear hb3 ci;have B4:=Zy B3 (aj w3 (bV rc wd 3 pp ps IT));have B5:=Zy B4 (aj (w3.alloc (bV rc wd 3 pp ps IT)) (aH op 0 none 0 0));have j7:=hid (hZn (w3.alloc (bV rc wd 3 pp ps IT)) (aH op 0 none 0 0));have Y':(w3.alloc (bV rc wd 3 pp ps IT)).heap.size=w3.heap.size+1:=av;rw[Y']at j7;exact GW
theorem Sw{B base R A n c:Nat}(h:RQ base R mp m ln pt w)(hw:Wds w A n c ws)(hA:base<=A)(hE:cY B w)(Fo:B<=R)(hps:psz (pl m)<=2097152)(hc:c=n)(hn0:1<=n)(hne:pt=6->m.fns≠[]) :
  Zw 119 #[ZP R 0,ZL A n c] w (LnP base R mp ln w (cj pt (pl m) ws)):=by
 by_cases h1:6<=pt/\pt<=6
 ·have hne:=hne ae
  by_cases h3:(bi (wdx ws 0)).2=true
  ·by_cases h4:(ofV (bi (wdx ws 0)).1).1.2.2.1=0
   ·by_cases h5:n=1
    ·exact WG h hw hA hE Fo hps hc hn0 hne h1 h3 h4 h5
    exact VR h hw hA hE Fo hps hc hn0 hne h1 h3 h4 h5
   by_cases h5:(ofV (bi (wdx ws 0)).1).1.2.2.1=3
   ·rcases h6:bz ws.tail with _ | l
    ·refine WU h hw hA hE Fo hps hc hn0 hne h1 h3 h5 ?_ h6;have hl:=hw.len
     match ws,hl,h6 with
     | [],hl,_=>simp at hl; omega
     | [a],hl,h6=>simp[bz]at h6
     | a::b::r,hl,_=>simp at hl; omega
    by_cases h7:n=1
    ·exact SN h hw hA hE Fo hps hc hn0 hne h1 h3 h5 h7 h6
    exact U7 h hw hA hE Fo hps hc hn0 hne h1 h3 h5 ae h6
   by_cases h6:n=2
   ·rcases h7:nmV (wdx ws 1) with _ | a
    ·exact TZ h hw hA hE Fo hps hc hn0 hne h1 h3 h4 h5 h6 h7
    exact U8 h hw hA hE Fo hps hc hn0 hne h1 h3 h4 h5 h6 h7
   exact QI h hw hA hE Fo hps hc hn0 hne h1 h3 h4 h5 h6
  exact Vg h hw hA hE Fo hps hc hn0 hne h1 (by simpa using h3)
 exact Rw h h1
section
theorem Dr(s:BAz)(i:Nat):1<=(Utf8.decode s i).2:=by
 unfold Utf8.decode;dsimp only
 repeat' split
 all_goals simp
def Xn(s:BAz)(b:Nat)(acc:List (Nat×Nat)):Prop:=(∀x∈acc,x.1<x.2/\x.2<=s.size)/\(acc.map fun x=>x.2-x.1).sum<=b
theorem mO(p:Nat->Bool)(s:BAz):∀(f pos:Nat)(st:Option Nat)(acc:List (Nat×Nat)),Xn s (min (st.getD pos) s.size) acc->(∀a,st=some a->a<pos/\a<s.size) ->
  Xn s s.size (Lib.closeSpans s (Lib.spansFromP p s f pos st acc))
 | 0,pos,st,acc,h,hs=>by
  unfold Lib.spansFromP;exact LD
 | f+1,pos,st,acc,h,hs=>by
  unfold Lib.spansFromP;have hd:=Dr s pos
  by_cases hp:pos<s.size
  ·rw[if_pos hp]
   by_cases hb:p (Utf8.decode s pos).1=true
   ·rw[if_pos hb]
    cases st with
    | none =>
     refine mO p s f _ none acc ⟨h.1,?_⟩ (fun a e=>eO);have:=h.2;simp only[Option.getD_none]at this ⊢;omega
    | some a =>
     have ha:=hs a rfl;refine mO p s f _ none _ ⟨fun x hx=>?_,?_⟩ (fun a e=>eO)
     ·rcases List.mem_append.1 hx with hx | hx
      ·exact h.1 x hx
      rw[List.mem_singleton]at hx;subst hx;exact⟨ha.1,Nat.le_of_lt hp⟩
     have:=h.2;simp only[List.map_append,List.sum_append,List.map_cons,List.map_nil,List.sum_cons,List.sum_nil,Option.getD_none,Option.getD_some]at this ⊢;omega
   rw[if_neg hb]
   cases st with
   | none =>
    refine mO p s f _ (some pos) acc ⟨h.1,?_⟩ (fun a e=>qj);have:=h.2;simp only[Option.getD_none,Option.getD_some]at this ⊢;omega
   | some a =>
    have ha:=hs a rfl;exact mO p s f _ (some a) acc h (fun b e=>qj)
  rw[if_neg hp];exact LD
theorem ext_size(s:BAz)(a b:Nat)(h:b<=s.size):(s.extract a b).size=b-a:=by
 simp;omega
theorem Mq:∀(l:List Nat),(∀x∈l,1<=x)->l.length<=l.sum
 | [],_=>by simp
 | x::l,h=>by
  have h1:=h x av;have h2:=Mq l (fun y hy=>h y (by simp[hy]));simp only[Z1,List.sum_cons];omega
theorem tR:∀(l:List Nat)(x:Nat),x∈l->x<=l.sum
 | [],x,h=>by cases h
 | y::l,x,h=>by
  rcases List.mem_cons.1 h with rfl | h
  ·simp
  have:=tR l x h;simp only[List.sum_cons];omega
def aG(s:BAz):List ByteArray:=Lib.goFieldsP ic s
theorem jb(s:BAz):(∀x∈aG s,1<=x.size)/\((aG s).map (·.size)).sum<=s.size:=by
 have h:=mO ic s s.size 0 none [] ⟨(fun x hx=>fG),av⟩ (fun a e=>eO);have hsz:∀x∈Lib.spansOfP ic s,(s.extract x.1 x.2).size=x.2-x.1:=fun x hx=>ext_size s x.1 x.2 (h.1 x hx).2;refine⟨fun x hx=>?_,?_⟩
 ·obtain⟨q,hq,rfl⟩:=List.mem_map.1 hx;have h1:=(h.1 q hq).1;have h2:=hsz q hq;omega
 have e:(aG s).map (·.size)=(Lib.spansOfP ic s).map fun x=>x.2-x.1:=by
  unfold aG Lib.goFieldsP;rw[List.map_map];exact List.map_congr_left (fun x hx=>hsz x hx)
 rw[e];exact h.2
theorem oJ(s:BAz):(aG s).length<=s.size/\∀x∈aG s,x.size<=s.size:=by
 obtain⟨h1,h2⟩:=jb s;have h3:=Mq ((aG s).map (·.size)) (fun x hx=>by obtain⟨q,hq,rfl⟩:=List.mem_map.1 hx; exact h1 q hq);rw[List.length_map]at h3;refine⟨ae,fun x hx=>?_⟩;have:=tR ((aG s).map (·.size)) x.size (List.mem_map.2 ⟨x,hx,rfl⟩);omega
theorem Md:∀(l:Zai),(Lib.join (l.map (·.data.toList)) [32]).length<=(l.map (·.size)).sum+l.length
 | []=>by simp[Lib.join]
 | x::r=>by
  have hj:∀(r:Zai),(Lib.joinTail [32] (r.map (·.data.toList))).length=(r.map (·.size)).sum+r.length:=by
   intro r;exact P6
  rw[List.map_cons,Lib.join_cons,ZV,hj];have e:x.data.toList.length=x.size:=Zab;rw[e];simp only[List.map_cons,List.sum_cons,Z1];omega
theorem Az(s:BAz):(bQ (aG s).tail).size<=2*s.size:=by
 have h1:=Md (aG s).tail;have h2:=jb s;have h3:=oJ s
 have h4:((aG s).tail.map (·.size)).sum<=((aG s).map (·.size)).sum:=by
  cases aG s with
  | nil=>simp
  | cons x r=>simp
 have h5:(aG s).tail.length<=(aG s).length:=by rw[List.length_tail]; omega
 have e:(bQ (aG s).tail).size=(Lib.join ((aG s).tail.map (·.data.toList)) [32]).length:=by simp[bQ,ByteArray.size]
 omega
def bX(p:Int)(M:PM)(ws:Zai):Option (Int×PM) :=
 if wdx ws 0=⟨#[102,108,97,103,111,110]⟩ then im p M ws else
 if wdx ws 0=⟨#[116,121,112,101]⟩ then gp p M ws else
 if wdx ws 0=⟨#[101,120,116,101,114,110]⟩ then gq p M ws else
 if wdx ws 0=⟨#[103,108,111,98,97,108]⟩ then dO p M ws else
 if wdx ws 0=⟨#[109,101,109,111,114,121]⟩ then jd p M ws else
 if wdx ws 0=⟨#[102,117,110,99]⟩ then iz p M ws else
 if wdx ws 0=⟨#[100,97,116,97]⟩ then jl p M ws else
 if wdx ws 0=⟨#[101,120,112,111,114,116]⟩ then jt p M ws else
 cj p M ws
def fb(x:BAz):Int:=((x.data.toList.headD 0).toNat:Int)
def gh(p:Int)(M:PM)(s:BAz):Option (Int×PM):=if aG s=[]\/fb (wdx (aG s) 0)=59 then some (p,M) else bX p M (aG s)
theorem YB:∀args w,(callFunc 108 args).run prog w=.ok (.enter 108 args) w:=fun args w=>kZ
theorem Yz:∀args w,(callFunc 109 args).run prog w=.ok (.enter 109 args) w:=fun args w=>kZ
theorem XU:∀args w,(callFunc 110 args).run prog w=.ok (.enter 110 args) w:=fun args w=>kZ
theorem XD:∀args w,(callFunc 111 args).run prog w=.ok (.enter 111 args) w:=fun args w=>kZ
theorem Yg:∀args w,(callFunc 112 args).run prog w=.ok (.enter 112 args) w:=fun args w=>kZ
theorem XH:∀args w,(callFunc 113 args).run prog w=.ok (.enter 113 args) w:=fun args w=>kZ
theorem Xr:∀args w,(callFunc 114 args).run prog w=.ok (.enter 114 args) w:=fun args w=>kZ
theorem Yr:∀args w,(callFunc 115 args).run prog w=.ok (.enter 115 args) w:=fun args w=>kZ
variable {mp:Value}{m:MM}{ln pt:Int}{w:World}{ws:Zai}
theorem Oq{B base R A n c:Nat}(h:RQ base R mp m ln pt w)(hw:Wds w A n c ws)(hA:base<=A)(hE:cY B w)(Fo:B<=R)(hps:psz (pl m)<=2097152)(hc:c=n)(hn0:1<=n)(hj:(bQ ws.tail).size<=8388608)(hne:pt=6->m.fns≠[]) :
  (∃i f,Instr.findNow .string (.string (wdx ws 0)) kdE.toList 0=some (some (i,.func (.func f) #[] #[]))/\(∀args w,(callFunc f args).run prog w=.ok (.enter f args) w)/\Zw f #[ZP R 0,ZL A n c] w (LnP base R mp ln w (bX pt (pl m) ws)))
  \/ (Instr.findNow .string (.string (wdx ws 0)) kdE.toList 0=some none/\Zw 119 #[ZP R 0,ZL A n c] w (LnP base R mp ln w (bX pt (pl m) ws))):=by
 by_cases h0:wdx ws 0=⟨#[102,108,97,103,111,110]⟩
 ·refine .inl ⟨_,_,(by rw[h0]; exact Df),YB,?_⟩
  have e:bX pt (pl m) ws=im pt (pl m) ws:=by
   unfold bX;rw[if_pos h0]
  rw[e];exact Uk h hw
 by_cases h1:wdx ws 0=⟨#[116,121,112,101]⟩
 ·refine .inl ⟨_,_,(by rw[h1]; exact NR),Yz,?_⟩
  have e:bX pt (pl m) ws=gp pt (pl m) ws:=by
   unfold bX;rw[if_neg h0,if_pos h1]
  rw[e];exact Vm h hw hA hE Fo hps hc hn0 hj
 by_cases h2:wdx ws 0=⟨#[101,120,116,101,114,110]⟩
 ·refine .inl ⟨_,_,(by rw[h2]; exact CP),XU,?_⟩
  have e:bX pt (pl m) ws=gq pt (pl m) ws:=by
   unfold bX;rw[if_neg h0,if_neg h1,if_pos h2]
  rw[e];exact RD h hw hA hE Fo hps
 by_cases h3:wdx ws 0=⟨#[103,108,111,98,97,108]⟩
 ·refine .inl ⟨_,_,(by rw[h3]; exact Dw),XD,?_⟩
  have e:bX pt (pl m) ws=dO pt (pl m) ws:=by
   unfold bX;rw[if_neg h0,if_neg h1,if_neg h2,if_pos h3]
  rw[e];exact TR h hw hA hE Fo hps
 by_cases h4:wdx ws 0=⟨#[109,101,109,111,114,121]⟩
 ·refine .inl ⟨_,_,(by rw[h4]; exact Dm),Yg,?_⟩
  have e:bX pt (pl m) ws=jd pt (pl m) ws:=by
   unfold bX;rw[if_neg h0,if_neg h1,if_neg h2,if_neg h3,if_pos h4]
  rw[e];exact Vi h hw hA hE Fo hps
 by_cases h5:wdx ws 0=⟨#[102,117,110,99]⟩
 ·refine .inl ⟨_,_,(by rw[h5]; exact Li),XH,?_⟩
  have e:bX pt (pl m) ws=iz pt (pl m) ws:=by
   unfold bX;rw[if_neg h0,if_neg h1,if_neg h2,if_neg h3,if_neg h4,if_pos h5]
  rw[e];exact Vb h hw hA hE Fo hps
 by_cases h6:wdx ws 0=⟨#[100,97,116,97]⟩
 ·refine .inl ⟨_,_,(by rw[h6]; exact OZ),Xr,?_⟩
  have e:bX pt (pl m) ws=jl pt (pl m) ws:=by
   unfold bX;rw[if_neg h0,if_neg h1,if_neg h2,if_neg h3,if_neg h4,if_neg h5,if_pos h6]
  rw[e];exact U9 h hw hA hE Fo hps
 by_cases h7:wdx ws 0=⟨#[101,120,112,111,114,116]⟩
 ·refine .inl ⟨_,_,(by rw[h7]; exact Cv),Yr,?_⟩
  have e:bX pt (pl m) ws=jt pt (pl m) ws:=by
   unfold bX;rw[if_neg h0,if_neg h1,if_neg h2,if_neg h3,if_neg h4,if_neg h5,if_neg h6,if_pos h7]
  rw[e];exact Vk h hw hA hE Fo hps
 refine .inr ⟨Mj _ h0 h1 h2 h3 h4 h5 h6 h7,?_⟩
 have e:bX pt (pl m) ws=cj pt (pl m) ws:=by
  unfold bX;rw[if_neg h0,if_neg h1,if_neg h2,if_neg h3,if_neg h4,if_neg h5,if_neg h6,if_neg h7]
 rw[e];exact Sw h hw hA hE Fo hps hc hn0 hne
theorem TY(w:World):PredAtRunes prog 118 #[] ic w:=fun W x _ _=>(QF x W).mono fun e w' ⟨he,hw⟩=>⟨he,0,by rw[hw]; rfl⟩
theorem YE:∀args w,(callFunc 118 args).run prog w=.ok (.enter 118 args) w:=fun args w=>kZ
theorem qp(s:BAz)(w:World)(hs:s.size<=2097152):Zw 117 #[.string s,.func (.func 118) #[] #[]] w fun e w'=>∃A,e=.returned (ZL A (aG s).length (aG s).length)/\w.heap.size<=A/\Wds w' A (aG s).length (aG s).length (aG s)/\Zx w w':=by
 refine(Tryz.strings_FieldsFunc_runes 118 #[] YE ic s w ae (TY w)).mono ?_;rintro e w' ⟨A,rfl,hA,ho,hb⟩;refine⟨A,rfl,hA,⟨rfl,?_,Nat.le_refl _,fun j x hx=>?_,fun x hx=>?_,?_⟩,hb⟩
 ·obtain⟨_,cur,hc⟩:=dN ho (b:=A) rfl;exact aK hc
 ·have hj:j<(aG s).length:=(List.getElem?_eq_some_iff.1 hx).1
  have:=ho.cellAt j (by have:(Lib.goFieldsP ic s).length=(aG s).length:=rfl; omega);rw[Nat.zero_add,this,List.getElem?_map];have hx':(Lib.goFieldsP ic s)[j]? =some x:=hx;rw[hx'];rfl
 ·have:=(oJ s).2 x hx
  omega
 have:=(oJ s).1;omega
theorem EH(x:BAz)(h:1<=x.size):fb x=((x[0].toNat:Nat):Int):=by
 cases x with | mk a =>
 cases a with | mk l =>
 cases l with
 | nil=>simp[ByteArray.size]at h
 | cons b l=>rfl
theorem SR{B base R KB:Nat}(s:BAz)(h:RQ base R (.map (some KB)) m ln pt w)(hs:s.size<=2097152)(hl:0<=ln/\ln<=2097152)(h0:aG s=[]) :
  Zw 56 #[ZP R 0,.string s] w (LnP base R (.map (some KB)) (ln+1) w (gh pt (pl m) s)):=by
 have e:gh pt (pl m) s=some (pt,pl m):=by unfold gh; rw[if_pos (.inl h0)]
 rw[e];obtain⟨hl0,mm⟩:=hl;have hi:IntKind.i64.wrap (ln+1)=ln+1:=IntWalk.i64_in _ ae;have q1:=hid (h.line (ln+1));have k1:=hid (KR.set base R 9 w (ZI (ln+1)));have c9:=h.cells 9;have f9:=h.free 9;simp[lU]at c9;have HF:=hid (qp s (w.setCell (ZA R 9) (ZI (ln+1))) hs);rw[h0]at HF;simp only[List.length_nil]at HF;clear h e h0;go_enter func56,ntmps56
 go_wp2_with fail;refine HF.out.mono ?_;clear HF;generalize w.setCell (ZA R 9) (ZI (ln+1))=w1 at *;rintro e w2⟨A,rfl,hA,hd,hb⟩;obtain⟨HD,HB⟩:=Zz hd hb;clear hd hb;exact FW
theorem LF{B base R KB:Nat}(s:BAz)(h:RQ base R (.map (some KB)) m ln pt w)(hs:s.size<=2097152)(hl:0<=ln/\ln<=2097152)(h0:aG s≠[])(h1:fb (wdx (aG s) 0)=59) :
  Zw 56 #[ZP R 0,.string s] w (LnP base R (.map (some KB)) (ln+1) w (gh pt (pl m) s)):=by
 have e:gh pt (pl m) s=some (pt,pl m):=by unfold gh; rw[if_pos (.inr h1)]
 rw[e];obtain⟨hl0,mm⟩:=hl;have hi:IntKind.i64.wrap (ln+1)=ln+1:=IntWalk.i64_in _ ae
 obtain⟨x,r,hx⟩:∃x r,aG s=x::r:=by cases hw:aG s with | nil=>exact absurd hw h0 | cons x r=>exact⟨x,r,rfl⟩
 have hx1:1<=x.size:=(jb s).1 x (by rw[hx]; simp);have ex:wdx (aG s) 0=x:=oU;have hr:(((r.length:Int)+1)==0)=false:=aA;rw[ex,EH x hx1]at h1;have h2:(((x[0].toNat:Nat):Int)==59)=true:=lV;have q1:=hid (h.line (ln+1));have k1:=hid (KR.set base R 9 w (ZI (ln+1)));have c9:=h.cells 9;have f9:=h.free 9;simp[lU]at c9;have HF:=hid (qp s (w.setCell (ZA R 9) (ZI (ln+1))) hs);clear h e h0;go_enter func56,ntmps56
 go_wp2_with fail;refine HF.out.mono ?_;clear HF;generalize w.setCell (ZA R 9) (ZI (ln+1))=w1 at *;rintro e w2⟨A,rfl,hA,hd,hb⟩;obtain⟨HD,HB⟩:=Zz hd hb;have c0:w2.cell? (ZA A 0)=some (.string x):=hd.at_ 0 x oU;have hn:(aG s).length=r.length+1:=oU;rw[hn];clear hd hb hx hn;exact FW
variable {B base R KB:Nat}
theorem Uh(s:BAz)(h:RQ base R (.map (some KB)) m ln pt w)(hs:s.size<=2097152)(hl:0<=ln/\ln<=2097152)(h0:aG s≠[])(h1:fb (wdx (aG s) 0)≠59)(hE:cY B w)(Fo:B<=R)(hps:psz (pl m)<=2097152)(hne:pt=6->m.fns≠[])(hKB:w.heap[KB]? =some (.map kdE 8))(hKR:KB≠R)(hKb:KB<base) :
  Zw 56 #[ZP R 0,.string s] w (LnP base R (.map (some KB)) (ln+1) w (gh pt (pl m) s)):=by
 have e:gh pt (pl m) s=bX pt (pl m) (aG s):=by unfold gh; rw[if_neg (fun x=>x.elim h0 h1)]
 rw[e];obtain⟨hl0,mm⟩:=hl;have hi:IntKind.i64.wrap (ln+1)=ln+1:=IntWalk.i64_in _ ae
 obtain⟨x,r,hx⟩:∃x r,aG s=x::r:=by cases hw:aG s with | nil=>exact absurd hw h0 | cons x r=>exact⟨x,r,rfl⟩
 have hx1:1<=x.size:=(jb s).1 x (by rw[hx]; simp);have ex:wdx (aG s) 0=x:=oU;have hr:(((r.length:Int)+1)==0)=false:=aA;rw[ex,EH x hx1]at h1;have h2:(((x[0].toNat:Nat):Int)==59)=false:=mJ;have hn:(aG s).length=r.length+1:=oU
 have hfew:r.length<=2097152:=by have:=(oJ s).1; omega
 have hj:=Az s;have hE1:=hid (hE.later ((KR.set base R 9 w (ZI (ln+1))).below Fo cP hE.bw));have hM1:=hid (((KR.set base R 9 w (ZI (ln+1))).block KB (aK hKB) (fun e=>by rcases e with e | e; exact hKR e; omega)).trans hKB);have q1:=hid (h.line (ln+1));have k1:=hid (KR.set base R 9 w (ZI (ln+1)));have c9:=h.cells 9;have f9:=h.free 9;simp[lU]at c9;have HF:=hid (qp s (w.setCell (ZA R 9) (ZI (ln+1))) hs);clear h e h0 hE hKB;go_enter func56,ntmps56
 go_wp2_with fail;refine HF.out.mono ?_;clear HF;generalize w.setCell (ZA R 9) (ZI (ln+1))=w1 at *;rintro e w2⟨A,rfl,hA,hd,hb⟩;obtain⟨HD,HB⟩:=Zz hd hb;have c0:w2.cell? (ZA A 0)=some (.string x):=hd.at_ 0 x oU;have hq2:=q1.out.later hb;have hE2:=hE1.out.later (hb.mono hE1.out.bw);have hM2:=ar hb hM1.out;have hk2:=k1.out.trans (KR.later hb);have hA2:base<=A:=ZW q1.out.bw hA;rw[hn]at hd;rw[hn];clear hb HD HB q1 k1 hE1 hM1 c9 f9;have b3:Zx w2 w2.drew:=(ZT _ _).drew;have d3:=hd.later b3;have q3:=hq2.later b3;have e3:=hE2.later (b3.mono hE2.bw);have m3:=ar b3 hM2;have k3:=hk2.trans (KR.later b3)
 have c3:w2.drew.cell? (ZA A 0)=some (.string x):=by rw[<- c0]; rfl
 have g3:w2.drew.cell? (ZA R 0)=some (.map (some KB)):=(q3.cells 0).trans rfl;have ew:=ex;have way:=hid (Oq q3 d3 hA2 e3 Fo hps rfl ae ae hne);rw[ex]at way;obtain⟨HK,M3⟩:=Zz k3 m3;clear hd hq2 hE2 hM2 hk2 b3 d3 q3 e3 m3 k3;generalize hwd:w2.drew=wd at *;have HW:=hid hwd;clear hwd;clear ex hx
 rcases way.out with ⟨i,f,hf,eg,hc⟩ | ⟨hf,hc⟩
 ·have hlk:=MH wd KB i f x M3.out hf;exact Us
 have hlk:=KP wd KB x M3.out hf;exact Us
theorem WN(s:BAz)(h:RQ base R (.map (some KB)) m ln pt w)(hs:s.size<=2097152)(hl:0<=ln/\ln<=2097152)(hE:cY B w)(Fo:B<=R)(hps:psz (pl m)<=2097152)(hne:pt=6->m.fns≠[])(hKB:w.heap[KB]? =some (.map kdE 8))(hKR:KB≠R)(hKb:KB<base) :
  Zw 56 #[ZP R 0,.string s] w (LnP base R (.map (some KB)) (ln+1) w (gh pt (pl m) s)):=by
 by_cases h0:aG s=[]
 ·exact SR (B:=B) s h hs hl h0
 by_cases h1:fb (wdx (aG s) 0)=59
 ·exact LF (B:=B) s h hs hl h0 h1
 exact Uh s h hs hl h0 h1 hE Fo hps hne hKB hKR hKb
def I64(x:Int):Prop:=-9223372036854775808<=x/\x<=9223372036854775807
structure PR(M:PM):Prop where
 hr:∀x∈M.hosts,I64 x
 gr:∀x∈M.globals,0<=x.1/\x.1<=255/\0<=x.2.2/\x.2.2<18446744073709551616
 i:I64 M.fi
 o:I64 M.mo
 fr:∀x∈M.fns,I64 x.1/\∀y∈x.2.2,0<=y.1/\y.1<=255/\I64 y.2.1/\y.2.2.length<=2097152/\∀z∈y.2.2,I64 z
 dr:∀x∈M.data,I64 x.1/\x.2.length<=2097152/\∀b∈x.2,0<=b/\b<=255
 er:∀x∈M.exps,I64 x.2
variable {x:BAz}
theorem mg{v:Int}(h:nmV x=some v):I64 v:=kp (pu h).1
theorem fS{α:Type}{l:List α}{y:α}{Q:α->Prop}(h:∀x∈l,Q x)(hy:Q y):∀x∈l++[y],Q x:=by
 intro x hx
 rcases List.mem_append.1 hx with hx | hx
 ·exact h x hx
 rw[List.mem_singleton]at hx; subst hx; exact hy
structure StO(M:PM)(p':Int)(M':PM):Prop where
 sz:psz M'<=psz M+1
 pr:PR M'
 ne:p'=6->M'.fns≠[]
variable {p p':Int}{M M':PM}
theorem TJ(h:im p M ws=some (p',M'))(hR:PR M):StO M p' M':=by
 unfold im at h
 split at h
 ·cases h; exact⟨ae,hR,fun e=>eO⟩
 cases h
theorem WH(h:gp p M ws=some (p',M'))(hR:PR M):StO M p' M':=by
 unfold gp at h
 split at h
 ·cases h; exact⟨qO,⟨hR.hr,hR.gr,hR.i,hR.o,hR.fr,hR.dr,hR.er⟩,fun e=>eO⟩
 cases h
theorem RV(h:gq p M ws=some (p',M'))(hR:PR M):StO M p' M':=by
 unfold gq at h
 split at h
 ·rcases h3:nmV (wdx ws 1) with _ | v
  ·exact fp
  rw[h3]at h; cases h;exact⟨qO,⟨fS hR.hr (mg h3),hR.gr,hR.i,hR.o,hR.fr,hR.dr,hR.er⟩,fun e=>eO⟩
 cases h
variable {l:BAz}
theorem Xq{v:Int}{x:Int×Int}(h:gvV l v=some x):0<=x.1/\x.1<=255/\0<=x.2/\x.2<18446744073709551616:=by
 unfold gvV at h
 split at h
 ·split at h
  ·cases h; dsimp only; omega
  cases h
 split at h
 ·cases h; dsimp only; omega
 cases h
theorem Tb(h:dO p M ws=some (p',M'))(hR:PR M):StO M p' M':=by
 unfold dO at h
 split at h
 ·rcases h3:nmV (wdx ws 3) with _ | v
  ·exact fp
  rw[h3]at h;simp only[Zac]at h
  rcases h4:gvV (wdx ws 1) v with _ | x
  ·exact jv
  rw[h4]at h; cases h;exact⟨qO,⟨hR.hr,fS hR.gr (Xq h4),hR.i,hR.o,hR.fr,hR.dr,hR.er⟩,fun e=>eO⟩
 cases h
theorem Vd(h:jd p M ws=some (p',M'))(hR:PR M):StO M p' M':=by
 unfold jd at h
 split at h
 ·rcases h3:nmV (wdx ws 1) with _ | v
  ·exact fp
  rw[h3]at h;simp only[Zac]at h
  rcases h4:nmV (wdx ws 2) with _ | x
  ·exact jv
  rw[h4]at h; cases h;exact⟨by unfold psz; simp,⟨hR.hr,hR.gr,mg h3,mg h4,hR.fr,hR.dr,hR.er⟩,fun e=>eO⟩
 cases h
theorem VO(h:iz p M ws=some (p',M'))(hR:PR M):StO M p' M':=by
 unfold iz at h
 split at h
 ·rcases h3:nmV (wdx ws 1) with _ | v
  ·exact fp
  rw[h3]at h; cases h;exact⟨qO,⟨hR.hr,hR.gr,hR.i,hR.o,fS hR.fr ⟨mg h3,fun y hy=>by cases hy⟩,hR.dr,hR.er⟩,fun _=>av⟩
 cases h
theorem zP:∀(l:Zaj)(r:LIz),fD l=some r->r.length<=l.length/\∀b∈r,0<=b/\b<=255
 | [],r,h=>by simp[fD]at h; subst h; simp
 | [_],r,h=>by simp[fD]at h
 | a::b::l,r,h=>by
  simp only[fD]at h
  split at h
  ·rename_i hd
   rcases hl:fD l with _ | t
   ·rw[hl]at h; cases h
   rw[hl]at h; cases h;have ih:=zP l t hl;have h1:=jC a.toNat;have h2:=jC b.toNat;refine⟨aA,fun x hx=>?_⟩
   rcases List.mem_cons.1 hx with rfl | hx
   ·omega
   exact ih.2 x hx
  cases h
theorem Wj(hz:∀x∈ws,x.size<=2097152)(i:Nat):(wdx ws i).size<=2097152:=by
 unfold wdx
 rcases hx:ws[i]? with _ | x
 ·simp only[List.getD,hx,Option.getD_none]; decide
 exact EE
theorem Vz(h:jl p M ws=some (p',M'))(hR:PR M)(hz:∀x∈ws,x.size<=2097152):StO M p' M':=by
 unfold jl at h
 split at h
 ·rcases h3:nmV (wdx ws 1) with _ | v
  ·exact fp
  rw[h3]at h;simp only[Zac]at h
  rcases h4:kP (wdx ws 2) with _ | x
  ·exact jv
  rw[h4]at h; cases h;have h5:=zP _ _ h4;have h6:=Wj hz 2;have h7:(wdx ws 2).data.toList.length=(wdx ws 2).size:=Zab;exact⟨qO,⟨hR.hr,hR.gr,hR.i,hR.o,hR.fr,fS hR.dr ⟨mg h3,uf,h5.2⟩,hR.er⟩,fun e=>eO⟩
 cases h
theorem WS(h:jt p M ws=some (p',M'))(hR:PR M):StO M p' M':=by
 unfold jt at h
 split at h
 ·rcases h3:nmV (wdx ws 2) with _ | v
  ·exact fp
  rw[h3]at h; cases h;exact⟨qO,⟨hR.hr,hR.gr,hR.i,hR.o,hR.fr,hR.dr,fS hR.er (mg h3)⟩,fun e=>eO⟩
 cases h
theorem nN:∀(ws:Zai)(l:LIz),bz ws=some l->l.length=ws.length/\∀z∈l,I64 z
 | [],l,h=>by simp[bz]at h; subst h; simp
 | x::r,l,h=>by
  simp only[bz]at h
  rcases h3:nmV x with _ | v
  ·exact fp
  rw[h3]at h;simp only[Zac]at h
  rcases h4:bz r with _ | t
  ·exact jv
  rw[h4]at h; cases h;have ih:=nN r t h4;refine⟨by simp[ih.1],fun z hz=>?_⟩
  rcases List.mem_cons.1 hz with rfl | hz
  ·exact mg h3
  exact ih.2 z hz
variable {op:Int}{y:PIn}
theorem Xa(h:iP op ws=some y)(ho:0<=op/\op<=255)(hn:ws.length<=2097152):0<=y.1/\y.1<=255/\I64 y.2.1/\y.2.2.length<=2097152/\∀z∈y.2.2,I64 z:=by
 have z0:I64 0:=by unfold I64; omega
 unfold iP at h
 split at h
 ·split at h
  ·cases h; exact⟨ho.1,ho.2,z0,av,fun z hz=>by cases hz⟩
  cases h
 split at h
 ·rcases h4:bz ws.tail with _ | t
  ·exact jv
  rw[h4]at h; cases h;have:=nN _ _ h4;refine⟨ho.1,ho.2,z0,?_,this.2⟩;have h5:=this.1;rw[List.length_tail]at h5;dsimp only;omega
 split at h
 ·rcases h4:nmV (wdx ws 1) with _ | t
  ·exact jv
  rw[h4]at h; cases h;exact⟨ho.1,ho.2,mg h4,av,fun z hz=>by cases hz⟩
 cases h
theorem RX{fs:List PFn}(h:fs≠[])(y:PIn):∃init f,fs=init++[f]/\qA fs y=init++[(f.1,f.2.1,f.2.2++[y])]:=by
 refine⟨fs.dropLast,fs.getLast h,(List.dropLast_concat_getLast h).symm,?_⟩;unfold qA;rw[List.getLast?_eq_some_getLast h]
theorem SU(h:cj p M ws=some (p',M'))(hR:PR M)(hn:p=6->M.fns≠[])(hl:ws.length<=2097152):StO M p' M':=by
 unfold cj at h
 split at h
 ·rename_i hc
  rcases h3:iP (bi (wdx ws 0)).1 ws with _ | y
  ·exact fp
  rw[h3]at h; cases h;have hy:=Xa h3 (dM _ hc.2) hl;obtain⟨init,f,e1,e2⟩:=RX (hn ae) y;rw[e2];have hf:=hR.fr;rw[e1]at hf;refine⟨?_,⟨hR.hr,hR.gr,hR.i,hR.o,?_,hR.dr,hR.er⟩,fun _=>av⟩
  ·unfold psz;rw[e1]
   simp;omega
  have h1:=hf f av;exact fS (fun x hx=>hf x mB) ⟨h1.1,fS h1.2 hy⟩
 cases h
theorem Rn(h:bX p M ws=some (p',M'))(hR:PR M)(hn:p=6->M.fns≠[])(hl:ws.length<=2097152)(hz:∀x∈ws,x.size<=2097152):StO M p' M':=by
 unfold bX at h
 split at h
 ·exact TJ h hR
 split at h
 ·exact WH h hR
 split at h
 ·exact RV h hR
 split at h
 ·exact Tb h hR
 split at h
 ·exact Vd h hR
 split at h
 ·exact VO h hR
 split at h
 ·exact Vz h hR hz
 split at h
 ·exact WS h hR
 exact SU h hR hn hl
variable {s:BAz}
theorem Fa(h:gh p M s=some (p',M'))(hR:PR M)(hn:p=6->M.fns≠[])(hs:s.size<=2097152):StO M p' M':=by
 unfold gh at h
 split at h
 ·cases h; exact⟨ae,hR,hn⟩
 have:=oJ s;exact Rn h hR hn ae (fun x hx=>by have:=this.2 x hx; omega)
def iO(ln p:Int)(M:PM):List ByteArray->Int×Option (Int×PM)
 | []=>(ln,some (p,M))
 | s::r=>match gh p M s with
  | none=>(ln+1,none)
  | some (p',M')=>iO (ln+1) p' M' r
def pm0:PM:=⟨[],[],[],0,0,[],[],[]⟩
theorem QD:PR pm0:=⟨(fun x hx=>fG),(fun x hx=>fG),by unfold I64 pm0; dsimp only; omega,by unfold I64 pm0; dsimp only; omega,(fun x hx=>fG),(fun x hx=>fG),(fun x hx=>fG)⟩
variable {a:OAz}
theorem pX{α:Type}{base e k n c:Nat}{l:List α}(gc:α->List Value)(hk:∀x,(gc x).length=k)(hp:0<k)(h:w.ownsRow base e k (.slice a n c) n (l.flatMap gc)) :
  l.length=n/\(n=0\/∃b off,a=some (ZA b off)/\∀(j:Nat)x,l[j]? =some x->∀q y,(gc x)[q]? =some y->w.cell? (ZA b (off+j*k+q))=some y):=by
 refine⟨cE hk hp h,?_⟩
 rcases h.2 with ⟨h0,hz⟩ | ⟨b,cp,cur,h1,h2,h3,h4,h5,h6,h7⟩
 ·exact .inl hz
 injection h1 with e1 e2 e3;refine .inr ⟨b,0,e1,fun j x hj q y hq=>?_⟩
 have hq':q<k:=by have:=(List.getElem?_eq_some_iff.1 hq).1; rw[hk]at this; exact this
 have hx:(l.flatMap gc)[j*k+q]? =some y:=by rw[Dn gc k hk l j q hq',hj]; exact hq
 have hlt:j*k+q<n*k:=by have:=(List.getElem?_eq_some_iff.1 hx).1; rw[h.1]at this; exact this
 subst e1;have:=h.cellAt (j*k+q) hlt;rw[hx]at this;rw[show 0+j*k+q=j*k+q by omega];exact this
variable {xs:Zah}
theorem mf{base e k n c R g:Nat}(h:w.ownsRow base e k (.slice a n c) n xs)(hR:w.heap.size<=R)(hg:w.heap.size<=g):Far w R g a:=by
 intro b off cc hb;obtain⟨_,cur,hc⟩:=dN h (b:=b) (by rw[hb]; rfl);have:=aK hc;omega
theorem MW{base e k n c:Nat}(h:w.ownsRow base e k (.slice a n c) n xs):n<=c:=by
 rcases h.2 with ⟨h0,hz⟩ | ⟨b,cp,cur,h1,h2,h3,h4,h5,h6,h7⟩
 ·omega
 injection h1 with e1 e2 e3;omega
variable {R0:Nat}
theorem RQ.mok(h:RQ base R0 mp m ln pt w)(hp:PR (pl m))(R g:Nat)(hR:w.heap.size<=R)(hg:w.heap.size<=g):MOk w R g m:=by
 exact UF
section
variable {P:Program} {b:Frame} {a:Act} {k:List Item} {cs:List Frame} {w w':World} {ops:Array Oper} {i:Nat} {rest:List Nat} {o:Oper}
theorem ES(ho:ops[i]? =some o)(hw:Region.wanted o (yielded ops a.tmps)=true)(hn:∀c,o.op≠.defer c){v:Value}(hr:(execOp a.eval o).run P w=.ok (.value v) w') :
  step P (lone (b.atR a (.inRegion ops (i::rest)::k)) cs w)=.next (lone (b.atR (a.put o.dst v) (.inRegion ops rest::k)) cs w'):=by
 have hfin:(b.atR a (.inRegion ops (i::rest)::k)).finish v=b.atR (a.put o.dst v) (.inRegion ops rest::k):=by rw[Frame.finish_atR,ho]; rfl
 refine step_lone_go ?_;rw[stepGR_op ho hw,Oper.semAt_eq _ _ _ hn,<- hfin];simp[stepG.apply,hr]
variable {args:AVz}
theorem Ty(ho:ops[i]? =some o)(hw:Region.wanted o (yielded ops a.tmps)=true)(hn:∀c,o.op≠.defer c){f:FuncId}(hr:(execOp a.eval o).run P w=.ok (.enter f args) w') :
  step P (lone (b.atR a (.inRegion ops (i::rest)::k)) cs w)=.next (lone (Frame.enter P f args .normal) (b.atR a (.inRegion ops (i::rest)::k)::cs) w'):=by
 refine step_lone_go ?_;rw[stepGR_op ho hw,Oper.semAt_eq _ _ _ hn];simp[stepG.apply,hr,Frame.atR]
end
variable {n l id rid:Nat}{P:Program}{tmps args:AVz}{assign:Code}{o0 o1 o2:Oper}{a₁:Act}{w₂:World}{v0 v1:Value}
theorem BA{fn:FuncId}{R:Ending->World->Prop}{f:FuncId}(hd1:a₁.defers=[])
  (ii:assign.wpIn (Fence.wide.inRound l) n P (Exit.then (fun a w₁=>a=a₁/\w₁=w) (fun _ _ _=>False)) { tmps:=tmps,defers:=[] } w)
  (hbr:(Instr.beginRound l).run P w=.ok () w₂)
  (n0:∀c,o0.op≠.defer c) (n1:∀c,o1.op≠.defer c) (n2:∀c,o2.op≠.defer c)
  (g0:Region.wanted o0 (yielded #[o0,o1,o2] a₁.tmps)=true) (h0:(execOp a₁.eval o0).run P w₂=.ok (.value v0) w₂)
  (g1:Region.wanted o1 (yielded #[o0,o1,o2] (a₁.put o0.dst v0).tmps)=true) (h1:(execOp (a₁.put o0.dst v0).eval o1).run P w₂=.ok (.value v1) w₂)
  (g2:Region.wanted o2 (yielded #[o0,o1,o2] ((a₁.put o0.dst v0).put o1.dst v1).tmps)=true) (h2:(execOp ((a₁.put o0.dst v0).put o1.dst v1).eval o2).run P w₂=.ok (.enter f args) w₂)
  (hc:Calls P f args w₂ fun e w3=>(∃v,e=.returned v/\∃v' w4,(Instr.endRound l none).run P w3=.ok v' w4/\R (.returned v') w4)\/(∃ch,e=.panicked ch/\R (.panicked ch) w3)) :
  RoundIn Fence.wide n P l fn tmps assign (.block id (.region rid #[o0,o1,o2] false)) w R:=by
 refine⟨trivial,fun c cs hr=>?_⟩
 let b:Frame:={ (default:Frame) with fn:=fn,kind:=.normal,roundOf:=some l }
 have hb0:Frame.round l fn tmps assign (.block id (.region rid #[o0,o1,o2] false)) .normal=b.atR { tmps:=tmps,defers:=[] } [.code assign,.beginRound,.code (.block id (.region rid #[o0,o1,o2] false))]:=by
  simp[Frame.round,Frame.atR,b]
 obtain⟨e,a₀,w₀,hq,harr⟩:=ii b [.beginRound,.code (.block id (.region rid #[o0,o1,o2] false))] (c::cs) rfl trivial (room_wide _);rw[<- hb0]at harr
 cases e with
 | exit id=>exact hq.elim
 | goto t=>exact hq.elim
 | ret=>exact hq.elim
 | panic chain=>exact hq.elim
 | outgrown=>exact hq.elim
 | normal =>
  obtain⟨rfl,rfl⟩:=hq
  have s1:Steps P (lone (b.atR a₀ [.beginRound,.code (.block id (.region rid #[o0,o1,o2] false))]) (c::cs) w₀) (lone (Frame.enter P f args .normal) (b.atR ((a₀.put o0.dst v0).put o1.dst v1) (.inRegion #[o0,o1,o2] [2]::[.inBlock id])::c::cs) w₂):=by
   refine .head (stepR_beginRound rfl hbr) (.head stepR_block (.head stepR_region ?_));exact .head (ES (i:=0) (rest:=[1,2]) rfl g0 n0 h0) (.head (ES (i:=1) (rest:=[2]) rfl g1 n1 h1) (.one (Ty (i:=2) (rest:=[]) rfl g2 n2 h2)))
  have s0:Steps P (lone (Frame.round l fn tmps assign (.block id (.region rid #[o0,o1,o2] false)) .normal) (c::cs) w₀) (lone (Frame.enter P f args .normal) (b.atR ((a₀.put o0.dst v0).put o1.dst v1) (.inRegion #[o0,o1,o2] [2]::[.inBlock id])::c::cs) w₂):=(stepsIn_wide.1 harr).trans s1;obtain⟨e,w₃,fr,hR,hs,hfn,hl⟩:=hc (b.atR ((a₀.put o0.dst v0).put o1.dst v1) (.inRegion #[o0,o1,o2] [2]::[.inBlock id])::c::cs)
  rcases hR with ⟨v,rfl,v',w₄,hend,hR⟩ | ⟨ch,rfl,hR⟩
  ·have hfin:(b.atR ((a₀.put o0.dst v0).put o1.dst v1) (.inRegion #[o0,o1,o2] [2]::[.inBlock id])).finish v=b.atR (((a₀.put o0.dst v0).put o1.dst v1).put o2.dst v) (.inRegion #[o0,o1,o2] []::[.inBlock id]):=by rw[Frame.finish_atR]; rfl
   have s2:=step_leave_returned (c:=b.atR ((a₀.put o0.dst v0).put o1.dst v1) (.inRegion #[o0,o1,o2] [2]::[.inBlock id])) (cs:=c::cs) hl;rw[hfin]at s2;exact⟨.returned v',w₄,hR,comesIn_wide.2 (s0.trans (Steps.trans hs (.head s2 (.head stepR_region_end (.head stepR_inBlock (.one (stepR_round_end rfl rfl hend)))))))⟩
  have s2:=step_leave_panicked (c:=b.atR ((a₀.put o0.dst v0).put o1.dst v1) (.inRegion #[o0,o1,o2] [2]::[.inBlock id])) (cs:=c::cs) hl;rw[Frame.raise_atR]at s2
  have hd:((a₀.put o0.dst v0).put o1.dst v1).defers=[]:=by
   have:∀(a:Act)d v,(a.put d v).defers=a.defers:=fun a d v=>by cases d <;> rfl
   rw[this,this,hd1]
  have s3:step P (lone { b.atR ((a₀.put o0.dst v0).put o1.dst v1) (.inRegion #[o0,o1,o2] [2]::[.inBlock id]) with mode:=.panicking ch } (c::cs) w₃)=.next (lone (c.raise ch) cs w₃):=by
   refine step_lone_go ?_
   have hca:Frame.catches P { b.atR ((a₀.put o0.dst v0).put o1.dst v1) (.inRegion #[o0,o1,o2] [2]::[.inBlock id]) with mode:=.panicking ch }=false:=by
    unfold Frame.catches;simp only[Frame.atR]
    split <;> simp_all
   simp only[stepG,unwind,Frame.atR,hd]at hca ⊢;rw[hca];rfl
  exact⟨.panicked ch,w₃,hR,comesIn_wide.2 (s0.trans (Steps.trans hs (.head s2 (.one s3))))⟩
def MQ{α:Type}(F:Fence)(n:Nat)(P:Program)(gf:Nat)(lb:AVz)(encs:α->Array Value)(c:Addr)(ps:List Addr)(xs:List α)(W:World):Prop :=
 ∀(l:Nat)(J:List α->World->Prop)(Jp:List PanicEntry->World->Prop)(W1:World),eN ps W W1 ->
  (∀r A v,J r A->J r (A.setCell c v)) ->
  (∀x r A,J (x::r) A->YieldAt F (n-1) P l (encs x) A fun e B=>(e=.returned (.bool true)/\J r B/\eN ps A B)\/(∃ch,e=.panicked ch/\Jp ch B)) ->
  J xs W1 ->
  CallsIn F n P gf (#[.func (.yield l) #[] #[]]++lb) W1 fun e B=>((∃v,e=.returned v)/\J [] B)\/(∃ch,e=.panicked ch/\Jp ch B)
variable {g:Operand}{Q:Zan}{a:Act}{gf:Nat}{lb:AVz}
theorem xV{α:Type}{prm:Array Tmp}      
  (h1:1<=n)   (hg:a.eval g=.func (.func gf) #[] lb) (eg:∀args w,(callFunc gf args).run P w=.ok (.enter gf args) w)
  {encs:α->Array Value} {c:Addr} {ps:List Addr} {xs:List α} (hps:∀x,(encs x).size=prm.size)
  (hseq:MQ Fence.wide (n-1) P gf lb encs c ps xs w)
  (I:List α->World->Prop) (Ip:List PanicEntry->World->Prop) (hI:OwnFrom w.heap.size I)
  (hIc:∀r A v,I r A->I r (A.setCell c v)) (h0:I xs w) (a₁:α->Act) (hd1:∀x,(a₁ x).defers=[])
  (ii:∀(l:Nat)(x:α)(W:World)(K:Act->World->Prop),K (a₁ x) W ->
   assign.wpIn (Fence.wide.inRound l) (n-1-1) P (Exit.then K (fun _ _ _=>False)) { tmps:=(prm.zip (encs x)).foldl (fun t (p,v)=>t.setIfInBounds p v) a.tmps,defers:=[] } W)
  (n0:∀c,o0.op≠.defer c) (n1:∀c,o1.op≠.defer c) (n2:∀c,o2.op≠.defer c)
  (hbody:∀(x:α)(r:List α)(W:World),w.heap.size+2<=W.heap.size->I (x::r) W->∃v0 v1 f args,Region.wanted o0 (yielded #[o0,o1,o2] (a₁ x).tmps)=true/\(execOp (a₁ x).eval o0).run P W=.ok (.value v0) W /\
   Region.wanted o1 (yielded #[o0,o1,o2] ((a₁ x).put o0.dst v0).tmps)=true/\(execOp ((a₁ x).put o0.dst v0).eval o1).run P W=.ok (.value v1) W /\
   Region.wanted o2 (yielded #[o0,o1,o2] (((a₁ x).put o0.dst v0).put o1.dst v1).tmps)=true/\(execOp (((a₁ x).put o0.dst v0).put o1.dst v1).eval o2).run P W=.ok (.enter f args) W /\
   Calls P f args W fun e W'=>(∃v,e=.returned v/\(∀k,w.heap.size<=k->k<w.heap.size+2->W'.heap[k]? =W.heap[k]?)/\eN ps W W'/\I r W')\/(∃ch,e=.panicked ch/\(∀k,w.heap.size<=k->k<w.heap.size+2->W'.heap[k]? =W.heap[k]?)/\Ip ch W'))
  (hdone:∀(D:Nat)(W:World),w.heap.size<=D->I [] W->W.heap[D]? =some (.deferred (some []))->Q .normal { a with defers:={ target:=.collected D,args:=#[] }::a.defers } W)
  (qai:∀(D:Nat)(ch:List PanicEntry)(W:World),w.heap.size<=D->Ip ch W->W.heap[D]? =some (.deferred (some []))->Q (.panic ch) { a with defers:={ target:=.collected D,args:=#[] }::a.defers } W) :
  (Code.rangeFunc g prm assign (.block id (.region rid #[o0,o1,o2] false))).wpIn Fence.wide n P Q a w:=by
 refine wpIn_rangeFunc fun fn hfn=>?_;rw[show Fence.wide.round=none from rfl]
 let record:LoopState->Option Code->Loop:=fun st pe=>{ state:=st,pending:=pe,fn,tmps:=a.tmps,params:=prm,assign,body:=.block id (.region rid #[o0,o1,o2] false),defers:=w.heap.size }
 let D:=w.heap.size
 let L:=w.heap.size+1
 let W0:=(w.alloc (.deferred (some []))).alloc (.loop (record .ready none))
 let Book:Loop->World->Prop:=fun rc W=>W.heap[L]? =some (.loop rc)/\W.heap[D]? =some (.deferred (some []))
 have qac:Book (record .ready none) W0:=by
  constructor
  ·exact GY
  exact E9
 have turn:∀{rc rc':Loop} {W:World},Book rc W->Book rc' (W.putObj L (.loop rc')):=fun h =>
  ⟨World.putObj_heap_same (Array.getElem?_eq_some_iff.1 h.1).1,(World.putObj_heap_other (by simp[L,D])).trans h.2⟩
 have over:∀{rc:Loop} {W W':World},Book rc W->(∀k,w.heap.size<=k->k<w.heap.size+2->W'.heap[k]? =W.heap[k]?)->Book rc W':=fun h k =>
  ⟨(k L lQ lQ).trans h.1,(k D (by simp[D]) (by simp[D])).trans h.2⟩
 have cells:∀{rc:Loop} {W:World} (v:Value),Book rc W->Book rc (W.setCell c v):=fun v h =>
  ⟨(KeepsOthers.setCell _ _ _).same _ _ h.1 rfl,(KeepsOthers.setCell _ _ _).same _ _ h.2 rfl⟩
 have It:eN ps w W0:=fun p _ v hv=>by
  exact Qt
 refine⟨L,[{ target:=.collected D,args:=#[] }],W0,{ target:=.fn (.func gf) lb,args:=#[.func (.yield L) #[] #[]] },W0,gf,#[.func (.yield L) #[] #[]]++lb,W0,
  run_enterLoop_outer _ _ _ _ _,?_,?_,?_,fun _=>h1,?_⟩
 ·simp only[resolve,hg]; simp[go_sem]
 ·intro f' hf'; trivial
 ·simp[invoke,go_sem,eg]
 refine(hseq L (fun r W=>I r W/\Book (record .ready none) W) (fun ch W=>Ip ch W/\W.heap[D]? =some (.deferred (some []))) W0 It
  (fun r A v h=>⟨hIc r A v h.1,cells v h.2⟩) ?_ ⟨hI.alloc _ (hI.alloc _ h0),qac⟩).mono ?_
 ·
  rintro x r W⟨hi,hb⟩;have hy:=run_yield (P:=P) (args:=encs x) hb.1 (hps x);have hb2:Book { record .ready none with state:=.busy } (W.putObj L (.loop { record .ready none with state:=.busy })):=turn hb;obtain⟨v0,v1,f,args,g0,r0,g1,r1,g2,r2,hc⟩:=hbody x r _ ((Array.getElem?_eq_some_iff.1 hb2.1).1) (hI.putObj (.loop { record .ready none with state:=.busy }) hi lQ hb.1 rfl);refine⟨fn,_,assign,_,hy,BA (hd1 x) (ii _ x W _ ⟨rfl,rfl⟩) (run_beginRound hb.1 rfl) n0 n1 n2 g0 r0 g1 r1 g2 r2 (hc.mono ?_)⟩;rintro e W3 (⟨v,rfl,hk3,hkp3,hi3⟩ | ⟨ch,rfl,hk3,hi3⟩)
  ·have hb3:=over hb2 hk3;exact .inl ⟨v,rfl,_,_,run_endRound none hb3.1,.inl ⟨rfl,⟨hI.putObj _ hi3 lQ hb3.1 rfl,turn hb3⟩,((eN.turned _ _ _ _ hb.1 rfl).trans hkp3).trans (eN.turned _ _ _ _ hb3.1 rfl)⟩⟩
  have hb3:=over hb2 hk3;exact .inr ⟨ch,rfl,.inr ⟨ch,rfl,hi3,hb3.2⟩⟩
 
 rintro e W2 (⟨⟨v,rfl⟩,hi,hb⟩ | ⟨ch,rfl,hi,hb⟩)
 ·exact IX
 exact qai D ch _ lRn hi hb
end
end Go.Proofs.YtheefojaplnnoaaGreatDoor
