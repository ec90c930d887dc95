/-
  Texts Pr.
-/
import Derived.Test.YtheefojaplnnoaaGreatDoorY00
import Derived.Test.YtheefojaplnnoaaGreatDoorY29
set_option linter.unusedVariables false
set_option maxRecDepth 100000
set_option maxHeartbeats 16000000
namespace Go.Proofs.YtheefojaplnnoaaGreatDoor
open Go.RowKit
theorem oX:(Tryz.prog.info? 75).map (fun i=>(i.zero,i.size,i.bytes))=some (some (.agg #[.int .u8 0,.int .i64 0,.slice none 0 0]),3,40):=ai
theorem ql:∀(l:List ByteArray)(f:Int)(r:ByteArray),(lF f r l).2=true→f≤(lF f r l).1∧(lF f r l).1<f+l.length
 | [],f,r,h=>by simp[lF]at h
 | p::l,f,r,h=>by
  unfold lF at h ⊢
  by_cases hp:p=r
  ·rw[if_pos hp]; simp; omega
  ·rw[if_neg hp]at h ⊢
   have:=ql l (f+1) r h
   simp only[List.length_cons]
   omega
theorem lI:∀(n i:Nat)(s:ByteArray),i+n≤7→(gG n i s).2=true→0≤(gG n i s).1∧(gG n i s).1≤255
 | 0,i,s,_,h=>by simp[gG]at h
 | n+1,i,s,hi,h=>by
  unfold gG at h ⊢
  by_cases hk:(gD (kF i) (kA i) (kW i) s).2=true
  ·rw[if_pos hk];obtain⟨f0,_,_,f3,_⟩:=mX i ae;unfold gD at hk ⊢
   split at hk
   ·rename_i hp
    rw[if_pos hp]
    have:=ql _ _ _ hk
    dsimp only;omega
   ·cases hk
  ·rw[if_neg hk]at h ⊢;exact lI n (i+1) s ae h
theorem dG(s:ByteArray)(h:(bC s).2=true):0≤(bC s).1∧(bC s).1≤255:=lI 7 0 s ae h
theorem FD(init:List FuM)(t:Int)(lo:ByteArray)(a a':SLv)(c:List InM)(y:InM):(init++[((t,lo,a',c++[y]):FuM)]).map plF=su ((init++[((t,lo,a,c):FuM)]).map plF) (plI y):=by
 unfold su
 simp[plF,List.map_append]
theorem qM{base R:Nat}{mp:Value}{m:MM}{ln pt:Int}{w:World}(h:RQ base R mp m ln pt w)(hne:m.fns≠[]):∃init t lo ca cn cc code fb,m.fns=init++[((t,lo,(ca,cn,cc),code):FuM)]∧m.fa=some ⟨fb,0,none⟩∧m.fn=init.length+1:=by
 obtain⟨init,x,hx⟩:∃init x,m.fns=init++[x]:=⟨m.fns.dropLast,m.fns.getLast hne,(List.dropLast_concat_getLast hne).symm⟩;obtain⟨t,lo,⟨ca,cn,cc⟩,code⟩:=x
 have hl:=ei (g:=dR) (fun _=>rfl) aj h.rf
 have hn:m.fn=init.length+1:=by rw[← hl,hx]; simp
 rcases h.rf.2 with ⟨h0,hz⟩ | ⟨g,cp,cur,h1,_⟩
 ·omega
 ·injection h1 with e1 e2 e3
  exact⟨init,t,lo,ca,cn,cc,code,g,hx,e1,hn⟩
theorem QO{B base R A n c:Nat}{mp:Value}{m:MM}{ln pt:Int}{w:World}{ws:List ByteArray}(h:RQ base R mp m ln pt w)(hw:Wds w A n c ws)(hA:base≤A)(hE:cw B w)(hBR:B≤R)(hps:psz (pl m)≤2097152)(hc:c=n)(hn0:1≤n)(hne:m.fns≠[])(h1:6≤pt∧pt≤6)(h3:(bC (wdx ws 0)).2=false) :
  Calls Tryz.prog 119 #[.pointer (some ⟨R,0,none⟩),.slice (some ⟨A,0,none⟩) n c] w (LnP base R mp ln w (cO pt (pl m) ws)):=by
 have hc':=hc.symm;subst hc';obtain⟨i0,hi,hz0,hz1,hz2⟩:=info_parts oX;obtain⟨x,hx⟩:∃x,ws[0]? =some x:=⟨_,aO aY⟩;have ex:wdx ws 0=x:=bZ
 have e:cO pt (pl m) ws=none:=by unfold cO; rw[if_neg (fun x=>by rw[h3]at x; cases x.2)]
 rw[e];have HO:=hid (bL h 6 6 h1.1 h1.2);have q1:=h.part 6 ae;have d1:=hw.setR (o:=10) (u:=.int .i64 6) hA h.low;have k1:=KR.set base R 10 w (.int .i64 6);have e1:=hE.later (k1.below hBR bM hE.bw);generalize w.setCell ⟨R,10,none⟩ (.int .i64 6)=w1 at *;have HQ0:=hid q1;have HD0:=hid d1;have HK0:=hid k1;have HE0:=hid e1;have sx:=hw.sz x (List.mem_of_getElem? hx);have cx:w1.cell? ⟨A,0,none⟩=some (.string x):=kx;have HF:=hid (kr x w1 e1.kinds);rw[ex]at h3;rw[h3]at HF;generalize (bC x).1=op at *;clear h hw hE h1 q1 d1 k1 e1 e hx
 go_enter Tryz.func119,Tryz.ntmps119
 go_wp2_with fail;refine HO.out.mono ?_;rintro e w1' ⟨rfl,hw1⟩;have hw2:=hw1.symm;subst hw2;go_wp2_with fail;refine HF.out.mono ?_;rintro e w2⟨rfl,hb2⟩;have B2:=hid hb2;clear hb2 cx;have HM2:=hid (gu (HQ0.out.later B2.out));go_wp2_with fail;refine HM2.out.mono ?_;rintro e w2' ⟨rfl,hw1⟩;have hw2:=hw1.symm;subst hw2;exact⟨rfl,HK0.out.trans (KR.later B2.out),rfl⟩
theorem OQ{B base R A n c:Nat}{mp:Value}{m:MM}{ln pt:Int}{w:World}{ws:List ByteArray}(h:RQ base R mp m ln pt w)(hw:Wds w A n c ws)(hA:base≤A)(hE:cw B w)(hBR:B≤R)(hps:psz (pl m)≤2097152)(hc:c=n)(hn0:1≤n)(hne:m.fns≠[])(h1:6≤pt∧pt≤6)(h3:(bC (wdx ws 0)).2=true)(h4:(ofV (bC (wdx ws 0)).1).1.2.2.1=0)(h5:n=1) :
  Calls Tryz.prog 119 #[.pointer (some ⟨R,0,none⟩),.slice (some ⟨A,0,none⟩) n c] w (LnP base R mp ln w (cO pt (pl m) ws)):=by
 have hc':=hc.symm;subst hc';obtain⟨i0,hi,hz0,hz1,hz2⟩:=info_parts oX;obtain⟨x,hx⟩:∃x,ws[0]? =some x:=⟨_,aO aY⟩;have ex:wdx ws 0=x:=bZ
 have e:cO pt (pl m) ws=some (6,{ pl m with fns:=su (pl m).fns ((bC (wdx ws 0)).1,0,[]) }):=by
  unfold cO;rw[if_pos ⟨h1,h3⟩]
  have ep:jP (bC (wdx ws 0)).1 ws=some ((bC (wdx ws 0)).1,0,[]):=by
   unfold jP
   rw[if_pos h4,if_pos (by rw[hw.len]; exact h5)]
  rw[ep];rfl
 rw[e];have HO:=hid (bL h 6 6 h1.1 h1.2);have q1:=h.part 6 ae;have d1:=hw.setR (o:=10) (u:=.int .i64 6) hA h.low;have k1:=KR.set base R 10 w (.int .i64 6);have e1:=hE.later (k1.below hBR bM hE.bw);generalize w.setCell ⟨R,10,none⟩ (.int .i64 6)=w1 at *;have HQ0:=hid q1;have HD0:=hid d1;have HK0:=hid k1;have HE0:=hid e1;have sx:=hw.sz x (List.mem_of_getElem? hx);have cx:w1.cell? ⟨A,0,none⟩=some (.string x):=kx;have HF:=hid (kr x w1 e1.kinds);rw[ex]at h3 h4;have hor:=dG x h3;have ho0:=hor.1;have ho1:=hor.2;rw[h3]at HF;generalize hop:(bC x).1=op at *;obtain⟨rc,wd,tk,pp,ps,pl2,hrow⟩:∃rc wd tk pp ps pl2,(ofV op).1=(rc,wd,tk,pp,ps,pl2):=⟨_,_,_,_,_,_,rfl⟩;rw[hrow]at h4;dsimp only at h4;subst h4;subst h5;obtain⟨init,ft,flo,ca,cn,cc,code,fb,hfns,hfa,hfn⟩:=qM q1 hne
 have hcn:cn≤2097152:=by
  exact vh
 have hin:init.length≤2097152:=by
  exact qG
 have HFN:=hid hfns;have HFA:=hid hfa;have HFL:=hid hfn;clear h hw hE h1 q1 d1 k1 e1 e hx
 go_enter Tryz.func119,Tryz.ntmps119
 go_wp2_with fail;refine HO.out.mono ?_;rintro e w1' ⟨rfl,hw1⟩;have hw2:=hw1.symm;subst hw2;go_wp2_with fail;refine HF.out.mono ?_;rintro e w2⟨rfl,hb2⟩;have B2:=hid hb2;clear hb2 cx;have HM2:=hid (aH R w2);have HOf:=hid (of6 op w2 ((HE0.out.later (B2.out.mono HE0.out.bw)).kinds) ho0 ho1);rw[hrow]at HOf;unfold rv mS at HOf;go_wp2_with fail;refine HM2.out.mono ?_;rintro e w2' ⟨rfl,hw1⟩;have hw2:=hw1.symm;subst hw2;go_wp2_with fail;refine HOf.out.mono ?_;rintro e w3⟨rfl,hb3⟩;have B3:=hid (B2.out.trans (hb3.mono B2.out.size));clear hb3 HOf;have B4:=hid (B3.out.trans ((ag w3 (br rc wd 0 pp ps pl2)).mono B3.out.size));have B5:=hid (B4.out.trans ((ag (w3.alloc (br rc wd 0 pp ps pl2)) (aF op 0 none 0 0)).mono B4.out.size));have HX5:=hid (heap_alloc_new (w3.alloc (br rc wd 0 pp ps pl2)) (aF op 0 none 0 0));have hXs:(w3.alloc (br rc wd 0 pp ps pl2)).heap.size=w3.heap.size+1:=ar;rw[hXs]at HX5;have HM5:=hid (aH R ((w3.alloc (br rc wd 0 pp ps pl2)).alloc (aF op 0 none 0 0)));go_wp2_with fail;refine HM5.out.mono ?_;rintro e w5' ⟨rfl,hw1⟩;have hw2:=hw1.symm;subst hw2;clear HM5;go_wp2_with fail;generalize (w3.alloc (br rc wd 0 pp ps pl2)).alloc (aF op 0 none 0 0)=w9 at *;generalize w3.heap.size+1=X at *;have BX:=B5;have HBX:=HX5;have YR:=hid (World.ownsRow_nil w9 base 3 1);have Q9:=hid (HQ0.out.later BX.out);obtain⟨k,hik⟩:∃k,init.length=k:=⟨_,rfl⟩;have HIK:=hid hik;have hk7:k≤2097152:=ae
 have c6:w9.drew.cell? ⟨R,6,none⟩=some (.slice (some ⟨fb,0,none⟩) (k+1) m.fc):=by have:=Q9.out.cells 6; rw[show(kC mp m ln 6)[6]? =some (.slice m.fa m.fn m.fc) from rfl,HFA.out,HFL.out,hik]at this; exact this
 have hlm:((ft,flo,(ca,cn,cc),code):FuM)∈m.fns:=vE
 have HCO:=hid (fun(W:World) (hW:Below w9.heap.size w9 W)=>((Q9.out.later hW).fo _ hlm).code)
 have HRF:=hid (fun(W:World) (hW:Below w9.heap.size w9 W)=>(by have:=(Q9.out.later hW).rf; rw[HFA.out,HFL.out,hik]at this; exact this:W.ownsRow base 78 3 (.slice (some ⟨fb,0,none⟩) (k+1) m.fc) (k+1) (m.fns.flatMap dR)))
 have hgl:m.fns[k]? =some ((ft,flo,(ca,cn,cc),code):FuM):=lT;have hll:m.fns.length=k+1:=lT
 have HCD:=hid (fun(W:World) (hW:Below w9.heap.size w9 W)=>lK (k:=3) dR (fun _=>rfl) (HRF.out W hW) hll hgl 2 ae)
 have HZC:=hid (fun(W:World)(hW:Below w9.heap.size w9 W)(W':World) (hg:W.grownBy W' (Value.slice ca cn cc).ownBlock)=>(by have h1:=bF (HRF.out W hW) (HCO.out W hW) hg aj; exact⟨lK (k:=3) dR (fun _=>rfl) h1 hll hgl 2 ae,h1.frozenAt _⟩:W'.cell? ⟨fb,k*3+2,none⟩=some (.slice ca cn cc)∧W'.frozen? ⟨fb,k*3+2,none⟩=false))
 have BW:=hid ((Below.refl w9.heap.size w9).drew);have hkl:(k:Int)<(k:Int)+1:=ae;have hwk:IntKind.i64.wrap (k:Int)=(k:Int):=IntWalk.i64_in _ ae;clear hlm hgl hll hik
 refine wp_region_held_drew (S:=fun W=>W.cell? ⟨R,6,none⟩=some (.slice (some ⟨fb,0,none⟩) (k+1) m.fc)) ai c6 (fun hSw=>?_)
 generalize w9.drew=wd at *;refine tkD (i:=0) (d:=some 56) rfl ?_ (hS:=aL);(try simp only[Act.put,sIB,sC0,sCs]);refine tkD (i:=1) (d:=some 57) rfl ?_ (hS:=aL);(try simp only[Act.put,sIB,sC0,sCs]);refine tkD (i:=2) (d:=some 58) rfl ?_ (hS:=aL);(try simp only[Act.put,sIB,sC0,sCs]);refine tkD (i:=3) (d:=some 59) rfl ?_ (hS:=aL);(try simp only[Act.put,sIB,sC0,sCs]);refine tkD (i:=4) (d:=some 60) rfl ?_ (hS:=aL);(try simp only[Act.put,sIB,sC0,sCs]);refine tkD (i:=5) (d:=some 61) rfl ?_ (hS:=aL);(try simp only[Act.put,sIB,sC0,sCs]);refine tkD (i:=6) (d:=some 62) rfl ?_ (hS:=aL);(try simp only[Act.put,sIB,sC0,sCs]);refine tkD (i:=7) (d:=some 63) rfl ?_ (hS:=aL);(try simp only[Act.put,sIB,sC0,sCs]);refine tkD (i:=8) (d:=some 64) rfl ?_ (hS:=aL);(try simp only[Act.put,sIB,sC0,sCs]);refine tkD (i:=9) (d:=some 65) rfl ?_ (hS:=aL);(try simp only[Act.put,sIB,sC0,sCs]);refine tkD (i:=10) (d:=some 66) rfl ?_ (hS:=aL);(try simp only[Act.put,sIB,sC0,sCs]);refine tkD (i:=11) (d:=some 67) rfl ?_ (hS:=aL);(try simp only[Act.put,sIB,sC0,sCs]);refine tkD (i:=12) (d:=some 68) rfl ?_ (hS:=aL);(try simp only[Act.put,sIB,sC0,sCs]);refine tkD (i:=13) (d:=some 9) rfl ?_ (hS:=aL);(try simp only[Act.put,sIB,sC0,sCs]);refine wpAnyH_done ai ?_ _;go_wp2_with fail;have BV:=hid (BW.out.trans (((Below.refl wd.heap.size wd).drew).mono BW.out.size))
 refine wp_region_held_drew (S:=fun _=>True) ai trivial (fun _=>?_)
 generalize wd.drew=wv at *;refine tkD (i:=0) (d:=some 69) rfl ?_;(try simp only[Act.put,sIB,sC0,sCs]);refine tkD (i:=1) (d:=some 70) rfl ?_;(try simp only[Act.put,sIB,sC0,sCs]);refine tkD (i:=2) (d:=some 71) rfl ?_;(try simp only[Act.put,sIB,sC0,sCs]);refine tkD (i:=3) (d:=some 72) rfl ?_;(try simp only[Act.put,sIB,sC0,sCs]);refine ryQ (rs:=[4,5]) ?_
 refine rcQ (i:=4) rfl (fun K hK=>?_) (rcQ (i:=5) rfl (fun K hK=>?_) rN)
 ·have c4:wv.cell? ⟨fb,k*3+2,none⟩=some (.slice ca cn cc):=HCD.out _ BV.out;go_simp
  refine hK.out _ _ trivial (fun _=>?_)
  clear hK K;refine ryQ (rs:=[5]) ?_
  refine rcQ (i:=5) rfl (fun K hK=>?_) rN
  have y0:wv.cell? ⟨X,0,none⟩=some (.int .u8 op):=ak (au BV.out HBX.out);have y1:wv.cell? ⟨X,1,none⟩=some (.int .i64 0):=ak (au BV.out HBX.out);have y2:wv.cell? ⟨X,2,none⟩=some (.slice none 0 0):=ak (au BV.out HBX.out);exact Hm
 ·have y0:wv.cell? ⟨X,0,none⟩=some (.int .u8 op):=ak (au BV.out HBX.out);have y1:wv.cell? ⟨X,1,none⟩=some (.int .i64 0):=ak (au BV.out HBX.out);have y2:wv.cell? ⟨X,2,none⟩=some (.slice none 0 0):=ak (au BV.out HBX.out);go_simp
  refine hK.out _ _ trivial (fun _=>?_)
  clear hK K;refine ryQ (rs:=[4,6]) ?_
  refine rcQ (i:=4) rfl (fun K hK=>?_) (rcQ (i:=6) rfl (fun K hK=>?_) rN)
  ·have c4:wv.cell? ⟨fb,k*3+2,none⟩=some (.slice ca cn cc):=HCD.out _ BV.out;exact Hm
  ·go_simp;have BN:=hid (BV.out.trans ((ag wv (aF op 0 none 0 0)).mono BV.out.size))
   refine hK.out _ _ trivial (fun _=>?_)
   clear hK K;refine ryQ (rs:=[4]) ?_
   refine rcQ (i:=4) rfl (fun K hK=>?_) rN
   have c4:(wv.alloc (aF op 0 none 0 0)).cell? ⟨fb,k*3+2,none⟩=some (.slice ca cn cc):=HCD.out _ BN.out;go_simp
   refine hK.out _ _ trivial (fun _=>?_)
   clear hK K;refine ryQ (rs:=[7]) ?_
   refine rcQ (i:=7) rfl (fun K hK=>?_) rN
   refine wp_append_lies _ (.tmp 73) (.tmp 75) 76 rfl base 75 i0 (.agg #[.int .u8 0,.int .i64 0,.slice none 0 0]) 3 40 Tryz.underlying76 hi hz0 hz1 hz2 rfl aj (.slice ca cn cc) cn (code.flatMap eQ) rfl (HCO.out _ BN.out) ⟨wv.heap.size,0,none⟩ 1 1 (eQ ((op,0,(none,0,0),[]):InM)) rfl rfl ?n1 ?n2 aj bV ae (Q9.out.later BN.out).bw _ rfl ?_
   case n1 =>
    exact uZ
   case n2=>intro u hu; simp[eQ]at hu; rcases hu with rfl | rfl | rfl <;> rfl
   intro g cap w6 ho6 hg6 hgb6 _;have PX:=hid (Q9.out.pushI BN.out HFN.out HFA.out ((op,0,(none,0,0),[]):InM) YR.out ho6 hg6 hgb6);exact wE
theorem PV{B base R A n c:Nat}{mp:Value}{m:MM}{ln pt:Int}{w:World}{ws:List ByteArray}(h:RQ base R mp m ln pt w)(hw:Wds w A n c ws)(hA:base≤A)(hE:cw B w)(hBR:B≤R)(hps:psz (pl m)≤2097152)(hc:c=n)(hn0:1≤n)(hne:m.fns≠[])(h1:6≤pt∧pt≤6)(h3:(bC (wdx ws 0)).2=true)(h4:(ofV (bC (wdx ws 0)).1).1.2.2.1=0)(h5:n≠1) :
  Calls Tryz.prog 119 #[.pointer (some ⟨R,0,none⟩),.slice (some ⟨A,0,none⟩) n c] w (LnP base R mp ln w (cO pt (pl m) ws)):=by
 have hc':=hc.symm;subst hc';obtain⟨i0,hi,hz0,hz1,hz2⟩:=info_parts oX;obtain⟨x,hx⟩:∃x,ws[0]? =some x:=⟨_,aO aY⟩;have ex:wdx ws 0=x:=bZ
 have e:cO pt (pl m) ws=none:=by
  unfold cO;rw[if_pos ⟨h1,h3⟩]
  have ep:jP (bC (wdx ws 0)).1 ws=none:=by
   unfold jP
   rw[if_pos h4,if_neg (by rw[hw.len]; exact h5)]
  rw[ep];rfl
 rw[e];have HO:=hid (bL h 6 6 h1.1 h1.2);have q1:=h.part 6 ae;have d1:=hw.setR (o:=10) (u:=.int .i64 6) hA h.low;have k1:=KR.set base R 10 w (.int .i64 6);have e1:=hE.later (k1.below hBR bM hE.bw);generalize w.setCell ⟨R,10,none⟩ (.int .i64 6)=w1 at *;have HQ0:=hid q1;have HD0:=hid d1;have HK0:=hid k1;have HE0:=hid e1;have sx:=hw.sz x (List.mem_of_getElem? hx);have cx:w1.cell? ⟨A,0,none⟩=some (.string x):=kx;have HF:=hid (kr x w1 e1.kinds);rw[ex]at h3 h4;have hor:=dG x h3;have ho0:=hor.1;have ho1:=hor.2;rw[h3]at HF;generalize hop:(bC x).1=op at *;obtain⟨rc,wd,tk,pp,ps,pl2,hrow⟩:∃rc wd tk pp ps pl2,(ofV op).1=(rc,wd,tk,pp,ps,pl2):=⟨_,_,_,_,_,_,rfl⟩;rw[hrow]at h4;dsimp only at h4;subst h4;have hl1:((n:Int)==1)=false:=aI;clear h hw hE h1 q1 d1 k1 e1 e hx
 go_enter Tryz.func119,Tryz.ntmps119
 go_wp2_with fail;refine HO.out.mono ?_;rintro e w1' ⟨rfl,hw1⟩;have hw2:=hw1.symm;subst hw2;go_wp2_with fail;refine HF.out.mono ?_;rintro e w2⟨rfl,hb2⟩;have B2:=hid hb2;clear hb2 cx;have HM2:=hid (aH R w2);have HOf:=hid (of6 op w2 ((HE0.out.later (B2.out.mono HE0.out.bw)).kinds) ho0 ho1);rw[hrow]at HOf;unfold rv mS at HOf;go_wp2_with fail;refine HM2.out.mono ?_;rintro e w2' ⟨rfl,hw1⟩;have hw2:=hw1.symm;subst hw2;go_wp2_with fail;refine HOf.out.mono ?_;rintro e w3⟨rfl,hb3⟩;have B3:=hid (B2.out.trans (hb3.mono B2.out.size));clear hb3 HOf;have B4:=hid (B3.out.trans ((ag w3 (br rc wd 0 pp ps pl2)).mono B3.out.size));have B5:=hid (B4.out.trans ((ag (w3.alloc (br rc wd 0 pp ps pl2)) (aF op 0 none 0 0)).mono B4.out.size));have HX5:=hid (heap_alloc_new (w3.alloc (br rc wd 0 pp ps pl2)) (aF op 0 none 0 0));have hXs:(w3.alloc (br rc wd 0 pp ps pl2)).heap.size=w3.heap.size+1:=ar;exact Ku
theorem Nl{B base R A n c:Nat}{mp:Value}{m:MM}{ln pt:Int}{w:World}{ws:List ByteArray}(h:RQ base R mp m ln pt w)(hw:Wds w A n c ws)(hA:base≤A)(hE:cw B w)(hBR:B≤R)(hps:psz (pl m)≤2097152)(hc:c=n)(hn0:1≤n)(hne:m.fns≠[])(h1:6≤pt∧pt≤6)(h3:(bC (wdx ws 0)).2=true)(h4:¬(ofV (bC (wdx ws 0)).1).1.2.2.1=0)(h5:¬(ofV (bC (wdx ws 0)).1).1.2.2.1=3)(h6:n≠2) :
  Calls Tryz.prog 119 #[.pointer (some ⟨R,0,none⟩),.slice (some ⟨A,0,none⟩) n c] w (LnP base R mp ln w (cO pt (pl m) ws)):=by
 have hc':=hc.symm;subst hc';obtain⟨i0,hi,hz0,hz1,hz2⟩:=info_parts oX;obtain⟨x,hx⟩:∃x,ws[0]? =some x:=⟨_,aO aY⟩;have ex:wdx ws 0=x:=bZ
 have e:cO pt (pl m) ws=none:=by
  unfold cO;rw[if_pos ⟨h1,h3⟩]
  have ep:jP (bC (wdx ws 0)).1 ws=none:=by
   unfold jP
   rw[if_neg h4,if_neg h5,if_neg (by rw[hw.len]; exact h6)]
  rw[ep];rfl
 rw[e];have HO:=hid (bL h 6 6 h1.1 h1.2);have q1:=h.part 6 ae;have d1:=hw.setR (o:=10) (u:=.int .i64 6) hA h.low;have k1:=KR.set base R 10 w (.int .i64 6);have e1:=hE.later (k1.below hBR bM hE.bw);generalize w.setCell ⟨R,10,none⟩ (.int .i64 6)=w1 at *;have HQ0:=hid q1;have HD0:=hid d1;have HK0:=hid k1;have HE0:=hid e1;have sx:=hw.sz x (List.mem_of_getElem? hx);have cx:w1.cell? ⟨A,0,none⟩=some (.string x):=kx;have HF:=hid (kr x w1 e1.kinds);rw[ex]at h3 h4 h5;have hor:=dG x h3;have ho0:=hor.1;have ho1:=hor.2;rw[h3]at HF;generalize hop:(bC x).1=op at *;obtain⟨rc,wd,tk,pp,ps,pl2,hrow⟩:∃rc wd tk pp ps pl2,(ofV op).1=(rc,wd,tk,pp,ps,pl2):=⟨_,_,_,_,_,_,rfl⟩;rw[hrow]at h4 h5;dsimp only at h4 h5;have ht0:(tk==0)=false:=vM;have ht3:(tk==3)=false:=qX;have hl1:((n:Int)==2)=false:=aI;clear h4 h5;clear h hw hE h1 q1 d1 k1 e1 e hx
 go_enter Tryz.func119,Tryz.ntmps119
 go_wp2_with fail;refine HO.out.mono ?_;rintro e w1' ⟨rfl,hw1⟩;have hw2:=hw1.symm;subst hw2;go_wp2_with fail;refine HF.out.mono ?_;rintro e w2⟨rfl,hb2⟩;have B2:=hid hb2;clear hb2 cx;have HM2:=hid (aH R w2);have HOf:=hid (of6 op w2 ((HE0.out.later (B2.out.mono HE0.out.bw)).kinds) ho0 ho1);rw[hrow]at HOf;unfold rv mS at HOf;go_wp2_with fail;refine HM2.out.mono ?_;rintro e w2' ⟨rfl,hw1⟩;have hw2:=hw1.symm;subst hw2;go_wp2_with fail;refine HOf.out.mono ?_;rintro e w3⟨rfl,hb3⟩;have B3:=hid (B2.out.trans (hb3.mono B2.out.size));clear hb3 HOf;have B4:=hid (B3.out.trans ((ag w3 (br rc wd tk pp ps pl2)).mono B3.out.size));have B5:=hid (B4.out.trans ((ag (w3.alloc (br rc wd tk pp ps pl2)) (aF op 0 none 0 0)).mono B4.out.size));have HX5:=hid (heap_alloc_new (w3.alloc (br rc wd tk pp ps pl2)) (aF op 0 none 0 0));have hXs:(w3.alloc (br rc wd tk pp ps pl2)).heap.size=w3.heap.size+1:=ar;exact Ku
theorem MS{B base R A n c:Nat}{mp:Value}{m:MM}{ln pt:Int}{w:World}{ws:List ByteArray}(h:RQ base R mp m ln pt w)(hw:Wds w A n c ws)(hA:base≤A)(hE:cw B w)(hBR:B≤R)(hps:psz (pl m)≤2097152)(hc:c=n)(hn0:1≤n)(hne:m.fns≠[])(h1:6≤pt∧pt≤6)(h3:(bC (wdx ws 0)).2=true)(h4:¬(ofV (bC (wdx ws 0)).1).1.2.2.1=0)(h5:¬(ofV (bC (wdx ws 0)).1).1.2.2.1=3)(h6:n=2)(h7:nmV (wdx ws 1)=none) :
  Calls Tryz.prog 119 #[.pointer (some ⟨R,0,none⟩),.slice (some ⟨A,0,none⟩) n c] w (LnP base R mp ln w (cO pt (pl m) ws)):=by
 have hc':=hc.symm;subst hc';obtain⟨i0,hi,hz0,hz1,hz2⟩:=info_parts oX;obtain⟨x,hx⟩:∃x,ws[0]? =some x:=⟨_,aO aY⟩;have ex:wdx ws 0=x:=bZ;obtain⟨y,hy⟩:∃y,ws[1]? =some y:=⟨_,aO aY⟩;have ey:wdx ws 1=y:=di
 have e:cO pt (pl m) ws=none:=by
  unfold cO;rw[if_pos ⟨h1,h3⟩]
  have ep:jP (bC (wdx ws 0)).1 ws=none:=by
   exact Dh
  rw[ep];rfl
 rw[e];have HO:=hid (bL h 6 6 h1.1 h1.2);have q1:=h.part 6 ae;have d1:=hw.setR (o:=10) (u:=.int .i64 6) hA h.low;have k1:=KR.set base R 10 w (.int .i64 6);have e1:=hE.later (k1.below hBR bM hE.bw);generalize w.setCell ⟨R,10,none⟩ (.int .i64 6)=w1 at *;have HQ0:=hid q1;have HD0:=hid d1;have HK0:=hid k1;have HE0:=hid e1;have sx:=hw.sz x (List.mem_of_getElem? hx);have cx:w1.cell? ⟨A,0,none⟩=some (.string x):=kx;have HF:=hid (kr x w1 e1.kinds);rw[ex]at h3 h4 h5;have hor:=dG x h3;have ho0:=hor.1;have ho1:=hor.2;rw[h3]at HF;generalize hop:(bC x).1=op at *;obtain⟨rc,wd,tk,pp,ps,pl2,hrow⟩:∃rc wd tk pp ps pl2,(ofV op).1=(rc,wd,tk,pp,ps,pl2):=⟨_,_,_,_,_,_,rfl⟩;rw[hrow]at h4 h5;dsimp only at h4 h5;have ht0:(tk==0)=false:=vM;have ht3:(tk==3)=false:=qX;have sy:=hw.sz y (List.mem_of_getElem? hy)
 have HWy:=hid (fun(W:World) (hW:Below w1.heap.size w1 W)=>(by have:=(d1.later hW).at_ 1 y hy; simpa using this:W.cell? ⟨A,1,none⟩=some (.string y)))
 rw[ey]at h7;subst h6
 have HI1:=hid (fun(W:World) (hW:Below w1.heap.size w1 W)=>wC B R y ln W (e1.tens.later (hW.mono e1.bw)) (e1.errs.later (hW.mono e1.bw)) (Nat.le_trans e1.bw hW.size) ae ((q1.later hW).cells 9) h7)
 clear h4 h5 h7 hy;clear h hw hE h1 q1 d1 k1 e1 e hx
 go_enter Tryz.func119,Tryz.ntmps119
 go_wp2_with fail;refine HO.out.mono ?_;rintro e w1' ⟨rfl,hw1⟩;have hw2:=hw1.symm;subst hw2;go_wp2_with fail;refine HF.out.mono ?_;rintro e w2⟨rfl,hb2⟩;have B2:=hid hb2;clear hb2 cx;have HM2:=hid (aH R w2);have HOf:=hid (of6 op w2 ((HE0.out.later (B2.out.mono HE0.out.bw)).kinds) ho0 ho1);rw[hrow]at HOf;unfold rv mS at HOf;go_wp2_with fail;refine HM2.out.mono ?_;rintro e w2' ⟨rfl,hw1⟩;have hw2:=hw1.symm;subst hw2;go_wp2_with fail;refine HOf.out.mono ?_;rintro e w3⟨rfl,hb3⟩;have B3:=hid (B2.out.trans (hb3.mono B2.out.size));clear hb3 HOf;have B4:=hid (B3.out.trans ((ag w3 (br rc wd tk pp ps pl2)).mono B3.out.size));have B5:=hid (B4.out.trans ((ag (w3.alloc (br rc wd tk pp ps pl2)) (aF op 0 none 0 0)).mono B4.out.size));have HX5:=hid (heap_alloc_new (w3.alloc (br rc wd tk pp ps pl2)) (aF op 0 none 0 0));have hXs:(w3.alloc (br rc wd tk pp ps pl2)).heap.size=w3.heap.size+1:=ar;rw[hXs]at HX5;have HM5:=hid (aH R ((w3.alloc (br rc wd tk pp ps pl2)).alloc (aF op 0 none 0 0)));have cy5:((w3.alloc (br rc wd tk pp ps pl2)).alloc (aF op 0 none 0 0)).cell? ⟨A,1,none⟩=some (.string y):=HWy.out _ B5.out;go_wp2_with fail;refine HM5.out.mono ?_;rintro e w5' ⟨rfl,hw1⟩;have hw2:=hw1.symm;subst hw2;clear HM5;exact Hv
theorem Qu{B base R A n c:Nat}{mp:Value}{m:MM}{ln pt:Int}{w:World}{ws:List ByteArray}(h:RQ base R mp m ln pt w)(hw:Wds w A n c ws)(hA:base≤A)(hE:cw B w)(hBR:B≤R)(hps:psz (pl m)≤2097152)(hc:c=n)(hn0:1≤n)(hne:m.fns≠[])(h1:6≤pt∧pt≤6)(h3:(bC (wdx ws 0)).2=true)(h4:¬(ofV (bC (wdx ws 0)).1).1.2.2.1=0)(h5:¬(ofV (bC (wdx ws 0)).1).1.2.2.1=3)(h6:n=2){a:Int}(h7:nmV (wdx ws 1)=some a) :
  Calls Tryz.prog 119 #[.pointer (some ⟨R,0,none⟩),.slice (some ⟨A,0,none⟩) n c] w (LnP base R mp ln w (cO pt (pl m) ws)):=by
 have hc':=hc.symm;subst hc';obtain⟨i0,hi,hz0,hz1,hz2⟩:=info_parts oX;obtain⟨x,hx⟩:∃x,ws[0]? =some x:=⟨_,aO aY⟩;have ex:wdx ws 0=x:=bZ;obtain⟨y,hy⟩:∃y,ws[1]? =some y:=⟨_,aO aY⟩;have ey:wdx ws 1=y:=di
 have e:cO pt (pl m) ws=some (6,{ pl m with fns:=su (pl m).fns ((bC (wdx ws 0)).1,a,[]) }):=by
  unfold cO;rw[if_pos ⟨h1,h3⟩]
  have ep:jP (bC (wdx ws 0)).1 ws=some ((bC (wdx ws 0)).1,a,[]):=by
   exact Dh
  rw[ep];rfl
 rw[e];have HO:=hid (bL h 6 6 h1.1 h1.2);have q1:=h.part 6 ae;have d1:=hw.setR (o:=10) (u:=.int .i64 6) hA h.low;have k1:=KR.set base R 10 w (.int .i64 6);have e1:=hE.later (k1.below hBR bM hE.bw);generalize w.setCell ⟨R,10,none⟩ (.int .i64 6)=w1 at *;have HQ0:=hid q1;have HD0:=hid d1;have HK0:=hid k1;have HE0:=hid e1;have sx:=hw.sz x (List.mem_of_getElem? hx);have cx:w1.cell? ⟨A,0,none⟩=some (.string x):=kx;have HF:=hid (kr x w1 e1.kinds);rw[ex]at h3 h4 h5;have hor:=dG x h3;have ho0:=hor.1;have ho1:=hor.2;rw[h3]at HF;generalize hop:(bC x).1=op at *;obtain⟨rc,wd,tk,pp,ps,pl2,hrow⟩:∃rc wd tk pp ps pl2,(ofV op).1=(rc,wd,tk,pp,ps,pl2):=⟨_,_,_,_,_,_,rfl⟩;rw[hrow]at h4 h5;dsimp only at h4 h5;have ht0:(tk==0)=false:=vM;have ht3:(tk==3)=false:=qX;have sy:=hw.sz y (List.mem_of_getElem? hy)
 have HWy:=hid (fun(W:World) (hW:Below w1.heap.size w1 W)=>(by have:=(d1.later hW).at_ 1 y hy; simpa using this:W.cell? ⟨A,1,none⟩=some (.string y)))
 rw[ey]at h7;subst h6
 have HI1:=hid (fun(W:World) (hW:Below w1.heap.size w1 W)=>jq B R y a W (e1.tens.later (hW.mono e1.bw)) (Nat.le_trans e1.bw hW.size) ae h7)
 obtain⟨init,ft,flo,ca,cn,cc,code,fb,hfns,hfa,hfn⟩:=qM q1 hne
 have hcn:cn≤2097152:=by
  exact vh
 have hin:init.length≤2097152:=by
  exact qG
 have HFN:=hid hfns;have HFA:=hid hfa;have HFL:=hid hfn;clear h4 h5 h7 hy;clear h hw hE h1 q1 d1 k1 e1 e hx
 go_enter Tryz.func119,Tryz.ntmps119
 go_wp2_with fail;refine HO.out.mono ?_;rintro e w1' ⟨rfl,hw1⟩;have hw2:=hw1.symm;subst hw2;go_wp2_with fail;refine HF.out.mono ?_;rintro e w2⟨rfl,hb2⟩;have B2:=hid hb2;clear hb2 cx;have HM2:=hid (aH R w2);have HOf:=hid (of6 op w2 ((HE0.out.later (B2.out.mono HE0.out.bw)).kinds) ho0 ho1);rw[hrow]at HOf;unfold rv mS at HOf;go_wp2_with fail;refine HM2.out.mono ?_;rintro e w2' ⟨rfl,hw1⟩;have hw2:=hw1.symm;subst hw2;go_wp2_with fail;refine HOf.out.mono ?_;rintro e w3⟨rfl,hb3⟩;have B3:=hid (B2.out.trans (hb3.mono B2.out.size));clear hb3 HOf;have B4:=hid (B3.out.trans ((ag w3 (br rc wd tk pp ps pl2)).mono B3.out.size));have B5:=hid (B4.out.trans ((ag (w3.alloc (br rc wd tk pp ps pl2)) (aF op 0 none 0 0)).mono B4.out.size));have HX5:=hid (heap_alloc_new (w3.alloc (br rc wd tk pp ps pl2)) (aF op 0 none 0 0));have hXs:(w3.alloc (br rc wd tk pp ps pl2)).heap.size=w3.heap.size+1:=ar;rw[hXs]at HX5;have HM5:=hid (aH R ((w3.alloc (br rc wd tk pp ps pl2)).alloc (aF op 0 none 0 0)));have cy5:((w3.alloc (br rc wd tk pp ps pl2)).alloc (aF op 0 none 0 0)).cell? ⟨A,1,none⟩=some (.string y):=HWy.out _ B5.out;go_wp2_with fail;refine HM5.out.mono ?_;rintro e w5' ⟨rfl,hw1⟩;have hw2:=hw1.symm;subst hw2;clear HM5;go_wp2_with fail;refine(HI1.out _ B5.out).mono ?_;rintro e w7⟨rfl,hb7⟩;have hX7:=au hb7 HX5.out;have B7:=hid (B5.out.trans (hb7.mono B5.out.size));have c71:w7.cell? ⟨w3.heap.size+1,1,none⟩=some (.int .i64 0):=ak hX7;have f71:w7.frozen? ⟨w3.heap.size+1,1,none⟩=false:=free_at hX7;have kS:=aw w7 (w3.heap.size+1) 1 (.int .i64 a)
 have HBX:=hid (show(w7.setCell ⟨w3.heap.size+1,1,none⟩ (.int .i64 a)).heap[w3.heap.size+1]? =some (aF op a none 0 0) by rw[bS hX7]; rfl)
 have BX:=hid (B7.out.trans (kS.to_below B7.out.size (fun k _ hk=>vd)))
 clear hb7 hX7 kS;go_wp2_with fail;generalize w7.setCell ⟨w3.heap.size+1,1,none⟩ (.int .i64 a)=w9 at *;generalize w3.heap.size+1=X at *;have YR:=hid (World.ownsRow_nil w9 base 3 1);have Q9:=hid (HQ0.out.later BX.out);obtain⟨k,hik⟩:∃k,init.length=k:=⟨_,rfl⟩;have HIK:=hid hik;have hk7:k≤2097152:=ae
 have c6:w9.drew.cell? ⟨R,6,none⟩=some (.slice (some ⟨fb,0,none⟩) (k+1) m.fc):=by have:=Q9.out.cells 6; rw[show(kC mp m ln 6)[6]? =some (.slice m.fa m.fn m.fc) from rfl,HFA.out,HFL.out,hik]at this; exact this
 have hlm:((ft,flo,(ca,cn,cc),code):FuM)∈m.fns:=vE
 have HCO:=hid (fun(W:World) (hW:Below w9.heap.size w9 W)=>((Q9.out.later hW).fo _ hlm).code)
 have HRF:=hid (fun(W:World) (hW:Below w9.heap.size w9 W)=>(by have:=(Q9.out.later hW).rf; rw[HFA.out,HFL.out,hik]at this; exact this:W.ownsRow base 78 3 (.slice (some ⟨fb,0,none⟩) (k+1) m.fc) (k+1) (m.fns.flatMap dR)))
 have hgl:m.fns[k]? =some ((ft,flo,(ca,cn,cc),code):FuM):=lT;have hll:m.fns.length=k+1:=lT
 have HCD:=hid (fun(W:World) (hW:Below w9.heap.size w9 W)=>lK (k:=3) dR (fun _=>rfl) (HRF.out W hW) hll hgl 2 ae)
 have HZC:=hid (fun(W:World)(hW:Below w9.heap.size w9 W)(W':World) (hg:W.grownBy W' (Value.slice ca cn cc).ownBlock)=>(by have h1:=bF (HRF.out W hW) (HCO.out W hW) hg aj; exact⟨lK (k:=3) dR (fun _=>rfl) h1 hll hgl 2 ae,h1.frozenAt _⟩:W'.cell? ⟨fb,k*3+2,none⟩=some (.slice ca cn cc)∧W'.frozen? ⟨fb,k*3+2,none⟩=false))
 have BW:=hid ((Below.refl w9.heap.size w9).drew);have hkl:(k:Int)<(k:Int)+1:=ae;have hwk:IntKind.i64.wrap (k:Int)=(k:Int):=IntWalk.i64_in _ ae;clear hlm hgl hll hik
 refine wp_region_held_drew (S:=fun W=>W.cell? ⟨R,6,none⟩=some (.slice (some ⟨fb,0,none⟩) (k+1) m.fc)) ai c6 (fun hSw=>?_)
 generalize w9.drew=wd at *;refine tkD (i:=0) (d:=some 56) rfl ?_ (hS:=aL);(try simp only[Act.put,sIB,sC0,sCs]);refine tkD (i:=1) (d:=some 57) rfl ?_ (hS:=aL);(try simp only[Act.put,sIB,sC0,sCs]);refine tkD (i:=2) (d:=some 58) rfl ?_ (hS:=aL);(try simp only[Act.put,sIB,sC0,sCs]);refine tkD (i:=3) (d:=some 59) rfl ?_ (hS:=aL);(try simp only[Act.put,sIB,sC0,sCs]);refine tkD (i:=4) (d:=some 60) rfl ?_ (hS:=aL);(try simp only[Act.put,sIB,sC0,sCs]);refine tkD (i:=5) (d:=some 61) rfl ?_ (hS:=aL);(try simp only[Act.put,sIB,sC0,sCs]);refine tkD (i:=6) (d:=some 62) rfl ?_ (hS:=aL);(try simp only[Act.put,sIB,sC0,sCs]);refine tkD (i:=7) (d:=some 63) rfl ?_ (hS:=aL);(try simp only[Act.put,sIB,sC0,sCs]);refine tkD (i:=8) (d:=some 64) rfl ?_ (hS:=aL);(try simp only[Act.put,sIB,sC0,sCs]);refine tkD (i:=9) (d:=some 65) rfl ?_ (hS:=aL);(try simp only[Act.put,sIB,sC0,sCs]);refine tkD (i:=10) (d:=some 66) rfl ?_ (hS:=aL);(try simp only[Act.put,sIB,sC0,sCs]);refine tkD (i:=11) (d:=some 67) rfl ?_ (hS:=aL);(try simp only[Act.put,sIB,sC0,sCs]);refine tkD (i:=12) (d:=some 68) rfl ?_ (hS:=aL);(try simp only[Act.put,sIB,sC0,sCs]);refine tkD (i:=13) (d:=some 9) rfl ?_ (hS:=aL);(try simp only[Act.put,sIB,sC0,sCs]);refine wpAnyH_done ai ?_ _;go_wp2_with fail;have BV:=hid (BW.out.trans (((Below.refl wd.heap.size wd).drew).mono BW.out.size))
 refine wp_region_held_drew (S:=fun _=>True) ai trivial (fun _=>?_)
 generalize wd.drew=wv at *;refine tkD (i:=0) (d:=some 69) rfl ?_;(try simp only[Act.put,sIB,sC0,sCs]);refine tkD (i:=1) (d:=some 70) rfl ?_;(try simp only[Act.put,sIB,sC0,sCs]);refine tkD (i:=2) (d:=some 71) rfl ?_;(try simp only[Act.put,sIB,sC0,sCs]);refine tkD (i:=3) (d:=some 72) rfl ?_;(try simp only[Act.put,sIB,sC0,sCs]);refine ryQ (rs:=[4,5]) ?_
 refine rcQ (i:=4) rfl (fun K hK=>?_) (rcQ (i:=5) rfl (fun K hK=>?_) rN)
 ·have c4:wv.cell? ⟨fb,k*3+2,none⟩=some (.slice ca cn cc):=HCD.out _ BV.out;go_simp
  refine hK.out _ _ trivial (fun _=>?_)
  clear hK K;refine ryQ (rs:=[5]) ?_
  refine rcQ (i:=5) rfl (fun K hK=>?_) rN
  have y0:wv.cell? ⟨X,0,none⟩=some (.int .u8 op):=ak (au BV.out HBX.out);have y1:wv.cell? ⟨X,1,none⟩=some (.int .i64 a):=ak (au BV.out HBX.out);have y2:wv.cell? ⟨X,2,none⟩=some (.slice none 0 0):=ak (au BV.out HBX.out);exact JQ
 ·have y0:wv.cell? ⟨X,0,none⟩=some (.int .u8 op):=ak (au BV.out HBX.out);have y1:wv.cell? ⟨X,1,none⟩=some (.int .i64 a):=ak (au BV.out HBX.out);have y2:wv.cell? ⟨X,2,none⟩=some (.slice none 0 0):=ak (au BV.out HBX.out);go_simp
  refine hK.out _ _ trivial (fun _=>?_)
  clear hK K;refine ryQ (rs:=[4,6]) ?_
  refine rcQ (i:=4) rfl (fun K hK=>?_) (rcQ (i:=6) rfl (fun K hK=>?_) rN)
  ·have c4:wv.cell? ⟨fb,k*3+2,none⟩=some (.slice ca cn cc):=HCD.out _ BV.out;exact JQ
  ·go_simp;have BN:=hid (BV.out.trans ((ag wv (aF op a none 0 0)).mono BV.out.size))
   refine hK.out _ _ trivial (fun _=>?_)
   clear hK K;refine ryQ (rs:=[4]) ?_
   refine rcQ (i:=4) rfl (fun K hK=>?_) rN
   have c4:(wv.alloc (aF op a none 0 0)).cell? ⟨fb,k*3+2,none⟩=some (.slice ca cn cc):=HCD.out _ BN.out;go_simp
   refine hK.out _ _ trivial (fun _=>?_)
   clear hK K;refine ryQ (rs:=[7]) ?_
   refine rcQ (i:=7) rfl (fun K hK=>?_) rN
   refine wp_append_lies _ (.tmp 73) (.tmp 75) 76 rfl base 75 i0 (.agg #[.int .u8 0,.int .i64 0,.slice none 0 0]) 3 40 Tryz.underlying76 hi hz0 hz1 hz2 rfl aj (.slice ca cn cc) cn (code.flatMap eQ) rfl (HCO.out _ BN.out) ⟨wv.heap.size,0,none⟩ 1 1 (eQ ((op,a,(none,0,0),[]):InM)) rfl rfl ?n1 ?n2 aj bV ae (Q9.out.later BN.out).bw _ rfl ?_
   case n1 =>
    exact uZ
   case n2=>intro u hu; simp[eQ]at hu; rcases hu with rfl | rfl | rfl <;> rfl
   intro g cap w6 ho6 hg6 hgb6 _;have PX:=hid (Q9.out.pushI BN.out HFN.out HFA.out ((op,a,(none,0,0),[]):InM) YR.out ho6 hg6 hgb6);exact wE
theorem Qo{B base R A n c:Nat}{mp:Value}{m:MM}{ln pt:Int}{w:World}{ws:List ByteArray}(h:RQ base R mp m ln pt w)(hw:Wds w A n c ws)(hA:base≤A)(hE:cw B w)(hBR:B≤R)(hps:psz (pl m)≤2097152)(hc:c=n)(hn0:1≤n)(hne:m.fns≠[])(h1:6≤pt∧pt≤6)(h3:(bC (wdx ws 0)).2=true)(h4:(ofV (bC (wdx ws 0)).1).1.2.2.1=3)(h5:2≤n){l:List Int}(h6:dm ws.tail=some l) :
  Calls Tryz.prog 119 #[.pointer (some ⟨R,0,none⟩),.slice (some ⟨A,0,none⟩) n c] w (LnP base R mp ln w (cO pt (pl m) ws)):=by
 have hc':=hc.symm;subst hc';obtain⟨i0,hi,hz0,hz1,hz2⟩:=info_parts oX;obtain⟨x,hx⟩:∃x,ws[0]? =some x:=⟨_,aO aY⟩;have ex:wdx ws 0=x:=bZ
 have e:cO pt (pl m) ws=some (6,{ pl m with fns:=su (pl m).fns ((bC (wdx ws 0)).1,0,l) }):=by
  exact GV
 rw[e];have HO:=hid (bL h 6 6 h1.1 h1.2);have q1:=h.part 6 ae;have d1:=hw.setR (o:=10) (u:=.int .i64 6) hA h.low;have k1:=KR.set base R 10 w (.int .i64 6);have e1:=hE.later (k1.below hBR bM hE.bw);generalize w.setCell ⟨R,10,none⟩ (.int .i64 6)=w1 at *;have HQ0:=hid q1;have HD0:=hid d1;have HK0:=hid k1;have HE0:=hid e1;have sx:=hw.sz x (List.mem_of_getElem? hx);have cx:w1.cell? ⟨A,0,none⟩=some (.string x):=kx;have HF:=hid (kr x w1 e1.kinds);rw[ex]at h3 h4;have hor:=dG x h3;have ho0:=hor.1;have ho1:=hor.2;rw[h3]at HF;generalize hop:(bC x).1=op at *;obtain⟨rc,wd,tk,pp,ps,pl2,hrow⟩:∃rc wd tk pp ps pl2,(ofV op).1=(rc,wd,tk,pp,ps,pl2):=⟨_,_,_,_,_,_,rfl⟩;rw[hrow]at h4;dsimp only at h4;subst h4;have hlen:ws.tail.length=(n-1):=rR
 have HI1:=hid (fun(W:World) (hW:Below w1.heap.size w1 W)=>(by have:=pK (q1.later hW) (e1.later (hW.mono e1.bw)) A 1 (n-1) (n-1) ws.tail hlen pT (fun j x hx=>Ds) (fun x hx=>hw.sz x (List.mem_of_mem_tail hx)); rw[h6]at this; exact this.mono (fun e w' h=>⟨h.1,h.2.1,h.2.2⟩):Calls Tryz.prog 179 #[.pointer (some ⟨R,0,none⟩),.slice (some ⟨A,1,none⟩) (n-1) (n-1)] W (fun e w'=>Below W.heap.size W w'∧e=.returned (.slice (some ⟨W.heap.size,0,none⟩) (n-1) (n-1))∧w'.ownsRow W.heap.size 3 1 (.slice (some ⟨W.heap.size,0,none⟩) (n-1) (n-1)) (n-1) (l.flatMap iw))))
 obtain⟨init,ft,flo,ca,cn,cc,code,fb,hfns,hfa,hfn⟩:=qM q1 hne
 have hcn:cn≤2097152:=by
  exact vh
 have hin:init.length≤2097152:=by
  exact qG
 have HFN:=hid hfns;have HFA:=hid hfa;have HFL:=hid hfn;have hc2:¬n=1:=ae;have hn1:1≤n:=ae;clear h6 hlen;clear h hw hE h1 q1 d1 k1 e1 e hx
 go_enter Tryz.func119,Tryz.ntmps119
 go_wp2_with fail;refine HO.out.mono ?_;rintro e w1' ⟨rfl,hw1⟩;have hw2:=hw1.symm;subst hw2;go_wp2_with fail;refine HF.out.mono ?_;rintro e w2⟨rfl,hb2⟩;have B2:=hid hb2;clear hb2 cx;have HM2:=hid (aH R w2);have HOf:=hid (of6 op w2 ((HE0.out.later (B2.out.mono HE0.out.bw)).kinds) ho0 ho1);rw[hrow]at HOf;unfold rv mS at HOf;go_wp2_with fail;refine HM2.out.mono ?_;rintro e w2' ⟨rfl,hw1⟩;have hw2:=hw1.symm;subst hw2;go_wp2_with fail;refine HOf.out.mono ?_;rintro e w3⟨rfl,hb3⟩;have B3:=hid (B2.out.trans (hb3.mono B2.out.size));clear hb3 HOf;have B4:=hid (B3.out.trans ((ag w3 (br rc wd 3 pp ps pl2)).mono B3.out.size));have B5:=hid (B4.out.trans ((ag (w3.alloc (br rc wd 3 pp ps pl2)) (aF op 0 none 0 0)).mono B4.out.size));have HX5:=hid (heap_alloc_new (w3.alloc (br rc wd 3 pp ps pl2)) (aF op 0 none 0 0));have hXs:(w3.alloc (br rc wd 3 pp ps pl2)).heap.size=w3.heap.size+1:=ar;rw[hXs]at HX5;go_wp2_with fail;refine(HI1.out _ B5.out).mono ?_;rintro e w7⟨hb7,rfl,ho7⟩;have hX7:=au hb7 HX5.out;have B7:=hid (B5.out.trans (hb7.mono B5.out.size));have HG:=hid (nk ho7 (Nat.le_trans (HQ0.out.later B5.out).bw (Nat.le_refl _)));have c72:w7.cell? ⟨w3.heap.size+1,2,none⟩=some (.slice none 0 0):=ak hX7;have f72:w7.frozen? ⟨w3.heap.size+1,2,none⟩=false:=free_at hX7;clear hb7 ho7;have hzz:((w3.alloc (br rc wd 3 pp ps pl2)).alloc (aF op 0 none 0 0)).heap.size=w3.heap.size+1+1:=ar;rw[hzz]at HG;have HX7:=hid hX7;have kS:=hid (aw w7 (w3.heap.size+1) 2 (.slice (some ⟨w3.heap.size+1+1,0,none⟩) (n-1) (n-1)))
 have HBX:=hid (show(w7.setCell ⟨w3.heap.size+1,2,none⟩ (.slice (some ⟨w3.heap.size+1+1,0,none⟩) (n-1) (n-1))).heap[w3.heap.size+1]? =some (aF op 0 (some ⟨w3.heap.size+1+1,0,none⟩) (n-1) (n-1)) by rw[bS hX7]; rfl)
 have BX:=hid (B7.out.trans (kS.out.to_below B7.out.size (fun k _ hk=>vd)))
 have YR:=hid (ra HG.out kS.out hX7 aj);clear hX7 kS hzz;go_wp2_with fail;generalize w7.setCell ⟨w3.heap.size+1,2,none⟩ (.slice (some ⟨w3.heap.size+1+1,0,none⟩) (n-1) (n-1))=w9 at *;generalize w3.heap.size+1+1=G at *;generalize w3.heap.size+1=X at *;have Q9:=hid (HQ0.out.later BX.out);obtain⟨k,hik⟩:∃k,init.length=k:=⟨_,rfl⟩;have HIK:=hid hik;have hk7:k≤2097152:=ae
 have c6:w9.drew.cell? ⟨R,6,none⟩=some (.slice (some ⟨fb,0,none⟩) (k+1) m.fc):=by have:=Q9.out.cells 6; rw[show(kC mp m ln 6)[6]? =some (.slice m.fa m.fn m.fc) from rfl,HFA.out,HFL.out,hik]at this; exact this
 have hlm:((ft,flo,(ca,cn,cc),code):FuM)∈m.fns:=vE
 have HCO:=hid (fun(W:World) (hW:Below w9.heap.size w9 W)=>((Q9.out.later hW).fo _ hlm).code)
 have HRF:=hid (fun(W:World) (hW:Below w9.heap.size w9 W)=>(by have:=(Q9.out.later hW).rf; rw[HFA.out,HFL.out,hik]at this; exact this:W.ownsRow base 78 3 (.slice (some ⟨fb,0,none⟩) (k+1) m.fc) (k+1) (m.fns.flatMap dR)))
 have hgl:m.fns[k]? =some ((ft,flo,(ca,cn,cc),code):FuM):=lT;have hll:m.fns.length=k+1:=lT
 have HCD:=hid (fun(W:World) (hW:Below w9.heap.size w9 W)=>lK (k:=3) dR (fun _=>rfl) (HRF.out W hW) hll hgl 2 ae)
 have HZC:=hid (fun(W:World)(hW:Below w9.heap.size w9 W)(W':World) (hg:W.grownBy W' (Value.slice ca cn cc).ownBlock)=>(by have h1:=bF (HRF.out W hW) (HCO.out W hW) hg aj; exact⟨lK (k:=3) dR (fun _=>rfl) h1 hll hgl 2 ae,h1.frozenAt _⟩:W'.cell? ⟨fb,k*3+2,none⟩=some (.slice ca cn cc)∧W'.frozen? ⟨fb,k*3+2,none⟩=false))
 have BW:=hid ((Below.refl w9.heap.size w9).drew);have hkl:(k:Int)<(k:Int)+1:=ae;have hwk:IntKind.i64.wrap (k:Int)=(k:Int):=IntWalk.i64_in _ ae;clear hlm hgl hll hik
 refine wp_region_held_drew (S:=fun W=>W.cell? ⟨R,6,none⟩=some (.slice (some ⟨fb,0,none⟩) (k+1) m.fc)) ai c6 (fun hSw=>?_)
 generalize w9.drew=wd at *;refine tkD (i:=0) (d:=some 56) rfl ?_ (hS:=aL);(try simp only[Act.put,sIB,sC0,sCs]);refine tkD (i:=1) (d:=some 57) rfl ?_ (hS:=aL);(try simp only[Act.put,sIB,sC0,sCs]);refine tkD (i:=2) (d:=some 58) rfl ?_ (hS:=aL);(try simp only[Act.put,sIB,sC0,sCs]);refine tkD (i:=3) (d:=some 59) rfl ?_ (hS:=aL);(try simp only[Act.put,sIB,sC0,sCs]);refine tkD (i:=4) (d:=some 60) rfl ?_ (hS:=aL);(try simp only[Act.put,sIB,sC0,sCs]);refine tkD (i:=5) (d:=some 61) rfl ?_ (hS:=aL);(try simp only[Act.put,sIB,sC0,sCs]);refine tkD (i:=6) (d:=some 62) rfl ?_ (hS:=aL);(try simp only[Act.put,sIB,sC0,sCs]);refine tkD (i:=7) (d:=some 63) rfl ?_ (hS:=aL);(try simp only[Act.put,sIB,sC0,sCs]);refine tkD (i:=8) (d:=some 64) rfl ?_ (hS:=aL);(try simp only[Act.put,sIB,sC0,sCs]);refine tkD (i:=9) (d:=some 65) rfl ?_ (hS:=aL);(try simp only[Act.put,sIB,sC0,sCs]);refine tkD (i:=10) (d:=some 66) rfl ?_ (hS:=aL);(try simp only[Act.put,sIB,sC0,sCs]);refine tkD (i:=11) (d:=some 67) rfl ?_ (hS:=aL);(try simp only[Act.put,sIB,sC0,sCs]);refine tkD (i:=12) (d:=some 68) rfl ?_ (hS:=aL);(try simp only[Act.put,sIB,sC0,sCs]);refine tkD (i:=13) (d:=some 9) rfl ?_ (hS:=aL);(try simp only[Act.put,sIB,sC0,sCs]);refine wpAnyH_done ai ?_ _;go_wp2_with fail;have BV:=hid (BW.out.trans (((Below.refl wd.heap.size wd).drew).mono BW.out.size))
 refine wp_region_held_drew (S:=fun _=>True) ai trivial (fun _=>?_)
 generalize wd.drew=wv at *;refine tkD (i:=0) (d:=some 69) rfl ?_;(try simp only[Act.put,sIB,sC0,sCs]);refine tkD (i:=1) (d:=some 70) rfl ?_;(try simp only[Act.put,sIB,sC0,sCs]);refine tkD (i:=2) (d:=some 71) rfl ?_;(try simp only[Act.put,sIB,sC0,sCs]);refine tkD (i:=3) (d:=some 72) rfl ?_;(try simp only[Act.put,sIB,sC0,sCs]);refine ryQ (rs:=[4,5]) ?_
 refine rcQ (i:=4) rfl (fun K hK=>?_) (rcQ (i:=5) rfl (fun K hK=>?_) rN)
 ·have c4:wv.cell? ⟨fb,k*3+2,none⟩=some (.slice ca cn cc):=HCD.out _ BV.out;go_simp
  refine hK.out _ _ trivial (fun _=>?_)
  clear hK K;refine ryQ (rs:=[5]) ?_
  refine rcQ (i:=5) rfl (fun K hK=>?_) rN
  have y0:wv.cell? ⟨X,0,none⟩=some (.int .u8 op):=ak (au BV.out HBX.out);have y1:wv.cell? ⟨X,1,none⟩=some (.int .i64 0):=ak (au BV.out HBX.out);have y2:wv.cell? ⟨X,2,none⟩=some (.slice (some ⟨G,0,none⟩) (n-1) (n-1)):=ak (au BV.out HBX.out);exact Gz
 ·have y0:wv.cell? ⟨X,0,none⟩=some (.int .u8 op):=ak (au BV.out HBX.out);have y1:wv.cell? ⟨X,1,none⟩=some (.int .i64 0):=ak (au BV.out HBX.out);have y2:wv.cell? ⟨X,2,none⟩=some (.slice (some ⟨G,0,none⟩) (n-1) (n-1)):=ak (au BV.out HBX.out);go_simp
  refine hK.out _ _ trivial (fun _=>?_)
  clear hK K;refine ryQ (rs:=[4,6]) ?_
  refine rcQ (i:=4) rfl (fun K hK=>?_) (rcQ (i:=6) rfl (fun K hK=>?_) rN)
  ·have c4:wv.cell? ⟨fb,k*3+2,none⟩=some (.slice ca cn cc):=HCD.out _ BV.out;exact Gz
  ·go_simp;have BN:=hid (BV.out.trans ((ag wv (aF op 0 (some ⟨G,0,none⟩) (n-1) (n-1))).mono BV.out.size))
   refine hK.out _ _ trivial (fun _=>?_)
   clear hK K;refine ryQ (rs:=[4]) ?_
   refine rcQ (i:=4) rfl (fun K hK=>?_) rN
   have c4:(wv.alloc (aF op 0 (some ⟨G,0,none⟩) (n-1) (n-1))).cell? ⟨fb,k*3+2,none⟩=some (.slice ca cn cc):=HCD.out _ BN.out;go_simp
   refine hK.out _ _ trivial (fun _=>?_)
   clear hK K;refine ryQ (rs:=[7]) ?_
   refine rcQ (i:=7) rfl (fun K hK=>?_) rN
   refine wp_append_lies _ (.tmp 73) (.tmp 75) 76 rfl base 75 i0 (.agg #[.int .u8 0,.int .i64 0,.slice none 0 0]) 3 40 Tryz.underlying76 hi hz0 hz1 hz2 rfl aj (.slice ca cn cc) cn (code.flatMap eQ) rfl (HCO.out _ BN.out) ⟨wv.heap.size,0,none⟩ 1 1 (eQ ((op,0,(some ⟨G,0,none⟩,(n-1),(n-1)),l):InM)) rfl rfl ?n1 ?n2 aj bV ae (Q9.out.later BN.out).bw _ rfl ?_
   case n1 =>
    exact uZ
   case n2=>intro u hu; simp[eQ]at hu; rcases hu with rfl | rfl | rfl <;> rfl
   intro g cap w6 ho6 hg6 hgb6 _;have PX:=hid (Q9.out.pushI BN.out HFN.out HFA.out ((op,0,(some ⟨G,0,none⟩,(n-1),(n-1)),l):InM) YR.out ho6 hg6 hgb6);exact wE
theorem Mc{B base R A n c:Nat}{mp:Value}{m:MM}{ln pt:Int}{w:World}{ws:List ByteArray}(h:RQ base R mp m ln pt w)(hw:Wds w A n c ws)(hA:base≤A)(hE:cw B w)(hBR:B≤R)(hps:psz (pl m)≤2097152)(hc:c=n)(hn0:1≤n)(hne:m.fns≠[])(h1:6≤pt∧pt≤6)(h3:(bC (wdx ws 0)).2=true)(h4:(ofV (bC (wdx ws 0)).1).1.2.2.1=3)(h5:n=1){l:List Int}(h6:dm ws.tail=some l) :
  Calls Tryz.prog 119 #[.pointer (some ⟨R,0,none⟩),.slice (some ⟨A,0,none⟩) n c] w (LnP base R mp ln w (cO pt (pl m) ws)):=by
 have hc':=hc.symm;subst hc';obtain⟨i0,hi,hz0,hz1,hz2⟩:=info_parts oX;obtain⟨x,hx⟩:∃x,ws[0]? =some x:=⟨_,aO aY⟩;have ex:wdx ws 0=x:=bZ
 have e:cO pt (pl m) ws=some (6,{ pl m with fns:=su (pl m).fns ((bC (wdx ws 0)).1,0,l) }):=by
  exact GV
 rw[e];have HO:=hid (bL h 6 6 h1.1 h1.2);have q1:=h.part 6 ae;have d1:=hw.setR (o:=10) (u:=.int .i64 6) hA h.low;have k1:=KR.set base R 10 w (.int .i64 6);have e1:=hE.later (k1.below hBR bM hE.bw);generalize w.setCell ⟨R,10,none⟩ (.int .i64 6)=w1 at *;have HQ0:=hid q1;have HD0:=hid d1;have HK0:=hid k1;have HE0:=hid e1;have sx:=hw.sz x (List.mem_of_getElem? hx);have cx:w1.cell? ⟨A,0,none⟩=some (.string x):=kx;have HF:=hid (kr x w1 e1.kinds);rw[ex]at h3 h4;have hor:=dG x h3;have ho0:=hor.1;have ho1:=hor.2;rw[h3]at HF;generalize hop:(bC x).1=op at *;obtain⟨rc,wd,tk,pp,ps,pl2,hrow⟩:∃rc wd tk pp ps pl2,(ofV op).1=(rc,wd,tk,pp,ps,pl2):=⟨_,_,_,_,_,_,rfl⟩;rw[hrow]at h4;dsimp only at h4;subst h4
 have hlen:ws.tail.length=0:=by rw[List.length_tail,hw.len]; omega
 have HI1:=hid (fun(W:World) (hW:Below w1.heap.size w1 W)=>(by have:=pK (q1.later hW) (e1.later (hW.mono e1.bw)) A 0 0 0 ws.tail hlen pT (fun j x hx=>by have:=aK hx; omega) (fun x hx=>hw.sz x (List.mem_of_mem_tail hx)); rw[h6]at this; exact this.mono (fun e w' h=>⟨h.1,h.2.1,h.2.2⟩):Calls Tryz.prog 179 #[.pointer (some ⟨R,0,none⟩),.slice (some ⟨A,0,none⟩) 0 0] W (fun e w'=>Below W.heap.size W w'∧e=.returned (.slice (some ⟨W.heap.size,0,none⟩) 0 0)∧w'.ownsRow W.heap.size 3 1 (.slice (some ⟨W.heap.size,0,none⟩) 0 0) 0 (l.flatMap iw))))
 obtain⟨init,ft,flo,ca,cn,cc,code,fb,hfns,hfa,hfn⟩:=qM q1 hne
 have hcn:cn≤2097152:=by
  exact vh
 have hin:init.length≤2097152:=by
  exact qG
 have HFN:=hid hfns;have HFA:=hid hfa;have HFL:=hid hfn;subst h5;clear h6 hlen;clear h hw hE h1 q1 d1 k1 e1 e hx
 go_enter Tryz.func119,Tryz.ntmps119
 go_wp2_with fail;refine HO.out.mono ?_;rintro e w1' ⟨rfl,hw1⟩;have hw2:=hw1.symm;subst hw2;go_wp2_with fail;refine HF.out.mono ?_;rintro e w2⟨rfl,hb2⟩;have B2:=hid hb2;clear hb2 cx;have HM2:=hid (aH R w2);have HOf:=hid (of6 op w2 ((HE0.out.later (B2.out.mono HE0.out.bw)).kinds) ho0 ho1);rw[hrow]at HOf;unfold rv mS at HOf;go_wp2_with fail;refine HM2.out.mono ?_;rintro e w2' ⟨rfl,hw1⟩;have hw2:=hw1.symm;subst hw2;go_wp2_with fail;refine HOf.out.mono ?_;rintro e w3⟨rfl,hb3⟩;have B3:=hid (B2.out.trans (hb3.mono B2.out.size));clear hb3 HOf;have B4:=hid (B3.out.trans ((ag w3 (br rc wd 3 pp ps pl2)).mono B3.out.size));have B5:=hid (B4.out.trans ((ag (w3.alloc (br rc wd 3 pp ps pl2)) (aF op 0 none 0 0)).mono B4.out.size));have HX5:=hid (heap_alloc_new (w3.alloc (br rc wd 3 pp ps pl2)) (aF op 0 none 0 0));have hXs:(w3.alloc (br rc wd 3 pp ps pl2)).heap.size=w3.heap.size+1:=ar;rw[hXs]at HX5;go_wp2_with fail;refine(HI1.out _ B5.out).mono ?_;rintro e w7⟨hb7,rfl,ho7⟩;have hX7:=au hb7 HX5.out;have B7:=hid (B5.out.trans (hb7.mono B5.out.size));have HG:=hid (nk ho7 (Nat.le_trans (HQ0.out.later B5.out).bw (Nat.le_refl _)));have c72:w7.cell? ⟨w3.heap.size+1,2,none⟩=some (.slice none 0 0):=ak hX7;have f72:w7.frozen? ⟨w3.heap.size+1,2,none⟩=false:=free_at hX7;clear hb7 ho7;have hzz:((w3.alloc (br rc wd 3 pp ps pl2)).alloc (aF op 0 none 0 0)).heap.size=w3.heap.size+1+1:=ar;rw[hzz]at HG;have HX7:=hid hX7;have kS:=hid (aw w7 (w3.heap.size+1) 2 (.slice (some ⟨w3.heap.size+1+1,0,none⟩) 0 0))
 have HBX:=hid (show(w7.setCell ⟨w3.heap.size+1,2,none⟩ (.slice (some ⟨w3.heap.size+1+1,0,none⟩) 0 0)).heap[w3.heap.size+1]? =some (aF op 0 (some ⟨w3.heap.size+1+1,0,none⟩) 0 0) by rw[bS hX7]; rfl)
 have BX:=hid (B7.out.trans (kS.out.to_below B7.out.size (fun k _ hk=>vd)))
 have YR:=hid (ra HG.out kS.out hX7 aj);clear hX7 kS hzz;go_wp2_with fail;generalize w7.setCell ⟨w3.heap.size+1,2,none⟩ (.slice (some ⟨w3.heap.size+1+1,0,none⟩) 0 0)=w9 at *;generalize w3.heap.size+1+1=G at *;generalize w3.heap.size+1=X at *;have Q9:=hid (HQ0.out.later BX.out);obtain⟨k,hik⟩:∃k,init.length=k:=⟨_,rfl⟩;have HIK:=hid hik;have hk7:k≤2097152:=ae
 have c6:w9.drew.cell? ⟨R,6,none⟩=some (.slice (some ⟨fb,0,none⟩) (k+1) m.fc):=by have:=Q9.out.cells 6; rw[show(kC mp m ln 6)[6]? =some (.slice m.fa m.fn m.fc) from rfl,HFA.out,HFL.out,hik]at this; exact this
 have hlm:((ft,flo,(ca,cn,cc),code):FuM)∈m.fns:=vE
 have HCO:=hid (fun(W:World) (hW:Below w9.heap.size w9 W)=>((Q9.out.later hW).fo _ hlm).code)
 have HRF:=hid (fun(W:World) (hW:Below w9.heap.size w9 W)=>(by have:=(Q9.out.later hW).rf; rw[HFA.out,HFL.out,hik]at this; exact this:W.ownsRow base 78 3 (.slice (some ⟨fb,0,none⟩) (k+1) m.fc) (k+1) (m.fns.flatMap dR)))
 have hgl:m.fns[k]? =some ((ft,flo,(ca,cn,cc),code):FuM):=lT;have hll:m.fns.length=k+1:=lT
 have HCD:=hid (fun(W:World) (hW:Below w9.heap.size w9 W)=>lK (k:=3) dR (fun _=>rfl) (HRF.out W hW) hll hgl 2 ae)
 have HZC:=hid (fun(W:World)(hW:Below w9.heap.size w9 W)(W':World) (hg:W.grownBy W' (Value.slice ca cn cc).ownBlock)=>(by have h1:=bF (HRF.out W hW) (HCO.out W hW) hg aj; exact⟨lK (k:=3) dR (fun _=>rfl) h1 hll hgl 2 ae,h1.frozenAt _⟩:W'.cell? ⟨fb,k*3+2,none⟩=some (.slice ca cn cc)∧W'.frozen? ⟨fb,k*3+2,none⟩=false))
 have BW:=hid ((Below.refl w9.heap.size w9).drew);have hkl:(k:Int)<(k:Int)+1:=ae;have hwk:IntKind.i64.wrap (k:Int)=(k:Int):=IntWalk.i64_in _ ae;clear hlm hgl hll hik
 refine wp_region_held_drew (S:=fun W=>W.cell? ⟨R,6,none⟩=some (.slice (some ⟨fb,0,none⟩) (k+1) m.fc)) ai c6 (fun hSw=>?_)
 generalize w9.drew=wd at *;refine tkD (i:=0) (d:=some 56) rfl ?_ (hS:=aL);(try simp only[Act.put,sIB,sC0,sCs]);refine tkD (i:=1) (d:=some 57) rfl ?_ (hS:=aL);(try simp only[Act.put,sIB,sC0,sCs]);refine tkD (i:=2) (d:=some 58) rfl ?_ (hS:=aL);(try simp only[Act.put,sIB,sC0,sCs]);refine tkD (i:=3) (d:=some 59) rfl ?_ (hS:=aL);(try simp only[Act.put,sIB,sC0,sCs]);refine tkD (i:=4) (d:=some 60) rfl ?_ (hS:=aL);(try simp only[Act.put,sIB,sC0,sCs]);refine tkD (i:=5) (d:=some 61) rfl ?_ (hS:=aL);(try simp only[Act.put,sIB,sC0,sCs]);refine tkD (i:=6) (d:=some 62) rfl ?_ (hS:=aL);(try simp only[Act.put,sIB,sC0,sCs]);refine tkD (i:=7) (d:=some 63) rfl ?_ (hS:=aL);(try simp only[Act.put,sIB,sC0,sCs]);refine tkD (i:=8) (d:=some 64) rfl ?_ (hS:=aL);(try simp only[Act.put,sIB,sC0,sCs]);refine tkD (i:=9) (d:=some 65) rfl ?_ (hS:=aL);(try simp only[Act.put,sIB,sC0,sCs]);refine tkD (i:=10) (d:=some 66) rfl ?_ (hS:=aL);(try simp only[Act.put,sIB,sC0,sCs]);refine tkD (i:=11) (d:=some 67) rfl ?_ (hS:=aL);(try simp only[Act.put,sIB,sC0,sCs]);refine tkD (i:=12) (d:=some 68) rfl ?_ (hS:=aL);(try simp only[Act.put,sIB,sC0,sCs]);refine tkD (i:=13) (d:=some 9) rfl ?_ (hS:=aL);(try simp only[Act.put,sIB,sC0,sCs]);refine wpAnyH_done ai ?_ _;go_wp2_with fail;have BV:=hid (BW.out.trans (((Below.refl wd.heap.size wd).drew).mono BW.out.size))
 refine wp_region_held_drew (S:=fun _=>True) ai trivial (fun _=>?_)
 generalize wd.drew=wv at *;refine tkD (i:=0) (d:=some 69) rfl ?_;(try simp only[Act.put,sIB,sC0,sCs]);refine tkD (i:=1) (d:=some 70) rfl ?_;(try simp only[Act.put,sIB,sC0,sCs]);refine tkD (i:=2) (d:=some 71) rfl ?_;(try simp only[Act.put,sIB,sC0,sCs]);refine tkD (i:=3) (d:=some 72) rfl ?_;(try simp only[Act.put,sIB,sC0,sCs]);refine ryQ (rs:=[4,5]) ?_
 refine rcQ (i:=4) rfl (fun K hK=>?_) (rcQ (i:=5) rfl (fun K hK=>?_) rN)
 ·have c4:wv.cell? ⟨fb,k*3+2,none⟩=some (.slice ca cn cc):=HCD.out _ BV.out;go_simp
  refine hK.out _ _ trivial (fun _=>?_)
  clear hK K;refine ryQ (rs:=[5]) ?_
  refine rcQ (i:=5) rfl (fun K hK=>?_) rN
  have y0:wv.cell? ⟨X,0,none⟩=some (.int .u8 op):=ak (au BV.out HBX.out);have y1:wv.cell? ⟨X,1,none⟩=some (.int .i64 0):=ak (au BV.out HBX.out);have y2:wv.cell? ⟨X,2,none⟩=some (.slice (some ⟨G,0,none⟩) 0 0):=ak (au BV.out HBX.out);exact Ja
 ·have y0:wv.cell? ⟨X,0,none⟩=some (.int .u8 op):=ak (au BV.out HBX.out);have y1:wv.cell? ⟨X,1,none⟩=some (.int .i64 0):=ak (au BV.out HBX.out);have y2:wv.cell? ⟨X,2,none⟩=some (.slice (some ⟨G,0,none⟩) 0 0):=ak (au BV.out HBX.out);go_simp
  refine hK.out _ _ trivial (fun _=>?_)
  clear hK K;refine ryQ (rs:=[4,6]) ?_
  refine rcQ (i:=4) rfl (fun K hK=>?_) (rcQ (i:=6) rfl (fun K hK=>?_) rN)
  ·have c4:wv.cell? ⟨fb,k*3+2,none⟩=some (.slice ca cn cc):=HCD.out _ BV.out;exact Ja
  ·go_simp;have BN:=hid (BV.out.trans ((ag wv (aF op 0 (some ⟨G,0,none⟩) 0 0)).mono BV.out.size))
   refine hK.out _ _ trivial (fun _=>?_)
   clear hK K;refine ryQ (rs:=[4]) ?_
   refine rcQ (i:=4) rfl (fun K hK=>?_) rN
   have c4:(wv.alloc (aF op 0 (some ⟨G,0,none⟩) 0 0)).cell? ⟨fb,k*3+2,none⟩=some (.slice ca cn cc):=HCD.out _ BN.out;go_simp
   refine hK.out _ _ trivial (fun _=>?_)
   clear hK K;refine ryQ (rs:=[7]) ?_
   refine rcQ (i:=7) rfl (fun K hK=>?_) rN
   refine wp_append_lies _ (.tmp 73) (.tmp 75) 76 rfl base 75 i0 (.agg #[.int .u8 0,.int .i64 0,.slice none 0 0]) 3 40 Tryz.underlying76 hi hz0 hz1 hz2 rfl aj (.slice ca cn cc) cn (code.flatMap eQ) rfl (HCO.out _ BN.out) ⟨wv.heap.size,0,none⟩ 1 1 (eQ ((op,0,(some ⟨G,0,none⟩,0,0),l):InM)) rfl rfl ?n1 ?n2 aj bV ae (Q9.out.later BN.out).bw _ rfl ?_
   case n1 =>
    exact uZ
   case n2=>intro u hu; simp[eQ]at hu; rcases hu with rfl | rfl | rfl <;> rfl
   intro g cap w6 ho6 hg6 hgb6 _;have PX:=hid (Q9.out.pushI BN.out HFN.out HFA.out ((op,0,(some ⟨G,0,none⟩,0,0),l):InM) YR.out ho6 hg6 hgb6);exact wE
theorem QD{B base R A n c:Nat}{mp:Value}{m:MM}{ln pt:Int}{w:World}{ws:List ByteArray}(h:RQ base R mp m ln pt w)(hw:Wds w A n c ws)(hA:base≤A)(hE:cw B w)(hBR:B≤R)(hps:psz (pl m)≤2097152)(hc:c=n)(hn0:1≤n)(hne:m.fns≠[])(h1:6≤pt∧pt≤6)(h3:(bC (wdx ws 0)).2=true)(h4:(ofV (bC (wdx ws 0)).1).1.2.2.1=3)(h5:2≤n)(h6:dm ws.tail=none) :
  Calls Tryz.prog 119 #[.pointer (some ⟨R,0,none⟩),.slice (some ⟨A,0,none⟩) n c] w (LnP base R mp ln w (cO pt (pl m) ws)):=by
 have hc':=hc.symm;subst hc';obtain⟨i0,hi,hz0,hz1,hz2⟩:=info_parts oX;obtain⟨x,hx⟩:∃x,ws[0]? =some x:=⟨_,aO aY⟩;have ex:wdx ws 0=x:=bZ
 have e:cO pt (pl m) ws=none:=by
  unfold cO;rw[if_pos ⟨h1,h3⟩]
  have ep:jP (bC (wdx ws 0)).1 ws=none:=by
   unfold jP
   rw[if_neg (by rw[h4]; decide),if_pos h4,h6]; rfl
  rw[ep];rfl
 rw[e];have HO:=hid (bL h 6 6 h1.1 h1.2);have q1:=h.part 6 ae;have d1:=hw.setR (o:=10) (u:=.int .i64 6) hA h.low;have k1:=KR.set base R 10 w (.int .i64 6);have e1:=hE.later (k1.below hBR bM hE.bw);generalize w.setCell ⟨R,10,none⟩ (.int .i64 6)=w1 at *;have HQ0:=hid q1;have HD0:=hid d1;have HK0:=hid k1;have HE0:=hid e1;have sx:=hw.sz x (List.mem_of_getElem? hx);have cx:w1.cell? ⟨A,0,none⟩=some (.string x):=kx;have HF:=hid (kr x w1 e1.kinds);rw[ex]at h3 h4;have hor:=dG x h3;have ho0:=hor.1;have ho1:=hor.2;rw[h3]at HF;generalize hop:(bC x).1=op at *;obtain⟨rc,wd,tk,pp,ps,pl2,hrow⟩:∃rc wd tk pp ps pl2,(ofV op).1=(rc,wd,tk,pp,ps,pl2):=⟨_,_,_,_,_,_,rfl⟩;rw[hrow]at h4;dsimp only at h4;subst h4;have hlen:ws.tail.length=(n-1):=rR
 have HI1:=hid (fun(W:World) (hW:Below w1.heap.size w1 W)=>(by have:=pK (q1.later hW) (e1.later (hW.mono e1.bw)) A 1 (n-1) (n-1) ws.tail hlen pT (fun j x hx=>Ds) (fun x hx=>hw.sz x (List.mem_of_mem_tail hx)); rw[h6]at this; exact this.mono (fun e w' h=>⟨h.2,h.1⟩):Calls Tryz.prog 179 #[.pointer (some ⟨R,0,none⟩),.slice (some ⟨A,1,none⟩) (n-1) (n-1)] W (fun e w'=>e=thL ln∧Below W.heap.size W w')))
 have hc2:¬n=1:=ae;have hn1:1≤n:=ae;clear h6 hlen;clear h hw hE h1 q1 d1 k1 e1 e hx
 go_enter Tryz.func119,Tryz.ntmps119
 go_wp2_with fail;refine HO.out.mono ?_;rintro e w1' ⟨rfl,hw1⟩;have hw2:=hw1.symm;subst hw2;go_wp2_with fail;refine HF.out.mono ?_;rintro e w2⟨rfl,hb2⟩;have B2:=hid hb2;clear hb2 cx;have HM2:=hid (aH R w2);have HOf:=hid (of6 op w2 ((HE0.out.later (B2.out.mono HE0.out.bw)).kinds) ho0 ho1);rw[hrow]at HOf;unfold rv mS at HOf;go_wp2_with fail;refine HM2.out.mono ?_;rintro e w2' ⟨rfl,hw1⟩;have hw2:=hw1.symm;subst hw2;go_wp2_with fail;refine HOf.out.mono ?_;rintro e w3⟨rfl,hb3⟩;have B3:=hid (B2.out.trans (hb3.mono B2.out.size));clear hb3 HOf;have B4:=hid (B3.out.trans ((ag w3 (br rc wd 3 pp ps pl2)).mono B3.out.size));have B5:=hid (B4.out.trans ((ag (w3.alloc (br rc wd 3 pp ps pl2)) (aF op 0 none 0 0)).mono B4.out.size));have HX5:=hid (heap_alloc_new (w3.alloc (br rc wd 3 pp ps pl2)) (aF op 0 none 0 0));have hXs:(w3.alloc (br rc wd 3 pp ps pl2)).heap.size=w3.heap.size+1:=ar;rw[hXs]at HX5;exact Hv
theorem KZ{B base R A n c:Nat}{mp:Value}{m:MM}{ln pt:Int}{w:World}{ws:List ByteArray}(h:RQ base R mp m ln pt w)(hw:Wds w A n c ws)(hA:base≤A)(hE:cw B w)(hBR:B≤R)(hps:psz (pl m)≤2097152)(hc:c=n)(hn0:1≤n)(hne:pt=6→m.fns≠[]) :
  Calls Tryz.prog 119 #[.pointer (some ⟨R,0,none⟩),.slice (some ⟨A,0,none⟩) n c] w (LnP base R mp ln w (cO pt (pl m) ws)):=by
 by_cases h1:6≤pt∧pt≤6
 ·have hne:=hne ae
  by_cases h3:(bC (wdx ws 0)).2=true
  ·by_cases h4:(ofV (bC (wdx ws 0)).1).1.2.2.1=0
   ·by_cases h5:n=1
    ·exact OQ h hw hA hE hBR hps hc hn0 hne h1 h3 h4 h5
    ·exact PV h hw hA hE hBR hps hc hn0 hne h1 h3 h4 h5
   ·by_cases h5:(ofV (bC (wdx ws 0)).1).1.2.2.1=3
    ·rcases h6:dm ws.tail with _ | l
     ·refine QD h hw hA hE hBR hps hc hn0 hne h1 h3 h5 ?_ h6;have hl:=hw.len
      match ws,hl,h6 with
      | [],hl,_=>simp at hl; omega
      | [a],hl,h6=>simp[dm]at h6
      | a::b::r,hl,_=>simp at hl; omega
     ·by_cases h7:n=1
      ·exact Mc h hw hA hE hBR hps hc hn0 hne h1 h3 h5 h7 h6
      ·exact Qo h hw hA hE hBR hps hc hn0 hne h1 h3 h5 ae h6
    ·by_cases h6:n=2
     ·rcases h7:nmV (wdx ws 1) with _ | a
      ·exact MS h hw hA hE hBR hps hc hn0 hne h1 h3 h4 h5 h6 h7
      ·exact Qu h hw hA hE hBR hps hc hn0 hne h1 h3 h4 h5 h6 h7
     ·exact Nl h hw hA hE hBR hps hc hn0 hne h1 h3 h4 h5 h6
  ·exact QO h hw hA hE hBR hps hc hn0 hne h1 (by simpa using h3)
 ·exact NY h h1
end Go.Proofs.YtheefojaplnnoaaGreatDoor
