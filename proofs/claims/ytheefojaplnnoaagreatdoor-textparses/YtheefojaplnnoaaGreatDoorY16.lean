/-
  Texts Jk Jm Jp Jn Jo Jq Jr Hb Jl.
-/
import Derived.Test.YtheefojaplnnoaaGreatDoorY15
set_option linter.unusedVariables false
set_option maxRecDepth 100000
set_option maxHeartbeats 16000000
namespace Go.Proofs.YtheefojaplnnoaaGreatDoor
open Go.Proofs.Tryz
open Go.RowKit
set_option maxHeartbeats 8000000
theorem td(s:BAz):∀n c,(gJ n c s).2=true->(pZ iE (gJ n c s).1).2=true
 | 0,c,h=>by cases h
 | n+1,c,h=>by
  simp only[gJ]at h ⊢
  split
  ·rename_i h1; exact h1.1
  rename_i h1;rw[if_neg h1]at h;exact td s n (c+1) h
theorem TI(s:BAz)(h:(bi s).2=true):tkV (bi s).1=(ofV (bi s).1).1.2.2.1:=by
 have hr:=dM s h
 have h2:(ofV (bi s).1).2=true:=by
  rw[Qj _ hr.1 hr.2];have h3:=h;rw[vM]at h3 ⊢;exact td s 256 0 h3
 unfold tkV;rw[if_pos h2]
variable {base R:Nat}{m:MM}{pt:Int}{w:World}
theorem RF.last(h:RF base R m pt w)(hne:m.fns≠[]):∃init t lo ca cn cc code fb,m.fns=init++[((t,lo,(ca,cn,cc),code):FuM)]/\m.fa=some (ZA fb 0)/\m.fn=init.length+1:=by
 exact Lt
variable {op:Int}{ws:Zai}
theorem Sk(hn:1<=ws.length):iP op ws=(bz ws.tail).bind fun ns=>if (ofV op).1.2.2.1=0 then (if ns.length=0 then some (op,0,[]) else none) else if (ofV op).1.2.2.1=3 then some (op,0,ns) else if ns.length=1 then some (op,ns.getD 0 0,[]) else none:=by
 unfold iP
 match ws,hn with
 | x::t,_ =>
  simp only[List.tail_cons,Z1]
  cases ht:bz t with
  | none =>
   simp only[Option.bind_none]
   split
   ·rw[if_neg];intro h;obtain rfl:t=[]:=Z6 ae
    simp[bz]at ht
   split
   ·rfl
   split
   ·rename_i h
    match t,h with
    | [y],_ =>
     exact Gv
   rfl
  | some ns =>
   have hl:=(nN t ns ht).1;simp only[Zac]
   split
   ·rw[hl]
    by_cases h:t.length=0
    ·rw[if_pos ae,if_pos h]
    rw[if_neg ae,if_neg h]
   split
   ·rfl
   by_cases h:t.length=1
   ·rw[if_pos ae,if_pos ae]
    match t,h with
    | [y],_ =>
     exact Gf
   rw[if_neg ae,if_neg ae]
variable {W w':World}{X n:Nat}{cs:AVz}{u:Value}{xs:Zah}
theorem tU(h:W.heap[X]? =some (.cells cs 75))(hu:W.ownsRow base 3 1 u n xs)(hg:W.grownBy w' u.ownBlock):w'.heap[X]? =some (.cells cs 75):=by
 exact GH
theorem QY(b off n c:Nat)(ws:Zai)(w:World)(h:RF base R m pt w)(hw:AtS w (some (ZA b off)) n ws)(hn:1<=n)(hcn:n<=c)(hps:psz (pl m)<=2097152)(hlw:n<=2097152)(hne:pt=6->m.fns≠[]) :
  Zw 122 #[ZP R 0,.slice (some (ZA b off)) n c] w (LnF base R w (cj pt (pl m) ws)):=by
 obtain⟨hl,hn9,hcs⟩:=hw
 rcases hcs with h0 | ⟨b',off',hbo,hc⟩
 ·omega
 cases hbo
 obtain⟨x,t,rfl⟩:∃x t,ws=x::t:=by
  cases ws with
  | nil=>simp at hl; omega
  | cons x t=>exact⟨x,t,rfl⟩
 have hpn:iP (bi x).1 (x::t)=_:=Sk (op:=(bi x).1) (ws:=x::t) av;rw[List.tail_cons]at hpn
 have c0:w.cell? (ZA b off)=some (.string x):=by have:=hc 0 x rfl; simpa using this
 have hAt:AtS w (some (ZA b (off+1))) (n-1) t:=⟨by simp at hl; omega,ae,.inr ⟨b,off+1,rfl,fun j y hj=>by have:=hc (j+1) y zo; rw[show off+(j+1)=off+1+j by omega]at this; exact this⟩⟩;have HNU:=hid (fun(W:World)(hW:Zx w W) (cc:Nat)=>nR (some (ZA b (off+1))) (n-1) cc t W (hAt.later hW lRn));have HFR:=hid (TI x);have HRG:=hid (dM x)
 have hin:cj pt (pl m) (x::t)=if (6<=pt/\pt<=6)/\(bi x).2=true then (iP (bi x).1 (x::t)).map fun y=>(6,{ pl m with fns:=qA (pl m).fns y }) else none:=rfl
 have HFD:=hid (Rx x w);obtain⟨op,fd,hfp⟩:∃op fd,bi x=(op,fd):=⟨_,_,rfl⟩;rw[hfp]at hpn hin HFR HRG HFD;obtain⟨HPN,HIN,HQ,ZD⟩:=ZF hpn hin h hne;have HLT:=hid (show t.length+1=n by simpa using hl);have On:(1:Int)<=(n:Int):=ae;have hnc:(n:Int)<=(c:Int):=ae;clear h hc hAt hpn hin hfp hl hne;go_enter func122,ntmps122
 go_wp2_with fail;refine HFD.out.mono ?_;rintro e w1⟨rfl,hb1⟩;have SO:=hid hb1
 have qax:=hid (fun cc=>HNU.out w1 hb1 cc);have qay:=hid (fun(a:OAz) cc (h1:n=1)=>nR a 0 cc t w1 ⟨by have:=HLT.out; omega,ae,.inl rfl⟩);clear hb1 c0 HFD HNU
 go_upto_region 2 with fail
 go_cut [7,8] from 12 to 24 (fun v bb wx=>Hid (Zx w1 wx)/\((bz t=none/\bb=.bool false)\/∃ns,bz t=some ns/\bb=.bool true/\A7 wx w1.heap.size v ns))
 case first =>
  exact Dx
 case rest =>
 obtain⟨hb2,AS⟩:=hcut;generalize wc=w2 at *;have P2:=hid (SO.out.trans (hb2.out.mono SO.out.size));have c8:w2.cell? (ZA R 8)=some (ZI pt):=(HQ.out.later P2.out).cells 8
 rcases AS with ⟨nw,rfl⟩ | ⟨ns,nw,rfl,hS⟩
 ·have e:cj pt (pl m) (x::t)=none:=by
   rw[HIN.out]
   split
   ·rw[HPN.out,nw]; rfl
   rfl
  have E:=hid e;clear nw e HPN HIN
  cases fd
  ·go_wp2_with fail;go_ret;rw[E.out];exact⟨KR.later P2.out,rfl⟩
  go_wp2_with fail;go_ret;rw[E.out];exact⟨KR.later P2.out,rfl⟩
 have C':=hid nw;have HS:=hid (si hS SO.out.size);clear nw hS hb2
 cases fd
 ·have E:=hid (show cj pt (pl m) (x::t)=none by
   rw[HIN.out,if_neg (fun h=>by cases h.2)])
  exact IW
 by_cases hp6:pt=6
 rotate_left
 ·have E:=hid (show cj pt (pl m) (x::t)=none by
   rw[HIN.out,if_neg (fun h=>hp6 ae)])
  have hpb:(pt != 6)=true:=by simpa using hp6
  exact IW
 subst hp6;have hop:=HRG.out rfl;have htk:=HFR.out rfl
 have e:cj 6 (pl m) (x::t)=(iP op (x::t)).map fun y=>(6,{ pl m with fns:=qA (pl m).fns y }):=by
  rw[HIN.out,if_pos ⟨⟨ae,ae⟩,rfl⟩]
 have HE:=hid e;clear e HIN
 have hpin:iP op (x::t)=if tkV op=0 then (if ns.length=0 then some (op,0,[]) else none) else if tkV op=3 then some (op,0,ns) else if ns.length=1 then some (op,ns.getD 0 0,[]) else none:=by
  rw[htk,HPN.out,C'.out];rfl
 have HPI:=hid hpin;clear hpin HPN HFR HRG htk
 have hnl:ns.length<=2097152:=by
  have:=(nN t ns C'.out).1;have:=HLT.out;omega
 have ho0:=hop.1;have ZS:=hop.2;have hwl:(ns.length:Int)<=2097152:=ae;have HTK:=hid (fun W=>GX op W ho0 ZS);obtain⟨tk,htk⟩:∃tk,tkV op=tk:=⟨_,rfl⟩;rw[htk]at HTK HPI;have HNE6:=ZD.out rfl;obtain⟨init,ft,wi,ca,cn,cc,code,fb,gC,vb,hfn⟩:=HQ.out.last HNE6
 have hcn2:cn<=2097152:=by
  have hm:((ft,wi,(ca,cn,cc),code):FuM)∈m.fns:=by rw[gC]; simp
  have e1:=cE (g:=eD) (fun _=>rfl) au (HQ.out.fo _ hm).code;have e2:code.length<=psz (pl m):=GR;dsimp only at e1;omega
 have hinl:init.length<=2097152:=by
  exact qa
 obtain⟨pv,dy,j8⟩:=ZH gC vb hfn;have hbase:=HQ.out.bw;obtain⟨na,nc,rfl⟩:=iH HS.out
 have hna:ns≠[]->∃nb,na=some (ZA nb 0):=fun h1=>by
  rcases HS.out.2 with ⟨h2,h3⟩ | ⟨g,cap,cur,h2,_⟩
  ·exact absurd (Z6 h3) h1
  injection h2 with e1;exact⟨g,e1⟩
 have HNA:=hid hna;clear hna htk gC vb hfn HNE6 ZD hps HLT hop On hnc
 go_upto_region 5 with fail
 have Is:=hid (show w.heap.size<=w2.heap.size from P2.out.size);obtain⟨X,hX⟩:∃X,X=w2.heap.size:=⟨_,rfl⟩;have HX2:=hid hX;clear hX c8
 go_cut [9] from 38 to 39 (fun v wx=>v=ZP X 0/\Hid (wx.heap[X]? =some (aH op 0 none 0 0))/\Hid (Zx w2 wx))
 case first =>
  go_wp2_with fail
  go_meet
  exact⟨by rw[HX2.out],hid (by rw[HX2.out]; exact hZn w2 _),hid (aj w2 _)⟩
 case rest =>
 obtain⟨rfl,HX3,cq⟩:=hcut;rename_i K5 hK5;refine hK5 _ _ (wp_seq_k fun K6 vj=>?_);clear hK5
 go_cut [] from 40 to 70 (fun wx=>∃(A:Int)(la:OAz)(ln lc:Nat)(zs:LIz),Hid (iP op (x::t)=some (op,A,zs))/\Hid (wx.heap[X]? =some (aH op A la ln lc))/\Hid (wx.ownsRow base 3 1 (.slice la ln lc) ln (zs.flatMap fJ))/\Hid (Zx w wx))
 case first =>
  go_wp2_with fail;refine(HTK.out _).mono ?_;rintro e w4⟨rfl,hb4⟩;have pi:=hid ((P2.out.trans (cq.out.mono P2.out.size)).trans (hb4.mono (ZW P2.out.size cq.out.size)));have HX4:=hid (ar hb4 HX3.out);have HS4:=hid (bJ (bJ HS.out cq.out) hb4);clear hb4 HTK HX3 cq HS
  by_cases h0:tk=0
  ·subst h0
   by_cases hl0:ns.length=0
   ·have hlb:((ns.length:Int) != 0)=false:=by rw[hl0]; rfl
    have HL0:=hid hl0;clear hl0;go_wp2_with fail
    go_meet
    exact⟨0,none,0,0,[],hid (by rw[HPI.out,if_pos trivial,if_pos HL0.out]),HX4,hid (Z7 _ _ _ _),pi⟩
   have hlb:((ns.length:Int) != 0)=true:=bne_iff_ne.2 ae;go_wp2_with fail;go_ret;rw[HE.out,HPI.out,if_pos trivial,if_neg hl0];exact⟨KR.later pi.out,rfl⟩
  have It:(tk==0)=false:=iJ
  by_cases h3:tk=3
  ·subst h3
   have HPJ:=hid (show iP op (x::t)=some (op,0,ns) by rw[HPI.out,if_neg au,if_pos rfl]);clear HPI h0 It;go_wp2_with fail
   go_loopw [10] (fun i wr=>∃(k:Nat)(la:OAz)(lc:Nat),i=ZI k/\k<=ns.length/\Hid (wr.heap[X]? =some (aH op 0 la k lc))/\Hid (wr.ownsRow w.heap.size 3 1 (.slice la k lc) k ((ns.take k).flatMap fJ))/\Hid (wr.ownsRow base 2 1 (.slice na ns.length nc) ns.length (ns.map (ZI)))/\Hid (Zx w wr)) (fun i _=>ns.length-(intOf i).toNat)
   case atStart=>exact⟨0,none,0,rfl,ae,HX4,hid (Z7 _ _ _ _),hid (si HS4.out hbase),pi⟩
   case round =>
    obtain⟨k,la,lc,rfl,hk,HX3,HL3,HN3,cq⟩:=hrel;clear HX4 pi HS4
    by_cases hlt:k<ns.length
    ·have hlt':(k:Int)<(ns.length:Int):=ae;have It:(0:Int)<=(k:Int):=ae;have hwi:IntKind.i64.wrap ((k:Int)+1)=k+1:=IntWalk.i64_in _ ae
     obtain⟨nb,rfl⟩:=HNA.out (by intro e; rw[e]at hlt; simp at hlt);obtain⟨z,hz⟩:=ZB ns k hlt;have HZZ:=hid hz
     have HZ:=hid (fun(W:World) (hW:Zx wr W)=>(by
      have:=World.ownsRow.cellAt (bJ HN3.out hW) k (by rw[Nat.mul_one]; exact hlt)
      rw[this,List.getElem?_map,HZZ.out];rfl:W.cell? (ZA nb k)=some (ZI z)))
     obtain⟨i0,hi,hz0,hz1,hz2⟩:=Z0 AX;have B1:=hid ((ZT wr.heap.size wr).drew);clear hz
     go_upto_region 17 with fail
     refine ZX (S:=fun _=>True) ak trivial (fun _=>?_)
     generalize wr.drew=wd at *;refine Zt 0 ?_;refine Zt 2 ?_;refine Zt 3 ?_;refine Zt 4 ?_;refine Zu 1 5 (fun K hK=>?_) fun K hK=>?_
     ·have cH:=iz2 (ar B1.out HX3.out);go_simp
      refine Zv hK ?_;clear hK K;refine ZR 5 fun K hK=>?_;have cZ:wd.cell? (ZA nb k)=some (ZI z):=HZ.out _ B1.out;exact NN
     have cZ:wd.cell? (ZA nb k)=some (ZI z):=HZ.out _ B1.out;go_simp;refine Zv hK ?_;clear hK K;refine Zu 1 6 (fun K hK=>?_) fun K hK=>?_
     ·have cH:=iz2 (ar B1.out HX3.out);exact NN
     go_simp;have BN:=Zy B1 (aj wd (bR z));refine Zv hK ?_;clear hK K;refine ZR 1 fun K hK=>?_;have cH:=iz2 (ar BN.out HX3.out);go_simp;refine Zv hK ?_;clear hK K;refine ZR 7 fun K hK=>?_;refine wp_append_lies _ (.tmp 63) (.tmp 68) 23 rfl w.heap.size 3 i0 (ZI 0) 1 8 underlying23 hi hz0 hz1 hz2 rfl au (.slice la k lc) k ((ns.take k).flatMap fJ) rfl (bJ HL3.out BN.out) (ZA wd.heap.size 0) 1 1 [ZI z] rfl rfl ?n1 ?n2 au aP ae (ZW cq.out.size BN.out.size) _ rfl ?_
     case n1 =>
      exact Gx
     case n2=>intro u hu; simp at hu; subst hu; rfl
     intro g cap w6 Ft BE _ _;have HO6:=hid Ft;have HX6:=hid (tU (ar BN.out HX3.out) (bJ HL3.out BN.out) BE);have BB6:=hid ((cq.out.trans (BN.out.mono cq.out.size)).trans (jN (bJ HL3.out BN.out) BE (ZW cq.out.size BN.out.size)));have HN6:=hid (aU (bJ HN3.out BN.out) (bJ HL3.out BN.out) BE au);clear Ft BE;refine hK.out _ _ trivial (fun _=>?_)
     clear hK K;refine Zt 8 ?_;refine ZR 9 fun K hK=>?_;have c16:=iz2 HX6.out;have f16:=free_at (i:=2) HX6.out;go_simp;refine Zv hK ?_;clear hK K;refine Z4 ak ?_ _;go_wp2_with fail
     go_roundw
     case rel=>exact⟨k+1,some (ZA g 0),cap,bu,ae,hid (by rw[aT HX6.out]; rfl),hid I8,hid (kQ HN6.out (aB w6 X 2 _) HX6.out au),hid (BB6.out.trans ((aB w6 X 2 _).to_below BB6.out.size (fun j hj e=>IH)))⟩
     case measure=>simp[intOf]; omega
    obtain rfl:k=ns.length:=ae;have hlt':¬(ns.length:Int)<(ns.length:Int):=ae;go_wp2_with fail
    go_meet
    exact⟨0,la,ns.length,lc,ns,HPJ,HX3,hid (si (by have:=HL3.out; rw[List.take_length]at this; exact this) hbase),cq⟩
  have hk3:(tk==3)=false:=by simpa using h3
  by_cases mm:ns.length=1
  ·have hlb:((ns.length:Int) != 1)=false:=aA;have hlp:(0:Int)<(ns.length:Int):=ae
   obtain⟨nb,rfl⟩:=HNA.out (by intro e; rw[e]at mm; simp at mm);have HPJ:=hid (show iP op (x::t)=some (op,ns.getD 0 0,[]) by rw[HPI.out,if_neg h0,if_neg h3,if_pos mm])
   have cz:w4.cell? (ZA nb 0)=some (ZI (ns.getD 0 0)):=by
    have:=World.ownsRow.cellAt HS4.out 0 ae;rw[this,List.getElem?_map,Z3,aD ae];rfl
   have c1:=iz1 HX4.out;have f1:=free_at (i:=1) HX4.out;obtain⟨z,hz⟩:∃z,ns.getD 0 0=z:=⟨_,rfl⟩;rw[hz]at HPJ cz;clear hz mm;go_wp2_with fail
   go_meet
   exact⟨z,none,0,0,[],HPJ,hid (by rw[aT HX4.out]; rfl),hid (Z7 _ _ _ _),hid (pi.out.trans ((aB w4 X 1 _).to_below pi.out.size (fun k hk e=>by have e:k=X:=e; have:=Is.out; have:=HX2.out; omega)))⟩
  have hlb:((ns.length:Int) != 1)=true:=bne_iff_ne.2 ae;go_wp2_with fail;go_ret;rw[HE.out,HPI.out,if_neg h0,if_neg h3,if_neg mm];exact⟨KR.later pi.out,rfl⟩
 case rest =>
 obtain⟨A,la,ln,lc,zs,HPIN0,HXI,YR,AT⟩:=hcut;clear HX3 cq HS HTK HPI HNA;generalize wc=w9 at *;have Q9:=hid (HQ.out.later AT.out);have HPIN:=hid (show cj 6 (pl m) (x::t)=some (6,{ pl m with fns:=qA (pl m).fns (op,A,zs) }) by rw[HE.out,HPIN0.out]; rfl);obtain⟨i0,hi,hz0,hz1,hz2⟩:=Z0 nW;obtain⟨k,hik⟩:∃k,init.length=k:=⟨_,rfl⟩;have HIK:=hid hik;have hk7:k<=2097152:=ae
 have c6:w9.cell? (ZA R 5)=some (ZL fb (k+1) m.fc):=by have:=Q9.out.cells 5; rw[show(rfA m 6)[5]? =some (.slice m.fa m.fn m.fc) from rfl,dy.out,j8.out,hik]at this; exact this
 have hlm:((ft,wi,(ca,cn,cc),code):FuM)∈m.fns:=tG;have tt:=hid (fun(W:World) (hW:Zx w9 W)=>((Q9.out.later hW).fo _ hlm).code);have lE:=hid (fun(W:World) (hW:Zx w9 W)=>(by have:=(Q9.out.later hW).rf; rw[dy.out,j8.out,hik]at this; exact this:W.ownsRow base 78 3 (ZL fb (k+1) m.fc) (k+1) (m.fns.flatMap dA)));have hgl:m.fns[k]? =some ((ft,wi,(ca,cn,cc),code):FuM):=kI;have hll:m.fns.length=k+1:=kI;have vl:=hid (fun(W:World) (hW:Zx w9 W)=>kX (k:=3) dA (fun _=>rfl) (lE.out W hW) hll hgl 2 ae);have HZC:=hid (fun(W:World)(hW:Zx w9 W)(W':World) (hg:W.grownBy W' (Value.slice ca cn cc).ownBlock)=>(by have h1:=aU (lE.out W hW) (tt.out W hW) hg au; exact⟨kX (k:=3) dA (fun _=>rfl) h1 hll hgl 2 ae,h1.frozenAt _⟩:W'.cell? (ZA fb (k*3+2))=some (.slice ca cn cc)/\W'.frozen? (ZA fb (k*3+2))=false))
 have ee:base<=fb/\fb<w.heap.size:=by
  have h1:=HQ.out.rf;rw[dy.out]at h1;obtain⟨h2,cur,h3⟩:=dN h1 (b:=fb) rfl;exact⟨h2,aK h3⟩
 have hXw:w.heap.size<=X:=by have:=Is.out; have:=HX2.out; omega
 have z':=hid (fun(W:World) (hW:Zx w9 W)=>(⟨(hW.cell (ZQ c6)).trans c6,ag (ar hW HXI.out),ag (ar hW HXI.out),ag (ar hW HXI.out)⟩:W.cell? (ZA R 5)=some (ZL fb (k+1) m.fc)/\W.cell? (ZA X 0)=some (ZU op)/\W.cell? (ZA X 1)=some (ZI A)/\W.cell? (ZA X 2)=some (.slice la ln lc)))
 have A':=hid (fun(W:World)(hW:Zx w9 W)(W':World) (hg:W.grownBy W' (Value.slice ca cn cc).ownBlock)=>(by
  have hr:=bF (Q9.out.later hW).blk Q9.out.low (tt.out W hW) hg
  have hx:W'.heap[X]? =some (aH op A la ln lc):=by
   refine(hg.block X (aK (ar hW HXI.out)) fun hx=>?_).trans (ar hW HXI.out);obtain⟨_,cur,h2⟩:=dN ((HQ.out.fo _ hlm).code) hx.symm;have:=aK h2;omega
  have hc:W'.cell? (ZA R 5)=some (ZL fb (k+1) m.fc):=by
   have h5:=ag (i:=5) hr;rw[show(rfA m 6)[5]? =some (.slice m.fa m.fn m.fc) from rfl,dy.out,j8.out,hik]at h5;exact h5
  have qap:=Q9.out.low
  exact⟨⟨hc,ag hx,ag hx,ag hx⟩,fun u=>⟨(World.cell?_setCell_other _ _ _ _ (fun e=>by injection e with e1; omega)).trans hc,(World.cell?_setCell_other _ _ _ _ (fun e=>by injection e with e1; omega)).trans (ag hx),(World.cell?_setCell_other _ _ _ _ (fun e=>by injection e with e1; omega)).trans (ag hx),(World.cell?_setCell_other _ _ _ _ (fun e=>by injection e with e1; omega)).trans (ag hx)⟩⟩:(W'.cell? (ZA R 5)=some (ZL fb (k+1) m.fc)/\W'.cell? (ZA X 0)=some (ZU op)/\W'.cell? (ZA X 1)=some (ZI A)/\W'.cell? (ZA X 2)=some (.slice la ln lc))/\∀u,(W'.setCell (ZA fb (k*3+2)) u).cell? (ZA R 5)=some (ZL fb (k+1) m.fc)/\(W'.setCell (ZA fb (k*3+2)) u).cell? (ZA X 0)=some (ZU op)/\(W'.setCell (ZA fb (k*3+2)) u).cell? (ZA X 1)=some (ZI A)/\(W'.setCell (ZA fb (k*3+2)) u).cell? (ZA X 2)=some (.slice la ln lc)))
 have B1:=hid ((ZT w9.heap.size w9).drew);have hkl:(k:Int)<(k:Int)+1:=ae;have hwk:IntKind.i64.wrap (k:Int)=(k:Int):=IntWalk.i64_in _ ae;clear hlm hgl hll hik ee hXw
 go_upto_region 19 with fail
 have hS0:=z'.out _ B1.out;refine ZX (S:=fun W=>W.cell? (ZA R 5)=some (ZL fb (k+1) m.fc)/\W.cell? (ZA X 0)=some (ZU op)/\W.cell? (ZA X 1)=some (ZI A)/\W.cell? (ZA X 2)=some (.slice la ln lc)) ak (z'.out w9 (ZT _ _)) (fun hHeld=>?_)
 generalize w9.drew=wd at *;refine Zt 0 ?_;refine Zt 1 ?_;refine Zt 2 ?_;refine Zt 3 ?_;refine Zt 4 ?_;refine Zt 5 ?_;refine Zt 6 ?_;refine Zt 7 ?_;refine Zt 8 ?_;refine Zt 9 ?_;refine Zt 10 ?_;refine Zt 11 ?_;refine Zt 12 ?_;refine Zt 13 ?_;refine Zt 15 ?_;refine Zu 14 16 (fun K hK=>?_) fun K hK=>?_
 ·have c14:wd.cell? (ZA fb (k*3+2))=some (.slice ca cn cc):=vl.out _ B1.out;go_simp
  refine Zv hK ?_ (z'.out _ B1.out);clear hK K;refine ZR 16 fun K hK=>?_;go_simp;have BN:=Zy B1 (aj wd (aH op A la ln lc));exact OL
 go_simp;have BN:=Zy B1 (aj wd (aH op A la ln lc));refine Zv hK ?_ (z'.out _ BN.out);clear hK K;refine ZR 14 fun K hK=>?_;have c14:(wd.alloc (aH op A la ln lc)).cell? (ZA fb (k*3+2))=some (.slice ca cn cc):=vl.out _ BN.out;go_simp;exact OL
theorem xY(b off n c:Nat)(t:Zai)(w:World)(h:RF base R m pt w)(c0:w.cell? (ZA b off)=some (.string ⟨#[102,108,97,103,111,110]⟩))(hl:t.length+1=n)(hcn:n<=c)(nF:n<=2097152)(hps:psz (pl m)<=2097152)(sT:0<=pt/\pt<=0) :
  Zw 58 #[ZP R 0,.slice (some (ZA b off)) n c] w (LnF base R w (im pt (pl m) (⟨#[102,108,97,103,111,110]⟩::t))):=by
 have HO:=hid (gB ⟨#[102,108,97,103,111,110]⟩ w);rw[show oZ ⟨#[102,108,97,103,111,110]⟩=1 from by decide]at HO;have HQ:=hid h;have c8:w.cell? (ZA R 8)=some (ZI pt):=h.cells 8;have f8:w.frozen? (ZA R 8)=false:=h.free 8;have HAC:=hid sT;clear h;go_enter func58,ntmps58
 go_wp2_with fail;refine HO.out.mono ?_;rintro e w1⟨rfl,hw⟩;have hw':=hw.symm;subst hw'
 go_upto_region 4 with fail
 go_cut [69] from 26 to 69 (fun v wx=>v=.bool false/\wx=w)
 case first =>
  obtain rfl:pt=0:=gA
  all_goals
   go_wp2_with fail;exact jX
 case rest =>
 obtain⟨rfl,hwc⟩:=hcut;subst hwc;have Q0:=hid (HQ.out.part 1 gA);have K0:=hid (KR.set base R 8 wc (ZI 1));clear HO
 go_upto_region 7 with fail
 generalize wc.setCell (ZA R 8) (ZI 1)=ws at *;clear c8 f8
 by_cases h1:n=1
 ·subst h1;go_wp2_with fail;go_ret
  have e:im pt (pl m) (⟨#[102,108,97,103,111,110]⟩::t)=some (1,pl m):=by unfold im; rw[if_pos ⟨gA,by simpa using hl⟩]
  rw[e];exact⟨K0.out,rfl,m,Q0.out,rfl⟩
 have hb:((n:Int)==1)=false:=wV;go_wp2_with fail;go_ret
 have e:im pt (pl m) (⟨#[102,108,97,103,111,110]⟩::t)=none:=by unfold im; rw[if_neg (fun h=>h1 yi)]
 rw[e];exact⟨K0.out,rfl⟩
variable {b off o:Nat}{xs:Zai}
theorem AtS.setR(h:AtS w (some (ZA b off)) n xs)(hb:b≠R):AtS (w.setCell (ZA R o) u) (some (ZA b off)) n xs :=
 ⟨h.1,h.2.1,h.2.2.imp id fun⟨b',off',e,hc⟩=>⟨b',off',e,fun j x hj=>by
  cases e
  exact(World.cell?_setCell_other _ _ _ _ (fun e=>by injection e with e1; exact hb e1.symm)).trans (hc j x hj)⟩⟩
variable {M:PM}
theorem Ob(h:1<=pt/\pt<=4):dO pt M ws=(tP ws).map fun x=>(4,{ M with globals:=M.globals++[x] }):=by
 unfold dO tP
 by_cases hc:ws.length=4/\((wdx ws 2).toList=uU.toList\/(wdx ws 2).toList=qD.toList)
 ·rw[if_pos ⟨h,hc⟩,if_pos hc]
  cases nmV (wdx ws 3) with
  | none=>rfl
  | some v =>
   simp only[Zac,Option.map_map];rfl
 rw[if_neg (fun x=>hc x.2),if_neg hc];rfl
theorem Q5(h:5<=pt/\pt<=7):jl pt M ws=(uO ws).map fun x=>(7,{ M with data:=M.data++[x] }):=by
 unfold jl uO
 by_cases hc:ws.length=3
 ·rw[if_pos ⟨h,hc⟩,if_pos hc]
  cases nmV (wdx ws 1) with
  | none=>rfl
  | some v =>
   simp only[Zac,Option.map_map];rfl
 rw[if_neg (fun x=>hc x.2),if_neg hc];rfl
variable {w1:World}{e:Ending}
theorem LnF.pre{res:Option (Int×PM)}(h:LnF base R w1 res e w')(hk:KR base R w w1):LnF base R w res e w':=⟨hk.trans h.1,h.2⟩
theorem zF(b off n c:Nat)(t:Zai)(w:World)(h:RF base R m pt w)(c0:w.cell? (ZA b off)=some (.string ⟨#[103,108,111,98,97,108]⟩))(hl:t.length+1=n)(hcn:n<=c)(nF:n<=2097152)(hps:psz (pl m)<=2097152)(sT:1<=pt/\pt<=4)(hw:AtS w (some (ZA b off)) n (⟨#[103,108,111,98,97,108]⟩::t))(l0:b≠R):
  Zw 58 #[ZP R 0,.slice (some (ZA b off)) n c] w (LnF base R w (dO pt (pl m) (⟨#[103,108,111,98,97,108]⟩::t))):=by
 rw[Ob sT];have HO:=hid (gB ⟨#[103,108,111,98,97,108]⟩ w);rw[show oZ ⟨#[103,108,111,98,97,108]⟩=4 from by decide]at HO;have HQ:=hid h;have c8:w.cell? (ZA R 8)=some (ZI pt):=h.cells 8;have f8:w.frozen? (ZA R 8)=false:=h.free 8;have HAC:=hid sT;clear h;go_enter func58,ntmps58
 go_wp2_with fail;refine HO.out.mono ?_;rintro e w1⟨rfl,hw⟩;have hw':=hw.symm;subst hw'
 go_upto_region 4 with fail
 go_cut [69] from 26 to 69 (fun v wx=>v=.bool false/\wx=w)
 case first =>
  exact IB
 case rest =>
 obtain⟨rfl,hwc⟩:=hcut;subst hwc;have Q0:=hid (HQ.out.part 4 gA);have K0:=hid (KR.set base R 8 wc (ZI 4));clear HO;have HC:=hid (NZ (some (ZA b off)) n c (⟨#[103,108,111,98,97,108]⟩::t) (wc.setCell (ZA R 8) (ZI 4)) Q0.out (hw.setR l0) hps);clear hw c0
 go_upto_region 7 with fail
 generalize wc.setCell (ZA R 8) (ZI 4)=ws at *;clear c8 f8;go_wp2_with fail;refine HC.out.mono ?_;intro e w2 hres;have HR:=hid (LnF.pre hres K0.out)
 rcases hv:(tP (⟨#[103,108,111,98,97,108]⟩::t)).map (fun x=>((4:Int),{ pl m with globals:=(pl m).globals++[x] })) with _ | ⟨p',M'⟩
 ·exact yK
 exact wH
theorem Eg(b off n c:Nat)(t:Zai)(w:World)(h:RF base R m pt w)(c0:w.cell? (ZA b off)=some (.string ⟨#[100,97,116,97]⟩))(hl:t.length+1=n)(hcn:n<=c)(nF:n<=2097152)(hps:psz (pl m)<=2097152)(sT:5<=pt/\pt<=7)(hw:AtS w (some (ZA b off)) n (⟨#[100,97,116,97]⟩::t))(l0:b≠R)(hz:∀x∈⟨#[100,97,116,97]⟩::t,x.size<=2097152) :
  Zw 58 #[ZP R 0,.slice (some (ZA b off)) n c] w (LnF base R w (jl pt (pl m) (⟨#[100,97,116,97]⟩::t))):=by
 rw[Q5 sT];have HO:=hid (gB ⟨#[100,97,116,97]⟩ w);rw[show oZ ⟨#[100,97,116,97]⟩=7 from by decide]at HO;have HQ:=hid h;have c8:w.cell? (ZA R 8)=some (ZI pt):=h.cells 8;have f8:w.frozen? (ZA R 8)=false:=h.free 8;have HAC:=hid sT;clear h;go_enter func58,ntmps58
 go_wp2_with fail;refine HO.out.mono ?_;rintro e w1⟨rfl,hw⟩;have hw':=hw.symm;subst hw'
 go_upto_region 4 with fail
 go_cut [69] from 26 to 69 (fun v wx=>v=.bool false/\wx=w)
 case first =>
  obtain rfl | rfl | rfl:pt=5\/pt=6\/pt=7:=gA
  all_goals
   go_wp2_with fail;exact jX
 case rest =>
 obtain⟨rfl,hwc⟩:=hcut;subst hwc;have Q0:=hid (HQ.out.part 7 gA);have K0:=hid (KR.set base R 8 wc (ZI 7));clear HO;have HC:=hid (Py (some (ZA b off)) n c (⟨#[100,97,116,97]⟩::t) (wc.setCell (ZA R 8) (ZI 7)) Q0.out (hw.setR l0) hps hz);clear hw c0
 go_upto_region 7 with fail
 generalize wc.setCell (ZA R 8) (ZI 7)=ws at *;clear c8 f8;go_wp2_with fail;refine HC.out.mono ?_;intro e w2 hres;have HR:=hid (LnF.pre hres K0.out)
 rcases hv:(uO (⟨#[100,97,116,97]⟩::t)).map (fun x=>((7:Int),{ pl m with data:=(pl m).data++[x] })) with _ | ⟨p',M'⟩
 ·exact yK
 exact wH
section
set_option maxHeartbeats 8000000
variable {pt:Int}{M:PM}{x:BAz}{t:Zai}
theorem DK(h:1<=pt/\pt<=3):gq pt M (x::t)=(bz t).bind fun ns=>if ns.length=1 then some ((3:Int),{ M with hosts:=M.hosts++[ns.getD 0 0] }) else none:=by
 unfold gq
 cases ht:bz t with
 | none =>
  simp only[Option.bind_none]
  split
  ·rename_i h1
   match t,h1.2 with
   | [y],_ =>
    exact Gv
  rfl
 | some ns =>
  have hl:=(nN t ns ht).1;simp only[Zac]
  by_cases h1:t.length=1
  ·rw[if_pos ⟨h,by rw[Z1,h1]⟩,if_pos ae]
   match t,h1 with
   | [y],_ =>
    exact Gf
  exact GA
theorem Du(h:1<=pt/\pt<=4):jd pt M (x::t)=(bz t).bind fun ns=>if ns.length=2 then some ((5:Int),{ M with fi:=ns.getD 0 0,mo:=ns.getD 1 0 }) else none:=by
 unfold jd
 cases ht:bz t with
 | none =>
  simp only[Option.bind_none]
  split
  ·rename_i h1
   match t,h1.2 with
   | [y,z],_ =>
    simp only[bz]at ht;show(nmV y).bind (fun a=>(nmV z).map _)=none
    cases hy:nmV y with
    | none=>rfl
    | some v =>
     cases hz:nmV z with
     | none=>rfl
     | some u=>rw[hy,hz]at ht; simp at ht
  rfl
 | some ns =>
  have hl:=(nN t ns ht).1;simp only[Zac]
  by_cases h1:t.length=2
  ·rw[if_pos ⟨ae,by rw[Z1,h1]⟩,if_pos ae]
   match t,h1 with
   | [y,z],_ =>
    simp only[bz]at ht;show(nmV y).bind (fun a=>(nmV z).map _)=_
    cases hy:nmV y with
    | none=>rw[hy]at ht; cases ht
    | some v =>
     cases hz:nmV z with
     | none=>rw[hy,hz]at ht; simp at ht
     | some u =>
      rw[hy,hz]at ht;simp at ht;subst ht;rfl
  exact GA
variable {base R:Nat}{m:MM}
theorem x8(b off n c:Nat)(t:Zai)(w:World)(h:RF base R m pt w)(c0:w.cell? (ZA b off)=some (.string ⟨#[101,120,116,101,114,110]⟩))(hl:t.length+1=n)(hcn:n<=c)(nF:n<=2097152)(hps:psz (pl m)<=2097152)(sT:1<=pt/\pt<=3)(hw:AtS w (some (ZA b off)) n (⟨#[101,120,116,101,114,110]⟩::t))(l0:b≠R)(gR:∃cs,w.heap[b]? =some (.cells cs 9)) :
  Zw 58 #[ZP R 0,.slice (some (ZA b off)) n c] w (LnF base R w (gq pt (pl m) (⟨#[101,120,116,101,114,110]⟩::t))):=by
 obtain⟨i0,hi,hz0,hz1,hz2⟩:=Z0 AX
 have hn:m.hn<=2097152:=by
  have e1:=cE (g:=fJ) (fun _=>rfl) au h.rh;have e2:m.hosts.length<=psz (pl m):=qq;omega
 rw[DK sT];obtain⟨res,eC⟩:∃r,((bz t).bind fun ns=>if ns.length=1 then some ((3:Int),{ pl m with hosts:=(pl m).hosts++[ns.getD 0 0] }) else none)=r:=⟨_,rfl⟩;rw[eC];have rj:=hid eC;clear eC;have HO:=hid (gB ⟨#[101,120,116,101,114,110]⟩ w);rw[show oZ ⟨#[101,120,116,101,114,110]⟩=3 from by decide]at HO;have HQ:=hid h;have c8:w.cell? (ZA R 8)=some (ZI pt):=h.cells 8;have f8:w.frozen? (ZA R 8)=false:=h.free 8;have HAC:=hid sT;clear h;go_enter func58,ntmps58
 go_wp2_with fail;refine HO.out.mono ?_;rintro e w1⟨rfl,hw⟩;have hw':=hw.symm;subst hw'
 go_upto_region 4 with fail
 go_cut [69] from 26 to 69 (fun v wx=>v=.bool false/\wx=w)
 case first =>
  obtain rfl | rfl | rfl:pt=1\/pt=2\/pt=3:=gA
  all_goals
   go_wp2_with fail;exact jX
 case rest =>
 obtain⟨rfl,hwc⟩:=hcut;subst hwc;have Q0:=hid (HQ.out.part 3 gA);have K0:=hid (KR.set base R 8 wc (ZI 3));clear HO
 go_upto_region 7 with fail
 have hAt:AtS (wc.setCell (ZA R 8) (ZI 3)) (some (ZA b (off+1))) (n-1) t:=by
  refine⟨ae,ae,.inr ⟨b,off+1,rfl,fun j y hj=>?_⟩⟩
  rcases (hw.setR (o:=8) (u:=ZI 3) l0).2.2 with h0 | ⟨b',off',e,hc⟩
  ·omega
  exact Fi
 generalize wc.setCell (ZA R 8) (ZI 3)=ws at *;have qax:=hid (fun cc=>nR (some (ZA b (off+1))) (n-1) cc t ws hAt);have qay:=hid (fun(a:OAz) cc (h1:n=1)=>nR a 0 cc t ws ⟨ae,ae,.inl rfl⟩);have sE:=hid hl;have On:(1:Int)<=(n:Int):=ae;have hnc:(n:Int)<=(c:Int):=ae;clear c8 f8 hw c0 hAt hl gR
 go_upto_region 40 with fail
 go_cut [15,16] from 191 to 196 (fun v bb wx=>Hid (Zx ws wx)/\((bz t=none/\bb=.bool false)\/∃ns,bz t=some ns/\bb=.bool true/\A7 wx ws.heap.size v ns))
 case first =>
  exact Dx
 case rest =>
 obtain⟨P2,AS⟩:=hcut;generalize wc=w9 at *;clear qay qax On hnc;have Q1:=hid (Q0.out.later P2.out);have KX:=hid (K0.out.trans (KR.later P2.out))
 rcases AS with ⟨nw,rfl⟩ | ⟨ns,nw,rfl,hS⟩
 ·exact FC
 have C':=hid nw;have HS:=hid (show w9.ownsRow ws.heap.size 2 1 _ ns.length _ from hS);clear nw hS;obtain⟨na,nc,rfl⟩:=iH HS.out
 by_cases hk:ns.length=1
 rotate_left
 ·have hb:((ns.length:Int) != 1)=true:=bne_iff_ne.2 ae;exact Ii
 obtain⟨nb,rfl⟩:∃nb,na=some (ZA nb 0):=by
  exact EG
 obtain⟨z0,yW⟩:∃z,ns[0]? =some z:=⟨_,aD ae⟩
 have cz0:w9.cell? (ZA nb 0)=some (ZI z0):=by
  rw[World.ownsRow.cellAt HS.out 0 ae,List.getElem?_map,yW];rfl
 have ez0:ns.getD 0 0=z0:=by rw[Z3,yW]; rfl
 have hres:=hid (show res=some (3,{ pl m with hosts:=(pl m).hosts++[z0] }) by rw[<- rj.out,C'.out,Zac,if_pos hk,ez0])
 obtain⟨cs9,h9⟩:∃cs,w9.heap[nb]? =some (.cells cs 2):=by
  obtain⟨_,cur,h2⟩:=dN HS.out (b:=nb) rfl;exact⟨cur,h2⟩
 have H9:=hid h9
 have hnR:nb≠R:=by
  intro e;subst e;have:=Q1.out.blk;rw[h9]at this;simp at this
 have z':=hid (fun(W:World) (hW:Zx w9 W)=>(hW.cell (ZQ cz0)).trans cz0)
 have A':=hid (fun(W:World)(hW:Zx w9 W)(W':World) (hg:W.grownBy W' (Value.slice m.ha m.hn m.hc).ownBlock)=>(by
  have hx:W'.heap[nb]? =W.heap[nb]?:=hg.block nb (aK (ar hW H9.out)) (fun hx=>by
   obtain⟨_,cur,h2⟩:=dN ((Q1.out.later hW).rh) hx.symm;rw[ar hW H9.out]at h2
   simp at h2)
  have hc:W'.cell? (ZA nb 0)=some (ZI z0):=(World.cell?_of_block hx).trans (z'.out W hW)
  exact⟨hc,fun u=>(World.cell?_setCell_other _ _ _ _ (fun e=>by injection e with e1; exact hnR e1.symm)).trans hc⟩:W'.cell? (ZA nb 0)=some (ZI z0)/\∀u,(W'.setCell (ZA R 1) u).cell? (ZA nb 0)=some (ZI z0)))
 have hb:((ns.length:Int) != 1)=false:=by rw[hk]; rfl
 have hlp:(0:Int)<(ns.length:Int):=ae;have hlpn:0<ns.length:=ae;clear hk h9 yW ez0
 go_upto_region 44 with fail
 have B1:=hid ((ZT w9.heap.size w9).drew);refine ZX (S:=fun W=>W.cell? (ZA nb 0)=some (ZI z0)) ak cz0 (fun hHeld=>?_)
 generalize w9.drew=wd at *;refine Zt 0 ?_;refine Zt 1 ?_;refine Zt 2 ?_;refine Zt 3 ?_;refine Zt 4 ?_;refine Zt 6 ?_;refine Zt 7 ?_;refine Zt 8 ?_;refine Zu 5 9 (fun K hK=>?_) fun K hK=>?_
 ·have cH:wd.cell? (ZA R 1)=some (.slice m.ha m.hn m.hc):=(Q1.out.later B1.out).cells 1;go_simp
  refine Zv hK ?_ (z'.out _ B1.out);clear hK K;refine ZR 9 fun K hK=>?_;go_simp;have BN:=Zy B1 (aj wd (bR z0));exact Lb
 go_simp;have BN:=Zy B1 (aj wd (bR z0));refine Zv hK ?_ (z'.out _ BN.out);clear hK K;refine ZR 5 fun K hK=>?_;have cH:(wd.alloc (bR z0)).cell? (ZA R 1)=some (.slice m.ha m.hn m.hc):=(Q1.out.later BN.out).cells 1;go_simp;exact Lb
theorem wK(b off n c:Nat)(t:Zai)(w:World)(h:RF base R m pt w)(c0:w.cell? (ZA b off)=some (.string ⟨#[109,101,109,111,114,121]⟩))(hl:t.length+1=n)(hcn:n<=c)(nF:n<=2097152)(hps:psz (pl m)<=2097152)(sT:1<=pt/\pt<=4)(hw:AtS w (some (ZA b off)) n (⟨#[109,101,109,111,114,121]⟩::t))(l0:b≠R)(gR:∃cs,w.heap[b]? =some (.cells cs 9)) :
  Zw 58 #[ZP R 0,.slice (some (ZA b off)) n c] w (LnF base R w (jd pt (pl m) (⟨#[109,101,109,111,114,121]⟩::t))):=by
 rw[Du sT];obtain⟨res,eC⟩:∃r,((bz t).bind fun ns=>if ns.length=2 then some ((5:Int),{ pl m with fi:=ns.getD 0 0,mo:=ns.getD 1 0 }) else none)=r:=⟨_,rfl⟩;rw[eC];have rj:=hid eC;clear eC;have HO:=hid (gB ⟨#[109,101,109,111,114,121]⟩ w);rw[show oZ ⟨#[109,101,109,111,114,121]⟩=5 from by decide]at HO;have HQ:=hid h;have c8:w.cell? (ZA R 8)=some (ZI pt):=h.cells 8;have f8:w.frozen? (ZA R 8)=false:=h.free 8;have HAC:=hid sT;clear h;go_enter func58,ntmps58
 go_wp2_with fail;refine HO.out.mono ?_;rintro e w1⟨rfl,hw⟩;have hw':=hw.symm;subst hw'
 go_upto_region 4 with fail
 go_cut [69] from 26 to 69 (fun v wx=>v=.bool false/\wx=w)
 case first =>
  exact IB
 case rest =>
 obtain⟨rfl,hwc⟩:=hcut;subst hwc;have Q0:=hid (HQ.out.part 5 gA);have K0:=hid (KR.set base R 8 wc (ZI 5));clear HO
 go_upto_region 7 with fail
 have hAt:AtS (wc.setCell (ZA R 8) (ZI 5)) (some (ZA b (off+1))) (n-1) t:=by
  refine⟨ae,ae,.inr ⟨b,off+1,rfl,fun j y hj=>?_⟩⟩
  rcases (hw.setR (o:=8) (u:=ZI 5) l0).2.2 with h0 | ⟨b',off',e,hc⟩
  ·omega
  exact Fi
 generalize wc.setCell (ZA R 8) (ZI 5)=ws at *;have qax:=hid (fun cc=>nR (some (ZA b (off+1))) (n-1) cc t ws hAt);have qay:=hid (fun(a:OAz) cc (h1:n=1)=>nR a 0 cc t ws ⟨ae,ae,.inl rfl⟩);have sE:=hid hl;have On:(1:Int)<=(n:Int):=ae;have hnc:(n:Int)<=(c:Int):=ae;clear c8 f8 hw c0 hAt hl gR
 go_upto_region 40 with fail
 go_cut [15,16] from 191 to 196 (fun v bb wx=>Hid (Zx ws wx)/\((bz t=none/\bb=.bool false)\/∃ns,bz t=some ns/\bb=.bool true/\A7 wx ws.heap.size v ns))
 case first =>
  exact Dx
 case rest =>
 obtain⟨P2,AS⟩:=hcut;generalize wc=w9 at *;clear qay qax On hnc;have Q1:=hid (Q0.out.later P2.out);have KX:=hid (K0.out.trans (KR.later P2.out))
 rcases AS with ⟨nw,rfl⟩ | ⟨ns,nw,rfl,hS⟩
 ·exact FC
 have C':=hid nw;have HS:=hid (show w9.ownsRow ws.heap.size 2 1 _ ns.length _ from hS);clear nw hS;obtain⟨na,nc,rfl⟩:=iH HS.out
 by_cases hk:ns.length=2
 rotate_left
 ·have hb:((ns.length:Int) != 2)=true:=bne_iff_ne.2 ae;exact Ii
 obtain⟨nb,rfl⟩:∃nb,na=some (ZA nb 0):=by
  exact EG
 obtain⟨z0,yW⟩:∃z,ns[0]? =some z:=⟨_,aD ae⟩
 have cz0:w9.cell? (ZA nb 0)=some (ZI z0):=by
  rw[World.ownsRow.cellAt HS.out 0 ae,List.getElem?_map,yW];rfl
 have ez0:ns.getD 0 0=z0:=by rw[Z3,yW]; rfl
 obtain⟨z1,hzz1⟩:∃z,ns[1]? =some z:=⟨_,aD ae⟩
 have cz1:w9.cell? (ZA nb 1)=some (ZI z1):=by
  rw[World.ownsRow.cellAt HS.out 1 ae,List.getElem?_map,hzz1];rfl
 have ez1:ns.getD 1 0=z1:=by rw[Z3,hzz1]; rfl
 have hres:=hid (show res=some (5,{ pl m with fi:=z0,mo:=z1 }) by rw[<- rj.out,C'.out,Zac,if_pos hk,ez0,ez1])
 have hnR:nb≠R:=by
  intro e;subst e;obtain⟨_,cur,h2⟩:=dN HS.out (b:=nb) rfl;have:=Q1.out.blk;rw[h2]at this;simp at this
 have hb:((ns.length:Int) != 2)=false:=by rw[hk]; rfl
 have hlp:(0:Int)<(ns.length:Int):=ae;have hlq:(1:Int)<(ns.length:Int):=ae;have q1:=Q1.out.set (m':={ m with fi:=z0 }) (pt':=5) 3 (ZI z0) rfl ⟨rfl,rfl,rfl,rfl⟩ ⟨rfl,rfl,rfl,rfl⟩ ⟨rfl,rfl,rfl,rfl⟩ ⟨rfl,rfl,rfl,rfl⟩ ⟨rfl,rfl,rfl,rfl⟩ ⟨rfl,rfl,rfl,rfl⟩ (fun x=>x);have q2:=q1.set (m':={ m with fi:=z0,mo:=z1 }) (pt':=5) 4 (ZI z1) rfl ⟨rfl,rfl,rfl,rfl⟩ ⟨rfl,rfl,rfl,rfl⟩ ⟨rfl,rfl,rfl,rfl⟩ ⟨rfl,rfl,rfl,rfl⟩ ⟨rfl,rfl,rfl,rfl⟩ ⟨rfl,rfl,rfl,rfl⟩ (fun x=>x);have c3:w9.cell? (ZA R 3)=some (ZI m.fi):=Q1.out.cells 3;have f3:w9.frozen? (ZA R 3)=false:=Q1.out.free 3;have c4:(w9.setCell (ZA R 3) (ZI z0)).cell? (ZA R 4)=some (ZI m.mo):=q1.cells 4;have f4:(w9.setCell (ZA R 3) (ZI z0)).frozen? (ZA R 4)=false:=q1.free 4;have d1:(w9.setCell (ZA R 3) (ZI z0)).cell? (ZA nb 1)=some (ZI z1):=(World.cell?_setCell_other _ _ _ _ (fun e=>by injection e with e1; exact hnR e1.symm)).trans cz1;have K2:=hid (KX.out.trans ((KR.set base R 3 w9 (ZI z0)).trans (KR.set base R 4 _ (ZI z1))));have Q2:=hid q2;clear hk yW hzz1 ez0 ez1 q1 q2 cz1 hnR
 go_upto_region 47 with fail
 clear c3 f3 cz0;generalize w9.setCell (ZA R 3) (ZI z0)=wl at *;go_wp2_with fail;go_ret;rw[hres.out];exact⟨K2.out,rfl,_,Q2.out,gN⟩
theorem x7(b off n c:Nat)(t:Zai)(w:World)(h:RF base R m pt w)(c0:w.cell? (ZA b off)=some (.string ⟨#[101,120,112,111,114,116]⟩))(hl:t.length+1=n)(hcn:n<=c)(nF:n<=2097152)(hps:psz (pl m)<=2097152)(sT:5<=pt/\pt<=8)(hw:AtS w (some (ZA b off)) n (⟨#[101,120,112,111,114,116]⟩::t))(l0:b≠R)(gR:∃cs,w.heap[b]? =some (.cells cs 9)) :
  Zw 58 #[ZP R 0,.slice (some (ZA b off)) n c] w (LnF base R w (jt pt (pl m) (⟨#[101,120,112,111,114,116]⟩::t))):=by
 obtain⟨i0,hi,hz0,hz1,hz2⟩:=Z0 UO
 have hn:m.en<=2097152:=by
  exact GG
 have HO:=hid (gB ⟨#[101,120,112,111,114,116]⟩ w);rw[show oZ ⟨#[101,120,112,111,114,116]⟩=8 from by decide]at HO;have HQ:=hid h;have c8:w.cell? (ZA R 8)=some (ZI pt):=h.cells 8;have f8:w.frozen? (ZA R 8)=false:=h.free 8;have HAC:=hid sT;clear h;go_enter func58,ntmps58
 go_wp2_with fail;refine HO.out.mono ?_;rintro e w1⟨rfl,hw⟩;have hw':=hw.symm;subst hw'
 go_upto_region 4 with fail
 go_cut [69] from 26 to 69 (fun v wx=>v=.bool false/\wx=w)
 case first =>
  obtain rfl | rfl | rfl | rfl:pt=5\/pt=6\/pt=7\/pt=8:=gA
  all_goals
   go_wp2_with fail;exact jX
 case rest =>
 obtain⟨rfl,hwc⟩:=hcut;subst hwc;have Q0:=hid (HQ.out.part 8 gA);have K0:=hid (KR.set base R 8 wc (ZI 8));clear HO
 go_upto_region 7 with fail
 by_cases h3:n=3
 rotate_left
 ·have hb:((n:Int) != 3)=true:=bne_iff_ne.2 ae;go_wp2_with fail;go_ret
  have e:jt pt (pl m) (⟨#[101,120,112,111,114,116]⟩::t)=none:=by unfold jt; rw[if_neg (fun h=>h3 yi)]
  rw[e];exact⟨K0.out,rfl⟩
 subst h3
 obtain⟨x1,x2,rfl⟩:∃x1 x2,t=[x1,x2]:=by
  match t,hl with
  | [x1,x2],_=>exact⟨x1,x2,rfl⟩
 have c1:(wc.setCell (ZA R 8) (ZI 8)).cell? (ZA b (off+1))=some (.string x1):=by
  rcases (hw.setR (o:=8) (u:=ZI 8) l0).2.2 with h0 | ⟨b',off',e,hc⟩
  ·cases h0
  cases e
  exact hc 1 x1 rfl
 have c2:(wc.setCell (ZA R 8) (ZI 8)).cell? (ZA b (off+2))=some (.string x2):=by
  rcases (hw.setR (o:=8) (u:=ZI 8) l0).2.2 with h0 | ⟨b',off',e,hc⟩
  ·cases h0
  cases e
  exact hc 2 x2 rfl
 have h9:∃cs,(wc.setCell (ZA R 8) (ZI 8)).heap[b]? =some (.cells cs 9):=by
  obtain⟨cs,h9⟩:=gR;exact⟨cs,(heap_setCell_other _ _ _ _ l0).trans h9⟩
 generalize wc.setCell (ZA R 8) (ZI 8)=ws at *;clear c8 f8 hw c0 hl hcn;have HN:=hid (tF x2 ws);go_wp2_with fail;refine HN.out.mono ?_;rintro e w9⟨hb,v,bb,rfl,hy,hnn⟩
 have hres:jt pt (pl m) [⟨#[101,120,112,111,114,116]⟩,x1,x2]=if bb=true then some (8,{ pl m with exps:=(pl m).exps++[(x1,v)] }) else none:=by
  unfold jt;rw[if_pos ⟨HAC.out,rfl⟩];show(nmV x2).map (fun v=>((8:Int),{ pl m with exps:=(pl m).exps++[(x1,v)] }))=_
  cases bb with
  | true=>rw[hy rfl]; rfl
  | false =>
   cases hx:nmV x2 with
   | none=>rfl
   | some v'=>have:=(hnn v' hx).2; cases this
 have hres:=hid hres;have Q1:=hid (Q0.out.later hb);have KX:=hid (K0.out.trans (KR.later hb));obtain⟨cs9,h9⟩:=h9;have H9:=hid (show w9.heap[b]? =some (.cells cs9 9) from ar hb h9);have c1':w9.cell? (ZA b (off+1))=some (.string x1):=(hb.cell (ZQ c1)).trans c1;have z':=hid (fun(W:World) (hW:Zx w9 W)=>(hW.cell (ZQ c1')).trans c1')
 have A':=hid (fun(W:World)(hW:Zx w9 W)(W':World) (hg:W.grownBy W' (Value.slice m.ea m.en m.ec).ownBlock)=>(by
  have hx:W'.heap[b]? =W.heap[b]?:=hg.block b (aK (ar hW H9.out)) (fun hx=>by
   obtain⟨_,cur,h2⟩:=dN ((Q1.out.later hW).re) hx.symm;rw[ar hW H9.out]at h2
   simp at h2)
  have hc:W'.cell? (ZA b (off+1))=some (.string x1):=(World.cell?_of_block hx).trans (z'.out W hW)
  exact⟨hc,fun u=>(World.cell?_setCell_other _ _ _ _ (fun e=>by injection e with e1; exact l0 e1.symm)).trans hc⟩:W'.cell? (ZA b (off+1))=some (.string x1)/\∀u,(W'.setCell (ZA R 7) u).cell? (ZA b (off+1))=some (.string x1)))
 clear hb hy hnn c1 c2 HN h9 gR
 go_upto_region 29 with fail
 have B1:=hid ((ZT w9.heap.size w9).drew);refine ZX (S:=fun W=>W.cell? (ZA b (off+1))=some (.string x1)) ak c1' (fun hHeld=>?_)
 generalize w9.drew=wd at *;refine Zt 0 ?_;refine Zt 1 ?_;refine Zt 2 ?_;refine Zt 3 ?_;refine Zt 4 ?_;refine Zt 6 ?_;refine Zt 7 ?_;refine Zt 8 ?_;refine Zt 9 ?_;refine Zt 10 ?_;refine Zu 5 11 (fun K hK=>?_) fun K hK=>?_
 ·have cH:wd.cell? (ZA R 7)=some (.slice m.ea m.en m.ec):=(Q1.out.later B1.out).cells 7;go_simp
  refine Zv hK ?_ (z'.out _ B1.out);clear hK K;refine ZR 11 fun K hK=>?_;go_simp;have BN:=Zy B1 (aj wd (bK x1 v));exact Np
 go_simp;have BN:=Zy B1 (aj wd (bK x1 v));refine Zv hK ?_ (z'.out _ BN.out);clear hK K;refine ZR 5 fun K hK=>?_;have cH:(wd.alloc (bK x1 v)).cell? (ZA R 7)=some (.slice m.ea m.en m.ec):=(Q1.out.later BN.out).cells 7;go_simp;exact Np
theorem Cy(b off n c:Nat)(t:Zai)(w:World)(h:RF base R m pt w)(c0:w.cell? (ZA b off)=some (.string ⟨#[102,117,110,99]⟩))(hl:t.length+1=n)(hcn:n<=c)(nF:n<=2097152)(hps:psz (pl m)<=2097152)(sT:5<=pt/\pt<=6)(hw:AtS w (some (ZA b off)) n (⟨#[102,117,110,99]⟩::t))(l0:b≠R)(gR:∃cs,w.heap[b]? =some (.cells cs 9)) :
  Zw 58 #[ZP R 0,.slice (some (ZA b off)) n c] w (LnF base R w (iz pt (pl m) (⟨#[102,117,110,99]⟩::t))):=by
 obtain⟨i0,hi,hz0,hz1,hz2⟩:=Z0 Lu
 have hn:m.fn<=2097152:=by
  exact wJ
 have HO:=hid (gB ⟨#[102,117,110,99]⟩ w);rw[show oZ ⟨#[102,117,110,99]⟩=6 from by decide]at HO;have HQ:=hid h;have c8:w.cell? (ZA R 8)=some (ZI pt):=h.cells 8;have f8:w.frozen? (ZA R 8)=false:=h.free 8;have HAC:=hid sT;clear h;go_enter func58,ntmps58
 go_wp2_with fail;refine HO.out.mono ?_;rintro e w1⟨rfl,hw⟩;have hw':=hw.symm;subst hw'
 go_upto_region 4 with fail
 go_cut [69] from 26 to 69 (fun v wx=>v=.bool false/\wx=w)
 case first =>
  obtain rfl | rfl:pt=5\/pt=6:=gA
  all_goals
   go_wp2_with fail;exact jX
 case rest =>
 obtain⟨rfl,hwc⟩:=hcut;subst hwc;have Q0:=hid (HQ.out.part 6 gA);have K0:=hid (KR.set base R 8 wc (ZI 6));clear HO
 go_upto_region 7 with fail
 by_cases h3:n=3
 rotate_left
 ·have hb:((n:Int) != 3)=true:=bne_iff_ne.2 ae;go_wp2_with fail;go_ret
  have e:iz pt (pl m) (⟨#[102,117,110,99]⟩::t)=none:=by unfold iz; rw[if_neg (fun h=>h3 yi)]
  rw[e];exact⟨K0.out,rfl⟩
 subst h3
 obtain⟨x1,x2,rfl⟩:∃x1 x2,t=[x1,x2]:=by
  match t,hl with
  | [x1,x2],_=>exact⟨x1,x2,rfl⟩
 have c1:(wc.setCell (ZA R 8) (ZI 6)).cell? (ZA b (off+1))=some (.string x1):=by
  rcases (hw.setR (o:=8) (u:=ZI 6) l0).2.2 with h0 | ⟨b',off',e,hc⟩
  ·cases h0
  cases e
  exact hc 1 x1 rfl
 have c2:(wc.setCell (ZA R 8) (ZI 6)).cell? (ZA b (off+2))=some (.string x2):=by
  rcases (hw.setR (o:=8) (u:=ZI 6) l0).2.2 with h0 | ⟨b',off',e,hc⟩
  ·cases h0
  cases e
  exact hc 2 x2 rfl
 generalize wc.setCell (ZA R 8) (ZI 6)=ws at *;clear c8 f8 hw c0 hl hcn gR;have HN:=hid (tF x1 ws);go_wp2_with fail;refine HN.out.mono ?_;rintro e w9⟨hb,v,bb,rfl,hy,hnn⟩
 have hres:iz pt (pl m) [⟨#[102,117,110,99]⟩,x1,x2]=if bb=true then some (6,{ pl m with fns:=(pl m).fns++[(v,gX x2,[])] }) else none:=by
  unfold iz;rw[if_pos ⟨HAC.out,rfl⟩];show(nmV x1).map (fun v=>((6:Int),{ pl m with fns:=(pl m).fns++[(v,gX x2,[])] }))=_
  cases bb with
  | true=>rw[hy rfl]; rfl
  | false =>
   cases hx:nmV x1 with
   | none=>rfl
   | some v'=>have:=(hnn v' hx).2; cases this
 have hres:=hid hres;have c2':w9.cell? (ZA b (off+2))=some (.string x2):=(hb.cell (ZQ c2)).trans c2;have HB9:=hid hb;clear hb hy hnn c1 c2 HN
 go_upto_region 36 with fail
 have BX:=Zy HB9 (aj w9 (aN v x2 none 0 0));have qa0:=hid (hZn w9 (aN v x2 none 0 0));have HXS:=hid HB9.out.size;have c2'':(w9.alloc (aN v x2 none 0 0)).cell? (ZA b (off+2))=some (.string x2):=((aj w9 _).cell (ZQ c2')).trans c2';clear c2';generalize w9.alloc (aN v x2 none 0 0)=wl at *;generalize w9.heap.size=X at *
 go_upto_if 176 with fail
 go_cut [] from 173 to 177 (fun wx=>Hid (wx.heap[X]? =some (aN v (gX x2) none 0 0))/\Hid (Zx ws wx))
 case first =>
  have g1:=iz1 qa0.out;have g2:=free_at (i:=1) qa0.out;go_wp2_with fail
  ·rename_i hk
   go_meet
   have HU:gX x2=⟨#[]⟩:=by unfold gX; rw[if_pos xJ]
   exact⟨hid (by rw[aT qa0.out,HU]; rfl),hid (BX.out.trans ((aB wl X 1 _).to_below BX.out.size (fun k hk e=>by have e:k=X:=e; have:=HXS.out; omega)))⟩
  rename_i hk
  go_meet
  have HU:gX x2=x2:=by unfold gX; rw[if_neg xJ]
  exact⟨hid (by rw[HU]; exact qa0.out),BX⟩
 case rest =>
 obtain⟨AT,HB10⟩:=hcut;clear BX qa0 c2'';have Q1:=hid (Q0.out.later HB10.out);have KX:=hid (K0.out.trans (KR.later HB10.out))
 go_upto_region 38 with fail
 generalize wc=w9 at *;have B1:=hid ((ZT w9.heap.size w9).drew);refine ZX (S:=fun _=>True) ak trivial (fun _=>?_)
 generalize w9.drew=wd at *;refine Zt 0 ?_;refine Zt 1 ?_;refine Zt 2 ?_;refine Zt 3 ?_;refine Zt 4 ?_;refine Zu 5 6 (fun K hK=>?_) fun K hK=>?_
 ·have cH:wd.cell? (ZA R 5)=some (.slice m.fa m.fn m.fc):=(Q1.out.later B1.out).cells 5;go_simp
  refine Zv hK ?_;clear hK K;refine ZR 6 fun K hK=>?_;have y0:=iz0 (ar B1.out AT.out);have y1:=iz1 (ar B1.out AT.out);have y2:=iz2 (ar B1.out AT.out);exact Ol
 have y0:=iz0 (ar B1.out AT.out);have y1:=iz1 (ar B1.out AT.out);have y2:=iz2 (ar B1.out AT.out);go_simp;refine Zv hK ?_;clear hK K;refine Zu 5 7 (fun K hK=>?_) fun K hK=>?_
 ·have cH:wd.cell? (ZA R 5)=some (.slice m.fa m.fn m.fc):=(Q1.out.later B1.out).cells 5;exact Ol
 go_simp;have BN:=Zy B1 (aj wd (aN v (gX x2) none 0 0));refine Zv hK ?_;clear hK K;refine ZR 5 fun K hK=>?_;have cH:(wd.alloc (aN v (gX x2) none 0 0)).cell? (ZA R 5)=some (.slice m.fa m.fn m.fc):=(Q1.out.later BN.out).cells 5;go_simp;refine Zv hK ?_;clear hK K;refine ZR 8 fun K hK=>?_;refine wp_append_lies _ (.tmp 183) (.tmp 185) 25 rfl base 78 i0 (.agg #[ZI 0,.string ⟨#[]⟩,ZN]) 3 48 underlying25 hi hz0 hz1 hz2 rfl au (.slice m.fa m.fn m.fc) m.fn (m.fns.flatMap dA) rfl (Q1.out.later BN.out).rf (ZA wd.heap.size 0) 1 1 (dA ((v,gX x2,(none,0,0),[]):FuM)) rfl rfl ?n1 ?n2 au aP ae (Q1.out.later BN.out).bw _ rfl ?_
 case n1 =>
  exact Dh
 case n2=>intro u hu; simp[dA]at hu; rcases hu with rfl | rfl | rfl <;> rfl
 intro g cap w6 Ft BE _ _;have PX:=hid ((Q1.out).pushF BN.out ((v,gX x2,(none,0,0),[]):FuM) au ⟨rfl,rfl⟩ Ft BE);have z6:=hid (bF ((Q1.out.later BN.out).blk) (Q1.out).low ((Q1.out.later BN.out).rf) BE);clear Ft BE;refine hK.out _ _ trivial (fun _=>?_)
 clear hK K;refine Zt 9 ?_;refine Zt 10 ?_;refine Zt 11 ?_;refine ZR 12 fun K hK=>?_;have c16:=iz5 z6.out;have f16:=free_at (i:=5) z6.out;go_simp;refine Zv hK ?_;clear hK K;refine Z4 ak ?_ _;go_wp2_with fail;go_ret;rw[hres.out];refine⟨KX.out.trans PX.out.2,?_⟩
 cases bb
 ·rfl
 exact⟨rfl,_,PX.out.1,by unfold pl; simp[plF]⟩
end
section
set_option maxHeartbeats 8000000
variable {t:Zai}{k:Nat}{x:BAz}
theorem Dj(h:t[k]? =some x):bQ (t.take (k+1))=(if k=0 then bQ (t.take k) else bQ (t.take k)++(⟨#[32]⟩:BAz))++x:=by
 apply eu;rw[List.take_add_one,h,Option.toList_some]
 cases t with
 | nil=>simp at h
 | cons y r =>
  cases k with
  | zero =>
   simp at h;subst h;simp[bQ,Lib.join_one,Lib.join_nil]
  | succ k =>
   rw[if_neg ae];simp only[List.take_succ_cons,List.cons_append,bQ,List.map_cons,List.map_append,List.map_nil,Lib.join_cons];simp[Lib.joinTail]
variable {B:Nat}
theorem tY(h:(bQ t).size<=B)(k:Nat):(bQ (t.take k)).size<=B:=by
 refine ZW ?_ h;unfold bQ ByteArray.size;simp only[List.size_toArray]
 cases t with
 | nil=>simp
 | cons y r =>
  cases k with
  | zero=>simp[Lib.join_nil]
  | succ k =>
   simp only[List.take_succ_cons,List.map_cons,Lib.join_cons,ZV,List.map_take];have:=Lib.joinTail_take_le [32] (r.map (·.data.toList)) k;omega
variable {base R:Nat}{m:MM}{pt:Int}
theorem Dl(b off n c:Nat)(t:Zai)(w:World)(h:RF base R m pt w)(c0:w.cell? (ZA b off)=some (.string ⟨#[116,121,112,101]⟩))(hl:t.length+1=n)(hcn:n<=c)(nF:n<=2097152)(hps:psz (pl m)<=2097152)(sT:1<=pt/\pt<=2)(hw:AtS w (some (ZA b off)) n (⟨#[116,121,112,101]⟩::t))(l0:b≠R)(gR:∃cs,w.heap[b]? =some (.cells cs 9))(hj:(bQ t).size<=8388608) :
  Zw 58 #[ZP R 0,.slice (some (ZA b off)) n c] w (LnF base R w (gp pt (pl m) (⟨#[116,121,112,101]⟩::t))):=by
 obtain⟨i0,hi,hz0,hz1,hz2⟩:=Z0 Im
 have hn:m.tn<=2097152:=by
  have e1:=cE (g:=iy) (fun _=>rfl) au h.rt;have e2:m.types.length<=psz (pl m):=qq;omega
 have HO:=hid (gB ⟨#[116,121,112,101]⟩ w);rw[show oZ ⟨#[116,121,112,101]⟩=2 from by decide]at HO;have HQ:=hid h;have c8:w.cell? (ZA R 8)=some (ZI pt):=h.cells 8;have f8:w.frozen? (ZA R 8)=false:=h.free 8;have HAC:=hid sT;clear h;go_enter func58,ntmps58
 go_wp2_with fail;refine HO.out.mono ?_;rintro e w1⟨rfl,hw⟩;have hw':=hw.symm;subst hw'
 go_upto_region 4 with fail
 go_cut [69] from 26 to 69 (fun v wx=>v=.bool false/\wx=w)
 case first =>
  obtain rfl | rfl:pt=1\/pt=2:=gA
  all_goals
   go_wp2_with fail;exact jX
 case rest =>
 obtain⟨rfl,hwc⟩:=hcut;subst hwc;have Q0:=hid (HQ.out.part 2 gA);have K0:=hid (KR.set base R 8 wc (ZI 2));clear HO
 go_upto_region 7 with fail
 have HC:=hid (show ∀(j:Nat)x,t[j]? =some x->(wc.setCell (ZA R 8) (ZI 2)).cell? (ZA b (off+(j+1)))=some (.string x) from fun j x hx=>by
  rcases (hw.setR (o:=8) (u:=ZI 2) l0).2.2 with h0 | ⟨b',off',e,hc⟩
  ·omega
  cases e
  exact hc (j+1) x oK)
 generalize wc.setCell (ZA R 8) (ZI 2)=ws at *;clear c8 f8 hw c0 hcn gR;obtain⟨sE,HJ⟩:=Zz hl hj;clear hl hj;go_wp2_with fail
 go_loop [6,7] (fun s i=>∃k:Nat,s=.string (bQ (t.take k))/\i=ZI ((k:Int)+1)/\k+1<=n) (fun _ i=>n+1-(intOf i).toNat)
 case atStart=>exact⟨0,by rw[List.take_zero]; rfl,rfl,by have:=sE.out; omega⟩
 case round =>
  obtain⟨k,rfl,rfl,hk⟩:=hrel
  by_cases hlt:k+1<n
  ·have hlt':(k:Int)+1<(n:Int):=ae
   obtain⟨x,hx⟩:∃x,t[k]? =some x:=⟨_,aD (by have:=sE.out; omega)⟩;have cx:ws.cell? (ZA b (off+(k+1)))=some (.string x):=HC.out k x hx;have HS:=hid (Dj hx);have hs0:=tY HJ.out k;have hs1:=tY HJ.out (k+1);have hwi:IntKind.i64.wrap ((k:Int)+1+1)=(k:Int)+1+1:=IntWalk.i64_in _ ae;have hj0:(0:Int)<=(k:Int)+1:=ae;clear hx
   by_cases It:k=0
   ·subst It;have h1n:(1:Int)<(n:Int):=ae;have cx1:ws.cell? (ZA b (off+1))=some (.string x):=cx
    have hs:bQ (t.take 0)=⟨#[]⟩:=by rw[List.take_zero]; rfl
    have iS:=hid (show bQ (t.take 1)=x by have:=HS.out; rw[if_pos rfl,hs]at this; rw[this]; exact eu av);rw[hs]
    have hsz:x.size<=8388608:=by have:=iS.out; rw[<- this]; exact tY HJ.out 1
    have hsz':¬9223372036854775807<x.size:=ae;clear cx hlt' hwi hj0 HS hs hs0 hs1;go_wp2_with fail;refine⟨⟨1,?_,bu,ae⟩,bD⟩;rw[iS.out]
    try (exact congrArg Value.string (eu av))
   have hkd:(1:Int)<(k:Int)+1:=ae;have HK:=hid It;have hsz:=hs1;rw[HS.out,if_neg It]at hsz
   have hsz':¬9223372036854775807<(bQ (t.take k)).size+1+x.size:=by
    have e:((bQ (t.take k)++(⟨#[32]⟩:BAz))++x).size=(bQ (t.take k)).size+1+x.size:=by rw[ByteArray.size_append,ByteArray.size_append]; rfl
    omega
   clear It hsz;go_wp2_with fail;refine⟨⟨k+1,by rw[HS.out,if_neg HK.out],bu,ae⟩,bD⟩
  have hlt':¬(k:Int)+1<(n:Int):=ae;have ht:t.take k=t:=ZY (by have:=sE.out; omega);rw[ht]
  have eC:gp pt (pl m) (⟨#[116,121,112,101]⟩::t)=if (rdE (bQ t)==0)=true then some (2,{ pl m with types:=(pl m).types++[(rdP (bQ t),rdR (bQ t))] }) else none:=by
   unfold gp;rw[List.tail_cons]
   by_cases h0:rdE (bQ t)=0
   ·rw[if_pos ⟨HAC.out,h0⟩,if_pos (by rw[h0]; rfl)]
   rw[if_neg (fun x=>h0 x.2),if_neg iJ]
  have hres:=hid eC;clear eC;have HRS:=hid (CE (bQ t) ws vd);generalize rdP (bQ t)=JP at *;generalize rdR (bQ t)=JR at *;generalize rdE (bQ t)=JE at *;generalize bQ t=JT at *;clear ht HJ HC;go_wp2_with fail;refine HRS.out.mono ?_;rintro e wl⟨rfl,hb⟩;have HB:=hid hb;clear hb HRS
  go_upto_region 19 with fail
  have BX:=Zy HB (aj wl (aW JP JR));have AT:=hid (hZn wl (aW JP JR));generalize wl.alloc (aW JP JR)=w9 at *;generalize wl.heap.size=X at *;have Q1:=hid (Q0.out.later BX.out);have KX:=hid (K0.out.trans (KR.later BX.out));obtain⟨B,hB⟩:∃B,(JE==0)=B:=⟨_,rfl⟩;rw[hB]at hres;have HBB:=hid hB;clear hB;have B1:=hid ((ZT w9.heap.size w9).drew);refine ZX (S:=fun _=>True) ak trivial (fun _=>?_)
  generalize w9.drew=wd at *;refine Zt 0 ?_;refine Zt 1 ?_;refine Zt 2 ?_;refine Zt 3 ?_;refine Zt 4 ?_;refine Zu 5 6 (fun K hK=>?_) fun K hK=>?_
  ·have cH:wd.cell? (ZA R 0)=some (.slice m.ta m.tn m.tc):=(Q1.out.later B1.out).cells 0;go_simp
   refine Zv hK ?_;clear hK K;refine ZR 6 fun K hK=>?_;have y0:=iz0 (ar B1.out AT.out);have y1:=iz1 (ar B1.out AT.out);exact NJ
  have y0:=iz0 (ar B1.out AT.out);have y1:=iz1 (ar B1.out AT.out);go_simp;refine Zv hK ?_;clear hK K;refine Zu 5 7 (fun K hK=>?_) fun K hK=>?_
  ·have cH:wd.cell? (ZA R 0)=some (.slice m.ta m.tn m.tc):=(Q1.out.later B1.out).cells 0;exact NJ
  go_simp;have BN:=Zy B1 (aj wd (aW JP JR));refine Zv hK ?_;clear hK K;refine ZR 5 fun K hK=>?_;have cH:(wd.alloc (aW JP JR)).cell? (ZA R 0)=some (.slice m.ta m.tn m.tc):=(Q1.out.later BN.out).cells 0;go_simp;refine Zv hK ?_;clear hK K;refine ZR 8 fun K hK=>?_;refine wp_append_lies _ (.tmp 108) (.tmp 110) 22 rfl base 73 i0 (.agg #[.string ⟨#[]⟩,.string ⟨#[]⟩]) 2 32 underlying22 hi hz0 hz1 hz2 rfl au (.slice m.ta m.tn m.tc) m.tn (m.types.flatMap iy) rfl (Q1.out.later BN.out).rt (ZA wd.heap.size 0) 1 1 (iy ((JP,JR):Sg)) rfl rfl ?n1 ?n2 au aP ae (Q1.out.later BN.out).bw _ rfl ?_
  case n1 =>
   exact Gi
  case n2=>intro u hu; simp[iy]at hu; rcases hu with rfl | rfl <;> rfl
  intro g cap w6 Ft BE _ _;have PX:=hid ((Q1.out).pushT BN.out ((JP,JR):Sg) Ft BE);have z6:=hid (bF ((Q1.out.later BN.out).blk) (Q1.out).low ((Q1.out.later BN.out).rt) BE);clear Ft BE;refine hK.out _ _ trivial (fun _=>?_)
  clear hK K;refine Zt 9 ?_;refine Zt 10 ?_;refine Zt 11 ?_;refine ZR 12 fun K hK=>?_;have c16:=iz0 z6.out;have f16:=free_at (i:=0) z6.out;go_simp;refine Zv hK ?_;clear hK K;refine Z4 ak ?_ _;go_wp2_with fail;go_ret;rw[hres.out,HBB.out];exact IP
variable {p:Int}
theorem Nu(b off n c:Nat)(x:BAz)(w:World)(h:RF base R m pt w)(c0:w.cell? (ZA b off)=some (.string x))(hn:1<=n)(hx:oZ x=p)(hp:1<=p/\p<=8)(hpt:0<=pt/\pt<=8)(hno:¬((p=1/\0<=pt/\pt<=0)\/(p=2/\1<=pt/\pt<=2)\/(p=3/\1<=pt/\pt<=3)\/(p=4/\1<=pt/\pt<=4)\/(p=5/\1<=pt/\pt<=4)\/(p=6/\5<=pt/\pt<=6)\/(p=7/\5<=pt/\pt<=7)\/(p=8/\5<=pt/\pt<=8))) :
  Zw 58 #[ZP R 0,.slice (some (ZA b off)) n c] w (ZG (.bool false) w):=by
 have HO:=hid (gB x w);rw[hx]at HO;have c8:w.cell? (ZA R 8)=some (ZI pt):=h.cells 8;obtain⟨HP,HT,HN⟩:=ZH hp hpt hno;have On:(0:Int)<(n:Int):=ae;have hp0:(p==0)=false:=wV;clear h hx hp hpt hno;go_enter func58,ntmps58
 go_wp2_with fail;refine HO.out.mono ?_;rintro e w1⟨rfl,hw⟩;have hw':=hw.symm;subst hw';clear HO
 go_upto_region 4 with fail
 go_cut [69] from 26 to 69 (fun v wx=>v=.bool true/\wx=w)
 case first =>
  clear hp0
  obtain rfl | rfl | rfl | rfl | rfl | rfl | rfl | rfl:p=1\/p=2\/p=3\/p=4\/p=5\/p=6\/p=7\/p=8:=by have:=HP.out; omega
  all_goals
   obtain rfl | rfl | rfl | rfl | rfl | rfl | rfl | rfl | rfl:pt=0\/pt=1\/pt=2\/pt=3\/pt=4\/pt=5\/pt=6\/pt=7\/pt=8:=by have:=HT.out; omega
   all_goals first
    | (exfalso; have:=HN.out; omega)
    | (go_wp2_with fail; go_meet; exact⟨rfl,rfl⟩)
 case rest =>
 obtain⟨rfl,hwc⟩:=hcut;subst hwc;exact lW
theorem JG(b off n c:Nat)(x:BAz)(t:Zai)(w:World)(h:RF base R m pt w)(hw:AtS w (some (ZA b off)) n (x::t))(hcn:n<=c)(nF:n<=2097152)(hps:psz (pl m)<=2097152)(hne:pt=6->m.fns≠[])(hx:oZ x=0)(c0:w.cell? (ZA b off)=some (.string x))(hn:1<=n) :
  Zw 58 #[ZP R 0,.slice (some (ZA b off)) n c] w (LnF base R w (cj pt (pl m) (x::t))):=by
 have HO:=hid (gB x w);rw[hx]at HO;have HC:=hid (QY b off n c (x::t) w h hw hn hcn hps nF hne);have On:(0:Int)<(n:Int):=ae;clear h hx hw hne;go_enter func58,ntmps58
 go_wp2_with fail;refine HO.out.mono ?_;rintro e w1⟨rfl,hw⟩;have hw':=hw.symm;subst hw';go_wp2_with fail;refine HC.out.mono ?_;intro e w2 hres;have HR:=hid hres
 rcases hv:cj pt (pl m) (x::t) with _ | ⟨p',M'⟩
 ·exact yK
 exact wH
theorem Ry(b off n c:Nat)(ws:Zai)(w:World)(h:RF base R m pt w)(hw:AtS w (some (ZA b off)) n ws)(hn:1<=n)(hcn:n<=c)(nF:n<=2097152)(hps:psz (pl m)<=2097152)(l0:b≠R)(gR:∃cs,w.heap[b]? =some (.cells cs 9))(hz:∀x∈ws,x.size<=2097152)(hj:(bQ ws.tail).size<=8388608)(hpt:0<=pt/\pt<=8)(hne:pt=6->m.fns≠[]) :
  Zw 58 #[ZP R 0,.slice (some (ZA b off)) n c] w (LnF base R w (bX pt (pl m) ws)):=by
 obtain⟨x,t,rfl⟩:∃x t,ws=x::t:=by
  cases ws with
  | nil=>have:=hw.1; simp at this; omega
  | cons x t=>exact⟨x,t,rfl⟩
 have hl:t.length+1=n:=by have:=hw.1; simpa using this
 have c0:w.cell? (ZA b off)=some (.string x):=by
  rcases hw.2.2 with h0 | ⟨b',off',e,hc⟩
  ·omega
  cases e
  have:=hc 0 x rfl;exact cR
 rw[List.tail_cons]at hj
 have no:∀{res:Option (Int×PM)} {p:Int},res=none->oZ x=p->(1<=p/\p<=8)->¬((p=1/\0<=pt/\pt<=0)\/(p=2/\1<=pt/\pt<=2)\/(p=3/\1<=pt/\pt<=3)\/(p=4/\1<=pt/\pt<=4)\/(p=5/\1<=pt/\pt<=4)\/(p=6/\5<=pt/\pt<=6)\/(p=7/\5<=pt/\pt<=7)\/(p=8/\5<=pt/\pt<=8))->Zw 58 #[ZP R 0,.slice (some (ZA b off)) n c] w (LnF base R w res):=fun hr hx hp hno=>by
  subst hr;refine(Nu b off n c x w h c0 hn hx hp hpt hno).mono ?_;rintro e w' ⟨rfl,rfl⟩;exact⟨KR.later (ZT _ _),rfl⟩
 by_cases h0:x=⟨#[102,108,97,103,111,110]⟩
 ·subst h0
  have e:bX pt (pl m) (⟨#[102,108,97,103,111,110]⟩::t)=im pt (pl m) (⟨#[102,108,97,103,111,110]⟩::t):=by
   unfold bX;have ew:wdx (⟨#[102,108,97,103,111,110]⟩::t) 0=⟨#[102,108,97,103,111,110]⟩:=rfl;rw[ew];exact if_pos rfl
  rw[e]
  by_cases ha:0<=pt/\pt<=0
  ·exact xY b off n c t w h c0 hl hcn nF hps ha
  exact no (p:=1) (by unfold im; rw[if_neg (fun h=>ha nu)]) au au ae
 by_cases h1:x=⟨#[116,121,112,101]⟩
 ·subst h1
  have e:bX pt (pl m) (⟨#[116,121,112,101]⟩::t)=gp pt (pl m) (⟨#[116,121,112,101]⟩::t):=by
   unfold bX;have ew:wdx (⟨#[116,121,112,101]⟩::t) 0=⟨#[116,121,112,101]⟩:=rfl;rw[ew];exact(if_neg au).trans (if_pos rfl)
  rw[e]
  by_cases ha:1<=pt/\pt<=2
  ·exact Dl b off n c t w h c0 hl hcn nF hps ha hw l0 gR hj
  exact no (p:=2) (by unfold gp; rw[if_neg (fun h=>ha nu)]) au au ae
 by_cases h2:x=⟨#[101,120,116,101,114,110]⟩
 ·subst h2
  have e:bX pt (pl m) (⟨#[101,120,116,101,114,110]⟩::t)=gq pt (pl m) (⟨#[101,120,116,101,114,110]⟩::t):=by
   unfold bX;have ew:wdx (⟨#[101,120,116,101,114,110]⟩::t) 0=⟨#[101,120,116,101,114,110]⟩:=rfl;rw[ew];exact(if_neg au).trans ((if_neg au).trans (if_pos rfl))
  rw[e]
  by_cases ha:1<=pt/\pt<=3
  ·exact x8 b off n c t w h c0 hl hcn nF hps ha hw l0 gR
  exact no (p:=3) (by unfold gq; rw[if_neg (fun h=>ha nu)]) au au ae
 by_cases h3:x=⟨#[103,108,111,98,97,108]⟩
 ·subst h3
  have e:bX pt (pl m) (⟨#[103,108,111,98,97,108]⟩::t)=dO pt (pl m) (⟨#[103,108,111,98,97,108]⟩::t):=by
   unfold bX;have ew:wdx (⟨#[103,108,111,98,97,108]⟩::t) 0=⟨#[103,108,111,98,97,108]⟩:=rfl;rw[ew];exact(if_neg au).trans ((if_neg au).trans ((if_neg au).trans (if_pos rfl)))
  rw[e]
  by_cases ha:1<=pt/\pt<=4
  ·exact zF b off n c t w h c0 hl hcn nF hps ha hw l0
  exact no (p:=4) (by unfold dO; rw[if_neg (fun h=>ha nu)]) au au ae
 by_cases h4:x=⟨#[109,101,109,111,114,121]⟩
 ·subst h4
  have e:bX pt (pl m) (⟨#[109,101,109,111,114,121]⟩::t)=jd pt (pl m) (⟨#[109,101,109,111,114,121]⟩::t):=by
   unfold bX;have ew:wdx (⟨#[109,101,109,111,114,121]⟩::t) 0=⟨#[109,101,109,111,114,121]⟩:=rfl;rw[ew];exact(if_neg au).trans ((if_neg au).trans ((if_neg au).trans ((if_neg au).trans (if_pos rfl))))
  rw[e]
  by_cases ha:1<=pt/\pt<=4
  ·exact wK b off n c t w h c0 hl hcn nF hps ha hw l0 gR
  exact no (p:=5) (by unfold jd; rw[if_neg (fun h=>ha nu)]) au au ae
 by_cases h5:x=⟨#[102,117,110,99]⟩
 ·subst h5
  have e:bX pt (pl m) (⟨#[102,117,110,99]⟩::t)=iz pt (pl m) (⟨#[102,117,110,99]⟩::t):=by
   unfold bX;have ew:wdx (⟨#[102,117,110,99]⟩::t) 0=⟨#[102,117,110,99]⟩:=rfl;rw[ew];exact(if_neg au).trans ((if_neg au).trans ((if_neg au).trans ((if_neg au).trans ((if_neg au).trans (if_pos rfl)))))
  rw[e]
  by_cases ha:5<=pt/\pt<=6
  ·exact Cy b off n c t w h c0 hl hcn nF hps ha hw l0 gR
  exact no (p:=6) (by unfold iz; rw[if_neg (fun h=>ha nu)]) au au ae
 by_cases h6:x=⟨#[100,97,116,97]⟩
 ·subst h6
  have e:bX pt (pl m) (⟨#[100,97,116,97]⟩::t)=jl pt (pl m) (⟨#[100,97,116,97]⟩::t):=by
   unfold bX;have ew:wdx (⟨#[100,97,116,97]⟩::t) 0=⟨#[100,97,116,97]⟩:=rfl;rw[ew];exact(if_neg au).trans ((if_neg au).trans ((if_neg au).trans ((if_neg au).trans ((if_neg au).trans ((if_neg au).trans (if_pos rfl))))))
  rw[e]
  by_cases ha:5<=pt/\pt<=7
  ·exact Eg b off n c t w h c0 hl hcn nF hps ha hw l0 hz
  exact no (p:=7) (by unfold jl; rw[if_neg (fun h=>ha nu)]) au au ae
 by_cases h7:x=⟨#[101,120,112,111,114,116]⟩
 ·subst h7
  have e:bX pt (pl m) (⟨#[101,120,112,111,114,116]⟩::t)=jt pt (pl m) (⟨#[101,120,112,111,114,116]⟩::t):=by
   unfold bX;have ew:wdx (⟨#[101,120,112,111,114,116]⟩::t) 0=⟨#[101,120,112,111,114,116]⟩:=rfl;rw[ew];exact(if_neg au).trans ((if_neg au).trans ((if_neg au).trans ((if_neg au).trans ((if_neg au).trans ((if_neg au).trans ((if_neg au).trans (if_pos rfl)))))))
  rw[e]
  by_cases ha:5<=pt/\pt<=8
  ·exact x7 b off n c t w h c0 hl hcn nF hps ha hw l0 gR
  exact no (p:=8) (by unfold jt; rw[if_neg (fun h=>ha nu)]) au au ae
 have e:bX pt (pl m) (x::t)=cj pt (pl m) (x::t):=by
  unfold bX;rw[if_neg (show ¬wdx (x::t) 0=_ from h0),if_neg (show ¬wdx (x::t) 0=_ from h1),if_neg (show ¬wdx (x::t) 0=_ from h2),if_neg (show ¬wdx (x::t) 0=_ from h3),if_neg (show ¬wdx (x::t) 0=_ from h4),if_neg (show ¬wdx (x::t) 0=_ from h5),if_neg (show ¬wdx (x::t) 0=_ from h6),if_neg (show ¬wdx (x::t) 0=_ from h7)]
 rw[e];exact JG b off n c x t w h hw hcn nF hps hne F7 c0 hn
structure PZ(B:Nat)(M:PM):Prop where
 t:∀x∈M.types,x.1.size<=B/\x.2.size<=B
 f:∀x∈M.fns,x.2.1.size<=B
 d:∀x∈M.data,x.2.length<=B
 e:∀x∈M.exps,x.1.size<=B
theorem pz0(B:Nat):PZ B pm0:=⟨(fun x hx=>fG),(fun x hx=>fG),(fun x hx=>fG),(fun x hx=>fG)⟩
variable {ws:Zai}
theorem zH(hz:∀x∈ws,x.size<=B)(i:Nat):(wdx ws i).size<=B:=by
 unfold wdx
 rcases hx:ws[i]? with _ | x
 ·simp only[List.getD,hx,Option.getD_none]; exact Z5 _
 exact EE
variable {s:BAz}
theorem WE(h:rdE s=0):(rdP s).size<=8/\(rdR s).size<=8:=by
 have hb:rdB s=true:=by
  unfold rdE at h
  split at h
  ·assumption
  cases h
 have h1:=(Hi hb).1;unfold l9 at h1;rw[Bool.and_eq_true]at h1;exact⟨((pT _ _).1 h1.1).2,((pT _ _).1 h1.2).2⟩
variable {p':Int}{M M':PM}
theorem R9(h:bX p M ws=some (p',M'))(hP:PZ B M)(hz:∀x∈ws,x.size<=B)(hB:8<=B):PZ B M'/\0<=p'/\p'<=8:=by
 unfold bX at h
 split at h
 ·unfold im at h
  split at h
  ·cases h; exact⟨hP,ae,ae⟩
  cases h
 split at h
 ·unfold gp at h
  split at h
  ·rename_i hc
   cases h;have h8:=WE hc.2;exact⟨⟨fS hP.t uf,hP.f,hP.d,hP.e⟩,ae,ae⟩
  cases h
 split at h
 ·unfold gq at h
  split at h
  ·rcases h3:nmV (wdx ws 1) with _ | v
   ·exact fp
   rw[h3]at h; cases h; exact⟨⟨hP.t,hP.f,hP.d,hP.e⟩,ae,ae⟩
  cases h
 split at h
 ·unfold dO at h
  split at h
  ·rcases h3:nmV (wdx ws 3) with _ | v
   ·exact fp
   rw[h3]at h;simp only[Zac]at h
   rcases h4:gvV (wdx ws 1) v with _ | x
   ·exact jv
   exact Ir
  cases h
 split at h
 ·unfold jd at h
  split at h
  ·rcases h3:nmV (wdx ws 1) with _ | v
   ·exact fp
   rw[h3]at h;simp only[Zac]at h
   rcases h4:nmV (wdx ws 2) with _ | x
   ·exact jv
   exact Ir
  cases h
 split at h
 ·unfold iz at h
  split at h
  ·rcases h3:nmV (wdx ws 1) with _ | v
   ·exact fp
   rw[h3]at h; cases h;refine⟨⟨hP.t,fS hP.f ?_,hP.d,hP.e⟩,ae,ae⟩;dsimp only;unfold gX
   split
   ·exact Z5 _
   exact zH hz 2
  cases h
 split at h
 ·unfold jl at h
  split at h
  ·rcases h3:nmV (wdx ws 1) with _ | v
   ·exact fp
   rw[h3]at h;simp only[Zac]at h
   rcases h4:kP (wdx ws 2) with _ | x
   ·exact jv
   rw[h4]at h; cases h;have h5:=(zP _ _ h4).1;have h6:=zH hz 2;have h7:(wdx ws 2).data.toList.length=(wdx ws 2).size:=Zab;exact⟨⟨hP.t,hP.f,fS hP.d uf,hP.e⟩,ae,ae⟩
  cases h
 split at h
 ·unfold jt at h
  split at h
  ·rcases h3:nmV (wdx ws 2) with _ | v
   ·exact fp
   rw[h3]at h; cases h;exact⟨⟨hP.t,hP.f,hP.d,fS hP.e (zH hz 1)⟩,ae,ae⟩
  cases h
 unfold cj at h
 split at h
 ·rcases h3:iP (bi (wdx ws 0)).1 ws with _ | y
  ·exact fp
  rw[h3]at h; cases h;refine⟨⟨hP.t,?_,hP.d,hP.e⟩,ae,ae⟩;intro x hx;dsimp only at hx;unfold qA at hx
  split at hx
  ·exact hP.f x hx
  rename_i f hf
  rcases List.mem_append.1 hx with hx | hx
  ·exact hP.f x (List.dropLast_subset _ hx)
  obtain rfl:=List.mem_singleton.1 hx;exact hP.f f (List.mem_of_getLast? hf)
 cases h
theorem Rl(h:gh p M s=some (p',M'))(hp:0<=p/\p<=8)(hP:PZ B M)(hs:s.size<=B)(hB:8<=B):PZ B M'/\0<=p'/\p'<=8:=by
 unfold gh at h
 split at h
 ·cases h; exact⟨hP,hp.1,hp.2⟩
 exact R9 h hP (fun x hx=>ZW ((oJ s).2 x hx) hs) hB
variable {x:Nat}
theorem MX{l:List Nat}(h:x∈l):x<=l.sum:=by
 induction l with
 | nil=>cases h
 | cons y r ih =>
  rw[List.sum_cons]
  rcases List.mem_cons.1 h with rfl | h
  ·omega
  have:=ih h; omega
theorem Vx(hl:LnM m)(hP:PZ 131072 (pl m))(hz:psz (pl m)<=131073)(hc:∀x∈m.fns,x.2.2.2.length=x.2.2.1.2.1)(hd:∀x∈m.data,x.2.2.length=x.2.1.2.1):Szs m:=by
 have e:psz (pl m)=m.types.length+m.hosts.length+m.globals.length+m.fns.length+((m.fns.map fun f=>f.2.2.2.length)).sum+m.data.length+m.exps.length:=by
  unfold psz pl;simp only[List.length_map,List.map_map]
  congr 4
  apply List.map_congr_left;intro x _;simp[plF]
 obtain⟨h1,h2,h3,h4,h5,h6⟩:=hl;refine⟨ae,ae,ae,ae,ae,ae,fun j x hj=>?_,fun j x hj=>?_,fun j x hj=>?_,fun j x hj=>?_⟩
 ·have:=hP.t x (ZO hj); omega
 ·have hm:=ZO hj;have h7:x.2.1.size<=131072:=hP.f (plF x) (List.mem_map.2 ⟨x,hm,rfl⟩)
  have h8:=MX (List.mem_map.2 ⟨x,hm,rfl⟩:x.2.2.2.length∈m.fns.map fun f=>f.2.2.2.length);have h9:=hc x hm;omega
 ·have hm:=ZO hj;have h7:x.2.2.length<=131072:=hP.d (plD x) (List.mem_map.2 ⟨x,hm,rfl⟩);have h9:=hd x hm;omega
 have:=hP.e x (ZO hj); omega
variable {w:World}
theorem RF.lens(h:RF base R m pt w):(∀x∈m.fns,x.2.2.2.length=x.2.2.1.2.1)/\∀x∈m.data,x.2.2.length=x.2.1.2.1 :=
 ⟨fun x hx=>cE (g:=eD) (fun _=>rfl) au (h.fo x hx).code,fun x hx=>cE (g:=oV) (fun _=>rfl) au (h.dd x hx)⟩
theorem nv:∀(l:Zaj)(st:Option (List UInt8)),(je l st).length<=l.length+1
 | [],none=>by simp[je]
 | [],some t=>by simp[je]
 | c::l,none=>by
  rw[je]
  split
  ·exact ZW (nv l none) av
  exact ZW (nv l _) av
 | c::l,some t=>by
  rw[je]
  split
  ·have:=nv l none
   simp only[Z1];omega
  exact ZW (nv l _) av
def jo(s:BAz)(k:Nat)(st:Option Nat):List (List UInt8):=je (s.data.toList.drop k) (st.map fun fr=>(s.data.toList.drop fr).take (k-fr))
theorem LW(hk:k<s.data.toList.length)(h:ic s.data.toList[k]!.toNat=true):jo s k none=jo s (k+1) none:=by
 exact EO
variable {fr:Nat}
theorem JB(hk:k<s.data.toList.length)(h:ic s.data.toList[k]!.toNat=true):jo s k (some fr)=(s.data.toList.drop fr).take (k-fr)::jo s (k+1) none:=by
 exact EO
theorem Qb(hk:k<s.data.toList.length)(h:ic s.data.toList[k]!.toNat=false):jo s k none=jo s (k+1) (some k):=by
 unfold jo;rw[drop_at _ hk];show(if _ then _ else _)=_;rw[if_neg (by rw[h]; exact Bool.false_ne_true)];simp only[Option.map_some];rw[yR _ (Nat.le_refl k) hk,Nat.sub_self];rfl
theorem KQ(hf:fr<=k)(hk:k<s.data.toList.length)(h:ic s.data.toList[k]!.toNat=false):jo s k (some fr)=jo s (k+1) (some fr):=by
 unfold jo;rw[drop_at _ hk];show(if _ then _ else _)=_;rw[if_neg (by rw[h]; exact Bool.false_ne_true)];simp only[Option.map_some];rw[yR _ hf hk]
theorem nO(hk:s.data.toList.length<=k):jo s k none=[]:=by
 unfold jo;rw[List.drop_eq_nil_of_le hk];rfl
theorem CY(hk:s.data.toList.length<=k):jo s k (some fr)=[(s.data.toList.drop fr).take (k-fr)]:=by
 unfold jo;rw[List.drop_eq_nil_of_le hk];rfl
theorem QJ(s:BAz)(w:World)(hs:s.size<=1000000000) :
  Zw 20 #[.string s] w fun e w'=>∃v,e=.returned v/\St8 w' w.heap.size v ((je s.data.toList none).map ba)/\Zx w w':=by
 have hL:s.data.toList.length=s.size:=Zab;obtain⟨P,hP⟩:∃P,(je s.data.toList none).map ba=P:=⟨_,rfl⟩;rw[hP];have HPL:=hid (show P.length<=s.size+1 by rw[<- hP,List.length_map,<- hL]; exact nv _ _);have HP:=hid hP;clear hP;go_enter func20,ntmps20;go_wp2_with fail
 go_loopw [3,4,5] (fun l f i wr=>∃(xs:Zai)(st:Option Nat)(k:Nat),i=ZI k/\k<=s.size+1/\((st=none/\f=ZI (-1))\/∃fr:Nat,st=some fr/\f=ZI fr/\fr<=k/\k<=s.size)/\Hid (St8 wr w.heap.size l xs)/\Hid (Zx w wr)/\Hid (P=xs++(jo s k st).map ba)) (fun _ _ i _=>s.size+1-(intOf i).toNat)
 case atStart=>exact⟨[],none,0,rfl,Z5 _,.inl ⟨rfl,rfl⟩,hid (FM w _),hid (ZT _ _),hid (by rw[<- HP.out]; rfl)⟩
 case round =>
  obtain⟨xs,st,k,rfl,hk,hst,HS,HB,HQ⟩:=hrel;have HXL:=hid (show xs.length<=s.size+1 by have h1:=HPL.out; have h2:=congrArg List.length HQ.out; rw[ZV]at h2; omega);have It:(0:Int)<=(k:Int):=ae;have hwi:IntKind.i64.wrap ((k:Int)+1)=k+1:=IntWalk.i64_in _ ae
  by_cases hgo:k<=s.size
  ·have hgo':(k:Int)<=(s.size:Int):=ae
   by_cases hend:k=s.size
   ·have hen:((k:Int)==(s.size:Int))=true:=by simp[hend]
    have hen2:(k:Int)=(s.size:Int):=ae
    rcases hst with ⟨rfl,rfl⟩ | ⟨fr,rfl,rfl,hfk,hk2⟩
    ·as_aux_lemma =>
      go_wp2_with fail;exact⟨⟨xs,none,k+1,bu,ae,.inl ⟨rfl,rfl⟩,HS,HB,hid (by rw[nO ae]; have h1:=HQ.out; rw[nO ae]at h1; exact h1)⟩,bD⟩
    as_aux_lemma =>
     have vf:(0:Int)<=(fr:Int):=ae;have hfk1:(fr:Int)<=(k:Int):=ae
     go_wp2_with (at_builtin; (refine Rz _ rfl (.tmp 40) (.tmp 45) rfl w.heap.size _ xs (s.extract fr k) wr.heap.size rfl (HS.out.alloc _) rfl (by simp[hend]) zG qu ?_; intro v5 w5 As AI; have HS5:=hid As; have de:=hid ((HB.out.alloc HB.out.size _).trans AI); clear As AI))
     exact⟨⟨xs++[s.extract fr k],none,k+1,bu,ae,.inl ⟨rfl,rfl⟩,HS5,de,hid (by have h1:=HQ.out; rw[CY ae]at h1; rw[nO ae,yP,Z2]; exact h1)⟩,bD⟩
   have hlt:k<s.size:=ae;have hlt':(k:Int)<(s.size:Int):=ae;have hen:((k:Int)==(s.size:Int))=false:=aA;have hen2:¬(k:Int)=(s.size:Int):=ae;have qe:k<s.data.toList.length:=ae;have rn:=hid (show s.data.toList[k]! =s[k] by rw[getElem!_pos s.data.toList k qe]; rfl)
   by_cases h9:s[k].toNat=9
   ·have HE:=hid (show ic s.data.toList[k]!.toNat=true by rw[rn.out,h9]; decide)
    exact CC
   skip
   by_cases h13:s[k].toNat=13
   ·have HE:=hid (show ic s.data.toList[k]!.toNat=true by rw[rn.out,h13]; decide)
    exact CC
   skip
   by_cases h32:s[k].toNat=32
   ·have HE:=hid (show ic s.data.toList[k]!.toNat=true by rw[rn.out,h32]; decide)
    exact CC
   skip
   have HE:=hid (show ic s.data.toList[k]!.toNat=false by rw[rn.out]; unfold ic; simp[h9,h13,h32]);have g9:(((s[k].toNat:Nat):Int)==9)=false:=zt;have g13:(((s[k].toNat:Nat):Int)==13)=false:=zt;have g32:(((s[k].toNat:Nat):Int)==32)=false:=zt
   rcases hst with ⟨rfl,rfl⟩ | ⟨fr,rfl,rfl,hfk,hk2⟩
   ·skip
    go_wp2_with fail;exact⟨⟨xs,some k,k+1,bu,ae,.inr ⟨k,rfl,rfl,ae,ae⟩,HS,HB,hid (by rw[<- Qb qe HE.out]; exact HQ.out)⟩,bD⟩
   as_aux_lemma =>
    have vf:(0:Int)<=(fr:Int):=ae;have hfk1:(fr:Int)<=(k:Int):=ae;have hfn:¬((fr:Int)<0):=ae;go_wp2_with fail;exact⟨⟨xs,some fr,k+1,bu,ae,.inr ⟨fr,rfl,bu,ae,ae⟩,HS,HB,hid (by rw[<- KQ hfk qe HE.out]; exact HQ.out)⟩,bD⟩
  have hgo':¬(k:Int)<=(s.size:Int):=ae
  rcases hst with ⟨rfl,rfl⟩ | ⟨fr,rfl,rfl,hfk,hk2⟩
  ·go_wp2_with fail;go_ret;refine⟨_,rfl,?_,HB.out⟩;have h1:=HQ.out;rw[nO ae,List.map_nil,List.append_nil]at h1;rw[h1];exact HS.out
  omega
theorem AQ(h:128<=x):ic x=false:=by
 unfold ic;simp only[Bool.or_eq_false_iff,beq_eq_false_iff_ne];omega
theorem Mt(n b0 b1 b2 b3:Nat)(h:128<=b0)(hn:1<=n):128<=(Lib.decodeN n b0 b1 b2 b3).1/\1<=(Lib.decodeN n b0 b1 b2 b3).2/\(Lib.decodeN n b0 b1 b2 b3).2<=n/\(Lib.decodeN n b0 b1 b2 b3).2<=4/\(2<=(Lib.decodeN n b0 b1 b2 b3).2->128<=b1)/\(3<=(Lib.decodeN n b0 b1 b2 b3).2->128<=b2)/\(4<=(Lib.decodeN n b0 b1 b2 b3).2->128<=b3):=by
 unfold Lib.decodeN
 repeat' split
 all_goals (simp only; omega)
variable {i:Nat}
theorem Bc(s:BAz)(hi:i<s.size):s.data.toList[i]? =some (s.get! i):=by
 have hl:i<s.data.toList.length:=by rw[Zab]; exact hi
 rw[aD hl];simp only[ByteArray.get!,Option.some.injEq];rw[Array.getElem!_eq_getD];simp only[Array.getD,Array.getElem_toList];exact(dif_pos hi).symm
theorem RH(s:BAz){pos:Nat}(hp:pos<s.size):∃c l,s.data.toList.drop pos=c::l /\
  ((Utf8.decode s pos=(c.toNat,1))\/∃r k,Utf8.decode s pos=(r,k)/\ic r=false/\1<=k/\pos+k<=s.size/\∀x∈(s.data.toList.drop pos).take k,ic x.toNat=false):=by
 have hd:s.data.toList.drop pos=s.get! pos::s.data.toList.drop (pos+1):=by
  have h:=Bc s hp
  have hl:pos<s.data.toList.length:=by rw[Zab]; exact hp
  rw[List.drop_eq_getElem_cons hl];rw[aD hl]at h;rw[i9 h]
 refine⟨_,_,hd,?_⟩;rw[Lib.decode_at]
 by_cases h:(s.get! pos).toNat<128
 ·left;unfold Lib.decodeN;rw[if_pos h]
 right;have hb:=Mt (s.size-pos) (s.get! pos).toNat (s.get! (pos+1)).toNat (s.get! (pos+2)).toNat (s.get! (pos+3)).toNat ae ae;generalize Lib.decodeN (s.size-pos) (s.get! pos).toNat (s.get! (pos+1)).toNat (s.get! (pos+2)).toNat (s.get! (pos+3)).toNat=d at *;obtain⟨r,k⟩:=d;dsimp only at hb;obtain⟨h1,h2,h3,h4,h5,h6,h7⟩:=hb
 refine⟨r,k,rfl,AQ h1,h2,ae,fun x hx=>?_⟩;obtain⟨j,hj⟩:=List.mem_iff_getElem?.1 hx
 have hjk:j<k:=by
  have:=(List.getElem?_eq_some_iff.1 hj).1;rw[List.length_take]at this;omega
 rw[List.getElem?_take,if_pos hjk,List.getElem?_drop,Bc s ae]at hj;have hx':=i9 hj;subst hx';apply AQ
 match j,hjk with
 | 0,_=>simpa using (by omega:128<=(s.get! pos).toNat)
 | 1,h=>exact h5 ae
 | 2,h=>exact h6 ae
 | 3,h=>exact h7 ae
 | j+4,h=>omega
theorem BM(l:Zaj){a pos k:Nat}(ha:a<=pos):(l.drop a).take (pos+k-a)=(l.drop a).take (pos-a)++(l.drop pos).take k:=by
 have e:pos+k-a=(pos-a)+k:=ae;rw[e,List.take_add,List.drop_drop,show a+(pos-a)=pos by omega]
theorem JI(s:BAz):∀(f pos:Nat)(st:Option Nat)(acc:List (Nat×Nat)),s.size-pos<=f->pos<=s.size->(∀a,st=some a->a<=pos) ->
  (Lib.closeSpans s (Lib.spansFromP ic s f pos st acc)).map (fun x=>(s.extract x.1 x.2).data.toList)=acc.map (fun x=>(s.extract x.1 x.2).data.toList)++je (s.data.toList.drop pos) (st.map fun a=>(s.data.toList.drop a).take (pos-a)):=by
 have hsz:s.data.toList.length=s.size:=Zab
 have fin:∀(st:Option Nat)(acc:List (Nat×Nat)),(∀a,st=some a->a<=s.size)->(Lib.closeSpans s (acc,st)).map (fun x=>(s.extract x.1 x.2).data.toList)=acc.map (fun x=>(s.extract x.1 x.2).data.toList)++je (s.data.toList.drop s.size) (st.map fun a=>(s.data.toList.drop a).take (s.size-a)):=by
  intro st acc h;rw[List.drop_eq_nil_of_le ae]
  cases st with
  | none=>simp[Lib.closeSpans,je]
  | some a=>simp[Lib.closeSpans,je]
 intro f
 induction f with
 | zero =>
  intro pos st acc h1 h2 h3;obtain rfl:pos=s.size:=ae;exact fin st acc h3
 | succ f ih =>
  intro pos st acc h1 h2 h3
  by_cases hp:pos<s.size
  ·obtain⟨c,l,hd,hdec⟩:=RH s hp
   have mm:s.data.toList.drop (pos+1)=l:=by rw[<- List.drop_drop,hd]; rfl
   unfold Lib.spansFromP;rw[if_pos hp]
   rcases hdec with hdec | ⟨r,k,hdec,hr,hk1,hk2,hk3⟩
   ·rw[hdec];dsimp only
    have t1:(s.data.toList.drop pos).take 1=[c]:=by rw[hd]; rfl
    cases st with
    | none =>
     rw[hd];simp only[Option.map_none,je]
     by_cases hb:ic c.toNat=true
     ·rw[if_pos hb,if_pos hb,ih (pos+1) none acc ae ae (fun a e=>eO),mm]
      rfl
     rw[if_neg hb,if_neg hb,ih (pos+1) (some pos) acc ae ae (fun a e=>qj),mm];simp only[Option.map_some];rw[show pos+1-pos=1 by omega,t1]
    | some a =>
     have ha':=h3 a rfl;rw[hd];simp only[Option.map_some,je]
     by_cases hb:ic c.toNat=true
     ·rw[if_pos hb,if_pos hb,ih (pos+1) none (acc++[(a,pos)]) ae ae (fun a e=>eO),mm]
      simp
     rw[if_neg hb,if_neg hb,ih (pos+1) (some a) acc ae ae (fun b e=>qj),mm];simp only[Option.map_some];rw[BM s.data.toList ha',t1]
   rw[hdec];dsimp only
   have hs2:s.data.toList.drop pos=(s.data.toList.drop pos).take k++s.data.toList.drop (pos+k):=by
    rw[<- List.drop_drop];exact(List.take_append_drop k _).symm
   rw[hr];simp only[Bool.false_eq_true,if_false]
   cases st with
   | none =>
    simp only[Option.map_none];rw[ih (pos+k) (some pos) acc ae ae (fun a e=>qj)];simp only[Option.map_some];rw[show pos+k-pos=k by omega]
    have hw:Wrd ((s.data.toList.drop pos).take k):=⟨fun e=>by
     have:=congrArg List.length e;rw[List.length_take,List.length_drop]at this;simp at this
     omega,hk3⟩
    have:=LQ hw (s.data.toList.drop (pos+k));rw[<- hs2]at this;rw[this]
   | some a =>
    have ha':=h3 a rfl;simp only[Option.map_some];rw[ih (pos+k) (some a) acc ae ae (fun b e=>qj)];simp only[Option.map_some];have:=ra ((s.data.toList.drop pos).take k) ((s.data.toList.drop a).take (pos-a)) (s.data.toList.drop (pos+k)) hk3;rw[<- hs2]at this;rw[this,BM s.data.toList ha']
  obtain rfl:pos=s.size:=ae;rw[Lib.spansFromP_end _ _ _ _ _ _ hp];exact fin st acc h3
theorem JU(s:BAz):(je s.data.toList none).map ba=aG s:=by
 have h:=JI s s.size 0 none [] ae ae (fun a e=>eO);simp only[List.map_nil,List.nil_append,List.drop_zero,Option.map_none]at h;rw[<- h];unfold aG Lib.goFieldsP Lib.spansOfP;rw[List.map_map];apply List.map_congr_left;intro x _;rfl
end
end Go.Proofs.YtheefojaplnnoaaGreatDoor
