/-
  Texts Po.
-/
import Derived.Test.YtheefojaplnnoaaGreatDoorY00
import Derived.Test.YtheefojaplnnoaaGreatDoorY26
set_option linter.unusedVariables false
set_option maxRecDepth 100000
set_option maxHeartbeats 16000000
namespace Go.Proofs.YtheefojaplnnoaaGreatDoor
open Go.RowKit
theorem Sr:(Tryz.prog.info? 81).map (fun i=>(i.zero,i.size,i.bytes))=some (some (.agg #[.int .i64 0,.slice none 0 0]),2,32):=ai
theorem Rp:(Tryz.prog.info? 83).map (fun i=>(i.zero,i.size,i.bytes))=some (some (.agg #[.string ⟨#[]⟩,.int .i64 0]),2,24):=ai
theorem nk{w:World}{base base' e k n:Nat}{v:Value}{xs:List Value}(h:w.ownsRow base e k v n xs)(hb:base'≤base):w.ownsRow base' e k v n xs :=
 ⟨h.1,h.2.imp id fun⟨g,cap,cur,h1,h2,h3⟩=>⟨g,cap,cur,h1,Nat.le_trans hb h2,h3⟩⟩
theorem qK{w1 W:World}{X:Nat}{a b:Value}{t:TypeId}(hb:Below w1.heap.size w1 W)(hX:W.heap[X]? =some (.cells #[a,b] t))(hXg:w1.heap.size≤X)(u v:Value) :
  Below w1.heap.size w1 ((W.setCell ⟨X,0,none⟩ u).setCell ⟨X,1,none⟩ v)∧((W.setCell ⟨X,0,none⟩ u).setCell ⟨X,1,none⟩ v).heap[X]? =some (.cells #[u,v] t)∧Kept (fun k=>k=X) W ((W.setCell ⟨X,0,none⟩ u).setCell ⟨X,1,none⟩ v):=by
 have k1:=aw W X 0 u;have k2:=aw (W.setCell ⟨X,0,none⟩ u) X 1 v
 refine⟨hb.trans ((k1.trans k2).to_below hb.size (fun k _ hk=>by have e:k=X:=hk; omega)),?_,k1.trans k2⟩
 rw[bS (bS hX)];rfl
theorem ra{W W':World}{X base e k n:Nat}{v:Value}{xs:List Value}{cs:Array Value}{t:TypeId}(h:W.ownsRow base e k v n xs)(hk:Kept (fun k=>k=X) W W')(hX:W.heap[X]? =some (.cells cs t))(ht:e≠t):W'.ownsRow base e k v n xs :=
 jE h hk (fun b hb hx=>by
  obtain⟨_,cur,h1⟩:=iK h hb;have e:b=X:=hx;subst e;rw[h1]at hX
  simp only[Option.some.injEq,Obj.cells.injEq]at hX
  exact ht hX.2.1)
theorem NA{B base R A n c:Nat}{mp:Value}{m:MM}{ln pt:Int}{w:World}{ws:List ByteArray}(h:RQ base R mp m ln pt w)(hw:Wds w A n c ws)(hA:base≤A)(hE:cw B w)(hBR:B≤R)(hps:psz (pl m)≤2097152)(h1:5≤pt∧pt≤8)(h2:n=3){v:Int}(h3:nmV (wdx ws 2)=some v) :
  Calls Tryz.prog 115 #[.pointer (some ⟨R,0,none⟩),.slice (some ⟨A,0,none⟩) n c] w (LnP base R mp ln w (kN pt (pl m) ws)):=by
 obtain⟨i0,hi,hz0,hz1,hz2⟩:=info_parts Rp;obtain⟨x,hx⟩:∃x,ws[1]? =some x:=⟨_,aO aY⟩;have ex:wdx ws 1=x:=bZ;obtain⟨y,hy⟩:∃x,ws[2]? =some x:=⟨_,aO aY⟩;have ey:wdx ws 2=y:=di
 have e:kN pt (pl m) ws=some (8,{ pl m with exps:=(pl m).exps++[(wdx ws 1,v)] }):=by
  exact BM
 rw[e];subst h2
 have hn:m.en≤2097152:=by
  have e1:=ei (g:=oU) (fun _=>rfl) aj h.re
  have e2:m.exps.length≤psz (pl m):=uQ;omega
 have HO:=hid (bL h 5 8 h1.1 h1.2);have q1:=h.part 8 ae;have d1:=hw.setR (o:=10) (u:=.int .i64 8) hA h.low;have k1:=KR.set base R 10 w (.int .i64 8);have e1:=hE.later (k1.below hBR bM hE.bw);have HM:=hid (aH R (w.setCell ⟨R,10,none⟩ (.int .i64 8)));generalize w.setCell ⟨R,10,none⟩ (.int .i64 8)=w1 at *;have HQ0:=hid q1;have HD0:=hid d1;have HK0:=hid k1;have HE0:=hid e1;have sx:=hw.sz x (List.mem_of_getElem? hx)
 have HWx:=hid (fun(W:World) (hW:Below w1.heap.size w1 W)=>(by have:=(d1.later hW).at_ 1 x hx; rwa [Nat.zero_add]at this:W.cell? ⟨A,1,none⟩=some (.string x)))
 have sy:=hw.sz y (List.mem_of_getElem? hy)
 have HWy:=hid (fun(W:World) (hW:Below w1.heap.size w1 W)=>(by have:=(d1.later hW).at_ 2 y hy; rwa [Nat.zero_add]at this:W.cell? ⟨A,2,none⟩=some (.string y)))
 rw[ey]at h3
 have HI1:=hid (fun(W:World) (hW:Below w1.heap.size w1 W)=>rU x W ae)
 have HI2:=hid (fun(W:World) (hW:Below w1.heap.size w1 W)=>gV B R y v W (e1.tens.later (hW.mono e1.bw)) (Nat.le_trans e1.bw hW.size) ae h3)
 have HEx:=hid ex;clear h hw hE hps h1 q1 d1 k1 e1 e hx ex hy ey h3
 go_enter Tryz.func115,Tryz.ntmps115
 go_wp2_with fail;refine HO.out.mono ?_;rintro e w1' ⟨rfl,hw1⟩;have hw2:=hw1.symm;subst hw2;go_wp2_with fail;refine HM.out.mono ?_;rintro e w1'' ⟨rfl,hw1⟩;have hw2:=hw1.symm;subst hw2;go_wp2_with fail
 go_cut [4] from 12 to 21 (fun p W=>∃X,p=.pointer (some ⟨X,0,none⟩)∧Hid (Below w1.heap.size w1 W∧W.heap[X]? =some (bj x v)))
 case first =>
  have B1:=hid ((Below.refl w1.heap.size w1).drew)
  refine wp_region_held_drew (S:=(fun W=>W.cell? ⟨A,1,none⟩=some (.string x)∧W.cell? ⟨A,2,none⟩=some (.string y))) ai ⟨HWx.out _ B1.out,HWy.out _ B1.out⟩ (fun hSw=>?_)
  generalize w1.drew=wd at *;refine tkD (i:=0) (d:=some 12) rfl ?_ (hS:=aL);(try simp only[Act.put,sIB,sC0,sCs]);refine tkD (i:=4) (d:=some 16) rfl ?_ (hS:=aL);(try simp only[Act.put,sIB,sC0,sCs]);refine tkD (i:=5) (d:=some 17) rfl ?_ (hS:=aL);(try simp only[Act.put,sIB,sC0,sCs]);refine tkD (i:=1) (d:=some 13) rfl ?_ (hS:=aL);(try simp only[Act.put,sIB,sC0,sCs]);refine tkD (i:=6) (d:=some 18) rfl ?_ (hS:=aL);(try simp only[Act.put,sIB,sC0,sCs]);refine tkD (i:=2) (d:=some 14) rfl ?_ (hS:=aL);(try simp only[Act.put,sIB,sC0,sCs]);refine tkD (i:=7) (d:=some 19) rfl ?_ (hS:=aL);(try simp only[Act.put,sIB,sC0,sCs]);refine ryQ (rs:=[3,10]) ?_
  refine rcQ (i:=3) rfl (fun K hK=>?_) (rcQ (i:=10) rfl (fun K hK=>?_) rN)
  ·go_simp;refine(HI1.out _ B1.out).mono ?_;rintro e w5⟨rfl,hb5⟩;have B5:=hid (B1.out.trans (hb5.mono B1.out.size))
   replace hSw:=(⟨HWx.out _ B5.out,HWy.out _ B5.out⟩:w5.cell? ⟨A,1,none⟩=some (.string x)∧w5.cell? ⟨A,2,none⟩=some (.string y))
   clear hb5
   refine hK.out _ _ hSw (fun _=>?_)
   clear hK K;refine ryQ (rs:=[8,10]) ?_
   refine rcQ (i:=8) rfl (fun K hK=>?_) (rcQ (i:=10) rfl (fun K hK=>?_) rN)
   ·go_simp;refine(HI2.out _ B5.out).mono ?_;rintro e w6⟨rfl,hb6⟩;have B6:=hid (B5.out.trans (hb6.mono B5.out.size))
    replace hSw:=(⟨HWx.out _ B6.out,HWy.out _ B6.out⟩:w6.cell? ⟨A,1,none⟩=some (.string x)∧w6.cell? ⟨A,2,none⟩=some (.string y))
    clear hb6
    refine hK.out _ _ hSw (fun _=>?_)
    clear hK K;refine tkD (i:=9) (d:=some 21) rfl ?_ (hS:=aL);(try simp only[Act.put,sIB,sC0,sCs]);refine ryQ (rs:=[10]) ?_
    refine rcQ (i:=10) rfl (fun K hK=>?_) rN
    go_simp;have hbA:=ag w6 (bj ⟨#[]⟩ 0);have hXn:=heap_alloc_new w6 (bj ⟨#[]⟩ 0);have hXg:w1.heap.size≤w6.heap.size:=B6.out.size;generalize w6.alloc (bj ⟨#[]⟩ 0)=w7 at *;have hb7:=hbA;clear hbA;have B7:=hid (B6.out.trans (hb7.mono B6.out.size));clear hb7;generalize w6.heap.size=X at *;have HXB:=hid hXn;clear hXn
    replace hSw:=(⟨HWx.out _ B7.out,HWy.out _ B7.out⟩:w7.cell? ⟨A,1,none⟩=some (.string x)∧w7.cell? ⟨A,2,none⟩=some (.string y))
    refine hK.out _ _ hSw (fun _=>?_)
    clear hK K;refine ryQ (rs:=[11]) ?_
    refine rcQ (i:=11) rfl (fun K hK=>?_) rN
    have cX0:w7.cell? ⟨X,0,none⟩=some (.string ⟨#[]⟩):=ak HXB.out;have cX1:w7.cell? ⟨X,1,none⟩=some (.int .i64 0):=ak HXB.out;have fX0:w7.frozen? ⟨X,0,none⟩=false:=free_at HXB.out;have fX1:w7.frozen? ⟨X,1,none⟩=false:=free_at HXB.out;go_simp
    have HST:=hid (fun u v=>qK B7.out HXB.out hXg u v)
    clear hSw
    refine hK.out _ _ ⟨HWx.out _ (HST.out _ _).1,HWy.out _ (HST.out _ _).1⟩ (fun hSw=>?_)
    clear hK K;refine wpAnyH_done ai ?_ _;go_wp2_with fail
    go_meet
    exact⟨X,rfl,hid ⟨(HST.out _ _).1,(HST.out _ _).2.1⟩⟩
   ·go_simp;have hbA:=ag w5 (bj ⟨#[]⟩ 0);have hXn:=heap_alloc_new w5 (bj ⟨#[]⟩ 0);have hXg:w1.heap.size≤w5.heap.size:=B5.out.size;generalize w5.alloc (bj ⟨#[]⟩ 0)=w7 at *;have hb7:=hbA;clear hbA;have B7:=hid (B5.out.trans (hb7.mono B5.out.size));clear hb7;generalize w5.heap.size=X at *;have HXB:=hid hXn;clear hXn
    replace hSw:=(⟨HWx.out _ B7.out,HWy.out _ B7.out⟩:w7.cell? ⟨A,1,none⟩=some (.string x)∧w7.cell? ⟨A,2,none⟩=some (.string y))
    refine hK.out _ _ hSw (fun _=>?_)
    clear hK K;refine ryQ (rs:=[8]) ?_
    refine rcQ (i:=8) rfl (fun K hK=>?_) rN
    go_simp;refine(HI2.out _ B7.out).mono ?_;rintro e w6⟨rfl,hb6⟩;have HXB:=hid (au hb6 HXB.out);have B6:=hid (B7.out.trans (hb6.mono B7.out.size));exact JI
  ·go_simp;have hbA:=ag wd (bj ⟨#[]⟩ 0);have hXn:=heap_alloc_new wd (bj ⟨#[]⟩ 0);have hXg:w1.heap.size≤wd.heap.size:=B1.out.size;generalize wd.alloc (bj ⟨#[]⟩ 0)=w7 at *;have hb7:=hbA;clear hbA;have B7:=hid (B1.out.trans (hb7.mono B1.out.size));clear hb7;generalize wd.heap.size=X at *;have HXB:=hid hXn;clear hXn
   replace hSw:=(⟨HWx.out _ B7.out,HWy.out _ B7.out⟩:w7.cell? ⟨A,1,none⟩=some (.string x)∧w7.cell? ⟨A,2,none⟩=some (.string y))
   refine hK.out _ _ hSw (fun _=>?_)
   clear hK K;refine ryQ (rs:=[3]) ?_
   refine rcQ (i:=3) rfl (fun K hK=>?_) rN
   go_simp;refine(HI1.out _ B7.out).mono ?_;rintro e w5⟨rfl,hb5⟩;have HXB:=hid (au hb5 HXB.out);have B5:=hid (B7.out.trans (hb5.mono B7.out.size))
   replace hSw:=(⟨HWx.out _ B5.out,HWy.out _ B5.out⟩:w5.cell? ⟨A,1,none⟩=some (.string x)∧w5.cell? ⟨A,2,none⟩=some (.string y))
   clear hb5
   refine hK.out _ _ hSw (fun _=>?_)
   clear hK K;refine ryQ (rs:=[8]) ?_
   refine rcQ (i:=8) rfl (fun K hK=>?_) rN
   go_simp;refine(HI2.out _ B5.out).mono ?_;rintro e w6⟨rfl,hb6⟩;have HXB:=hid (au hb6 HXB.out);have B6:=hid (B5.out.trans (hb6.mono B5.out.size));exact JI
 case rest =>
  obtain⟨X,rfl,HC⟩:=hcut;have BX:=hid HC.out.1;have HBX:=hid HC.out.2;have Q1:=hid (HQ0.out.later BX.out);clear HC HI1 HI2;generalize wc=w9 at *;go_wp2_with fail;have B1:=hid ((Below.refl w9.heap.size w9).drew)
  refine wp_region_held_drew (S:=fun _=>True) ai trivial (fun _=>?_)
  generalize w9.drew=wd at *;refine tkQ (i:=0) rfl ?_;(try simp only[Act.put,sIB]);refine tkQ (i:=1) rfl ?_;(try simp only[Act.put]);refine tkQ (i:=2) rfl ?_;(try simp only[Act.put]);refine tkQ (i:=3) rfl ?_;(try simp only[Act.put]);refine tkQ (i:=4) rfl ?_;(try simp only[Act.put]);refine ryQ (rs:=[5,6]) ?_
  refine rcQ (i:=5) rfl (fun K hK=>?_) (rcQ (i:=6) rfl (fun K hK=>?_) rN)
  ·have cH:wd.cell? ⟨R,8,none⟩=some (.slice m.ea m.en m.ec):=(Q1.out.later B1.out).cells 8;go_simp
   refine hK.out _ _ trivial (fun _=>?_)
   clear hK K;refine ryQ (rs:=[6]) ?_
   refine rcQ (i:=6) rfl (fun K hK=>?_) rN
   have y0:wd.cell? ⟨X,0,none⟩=some (.string x):=ak (au B1.out HBX.out);have y1:wd.cell? ⟨X,1,none⟩=some (.int .i64 v):=ak (au B1.out HBX.out);exact JF
  ·have y0:wd.cell? ⟨X,0,none⟩=some (.string x):=ak (au B1.out HBX.out);have y1:wd.cell? ⟨X,1,none⟩=some (.int .i64 v):=ak (au B1.out HBX.out);go_simp
   refine hK.out _ _ trivial (fun _=>?_)
   clear hK K;refine ryQ (rs:=[5,7]) ?_
   refine rcQ (i:=5) rfl (fun K hK=>?_) (rcQ (i:=7) rfl (fun K hK=>?_) rN)
   ·have cH:wd.cell? ⟨R,8,none⟩=some (.slice m.ea m.en m.ec):=(Q1.out.later B1.out).cells 8;exact JF
   ·go_simp;have BN:=hid (B1.out.trans ((ag wd (bj x v)).mono B1.out.size))
    refine hK.out _ _ trivial (fun _=>?_)
    clear hK K;refine ryQ (rs:=[5]) ?_
    refine rcQ (i:=5) rfl (fun K hK=>?_) rN
    have cH:(wd.alloc (bj x v)).cell? ⟨R,8,none⟩=some (.slice m.ea m.en m.ec):=(Q1.out.later BN.out).cells 8;go_simp
    refine hK.out _ _ trivial (fun _=>?_)
    clear hK K;refine ryQ (rs:=[8]) ?_
    refine rcQ (i:=8) rfl (fun K hK=>?_) rN
    refine wp_append_lies _ (.tmp 27) (.tmp 29) 27 rfl base 83 i0 (.agg #[.string ⟨#[]⟩,.int .i64 0]) 2 24 Tryz.underlying27 hi hz0 hz1 hz2 rfl aj (.slice m.ea m.en m.ec) m.en (m.exps.flatMap oU) rfl (Q1.out.later BN.out).re ⟨wd.heap.size,0,none⟩ 1 1 (oU ((x,v):Ex)) rfl rfl ?n1 ?n2 aj bV ae (Q1.out.later BN.out).bw _ rfl ?_
    case n1 =>
     exact Dv
    case n2=>intro u hu; simp[oU]at hu; rcases hu with rfl | rfl <;> rfl
    intro g cap w6 ho6 hg6 _ _;have PX:=hid ((Q1.out).pushE BN.out ((x,v):Ex) ho6 hg6);have z6:=hid (cr ((Q1.out.later BN.out).blk) (Q1.out).low ((Q1.out.later BN.out).re) hg6);clear ho6 hg6
    refine hK.out _ _ trivial (fun _=>?_)
    clear hK K;refine tkQ (i:=9) rfl ?_;(try simp only[Act.put,sIB]);refine tkQ (i:=10) rfl ?_;(try simp only[Act.put]);refine tkQ (i:=11) rfl ?_;(try simp only[Act.put]);refine ryQ (rs:=[12]) ?_
    refine rcQ (i:=12) rfl (fun K hK=>?_) rN
    have c16:w6.cell? ⟨R,8,none⟩=some (.slice m.ea m.en m.ec):=ak z6.out;have f16:w6.frozen? ⟨R,8,none⟩=false:=free_at z6.out;go_simp
    refine hK.out _ _ trivial (fun _=>?_)
    clear hK K;refine wpAnyH_done ai ?_ _;go_end0
    exact⟨(HK0.out.trans (KR.later BX.out)).trans PX.out.2,rfl,_,PX.out.1,by rw[HEx.out]; unfold pl; rfl⟩
theorem OJ{B base R A n c:Nat}{mp:Value}{m:MM}{ln pt:Int}{w:World}{ws:List ByteArray}(h:RQ base R mp m ln pt w)(hw:Wds w A n c ws)(hA:base≤A)(hE:cw B w)(hBR:B≤R)(hps:psz (pl m)≤2097152)(h1:5≤pt∧pt≤8)(h2:n=3)(h3:nmV (wdx ws 2)=none) :
  Calls Tryz.prog 115 #[.pointer (some ⟨R,0,none⟩),.slice (some ⟨A,0,none⟩) n c] w (LnP base R mp ln w (kN pt (pl m) ws)):=by
 obtain⟨x,hx⟩:∃x,ws[1]? =some x:=⟨_,aO aY⟩;have ex:wdx ws 1=x:=bZ;obtain⟨y,hy⟩:∃x,ws[2]? =some x:=⟨_,aO aY⟩;have ey:wdx ws 2=y:=di
 have e:kN pt (pl m) ws=none:=by
  exact BM
 rw[e];subst h2;have HO:=hid (bL h 5 8 h1.1 h1.2);have q1:=h.part 8 ae;have d1:=hw.setR (o:=10) (u:=.int .i64 8) hA h.low;have k1:=KR.set base R 10 w (.int .i64 8);have e1:=hE.later (k1.below hBR bM hE.bw);have HM:=hid (aH R (w.setCell ⟨R,10,none⟩ (.int .i64 8)));generalize w.setCell ⟨R,10,none⟩ (.int .i64 8)=w1 at *;have HQ0:=hid q1;have HD0:=hid d1;have HK0:=hid k1;have HE0:=hid e1;have sx:=hw.sz x (List.mem_of_getElem? hx)
 have HWx:=hid (fun(W:World) (hW:Below w1.heap.size w1 W)=>(by have:=(d1.later hW).at_ 1 x hx; rwa [Nat.zero_add]at this:W.cell? ⟨A,1,none⟩=some (.string x)))
 have sy:=hw.sz y (List.mem_of_getElem? hy)
 have HWy:=hid (fun(W:World) (hW:Below w1.heap.size w1 W)=>(by have:=(d1.later hW).at_ 2 y hy; rwa [Nat.zero_add]at this:W.cell? ⟨A,2,none⟩=some (.string y)))
 rw[ey]at h3
 have HI1:=hid (fun(W:World) (hW:Below w1.heap.size w1 W)=>rU x W ae)
 have HI2:=hid (fun(W:World) (hW:Below w1.heap.size w1 W)=>mU B R y ln W (e1.tens.later (hW.mono e1.bw)) (e1.errs.later (hW.mono e1.bw)) (Nat.le_trans e1.bw hW.size) ae ((q1.later hW).cells 9) h3)
 clear h hw hE hps h1 q1 d1 k1 e1 e hx ex hy ey h3
 go_enter Tryz.func115,Tryz.ntmps115
 go_wp2_with fail;refine HO.out.mono ?_;rintro e w1' ⟨rfl,hw1⟩;have hw2:=hw1.symm;subst hw2;go_wp2_with fail;refine HM.out.mono ?_;rintro e w1'' ⟨rfl,hw1⟩;have hw2:=hw1.symm;subst hw2;go_wp2_with fail;have B1:=hid ((Below.refl w1.heap.size w1).drew)
 refine wp_region_held_drew (S:=(fun W=>W.cell? ⟨A,1,none⟩=some (.string x)∧W.cell? ⟨A,2,none⟩=some (.string y))) ai ⟨HWx.out _ B1.out,HWy.out _ B1.out⟩ (fun hSw=>?_)
 generalize w1.drew=wd at *;refine tkD (i:=0) (d:=some 12) rfl ?_ (hS:=aL);(try simp only[Act.put,sIB,sC0,sCs]);refine tkD (i:=4) (d:=some 16) rfl ?_ (hS:=aL);(try simp only[Act.put,sIB,sC0,sCs]);refine tkD (i:=5) (d:=some 17) rfl ?_ (hS:=aL);(try simp only[Act.put,sIB,sC0,sCs]);refine tkD (i:=1) (d:=some 13) rfl ?_ (hS:=aL);(try simp only[Act.put,sIB,sC0,sCs]);refine tkD (i:=6) (d:=some 18) rfl ?_ (hS:=aL);(try simp only[Act.put,sIB,sC0,sCs]);refine tkD (i:=2) (d:=some 14) rfl ?_ (hS:=aL);(try simp only[Act.put,sIB,sC0,sCs]);refine tkD (i:=7) (d:=some 19) rfl ?_ (hS:=aL);(try simp only[Act.put,sIB,sC0,sCs]);refine ryQ (rs:=[3,10]) ?_
 refine rcQ (i:=3) rfl (fun K hK=>?_) (rcQ (i:=10) rfl (fun K hK=>?_) rN)
 ·go_simp;refine(HI1.out _ B1.out).mono ?_;rintro e w5⟨rfl,hb5⟩;have B5:=hid (B1.out.trans (hb5.mono B1.out.size))
  replace hSw:=(⟨HWx.out _ B5.out,HWy.out _ B5.out⟩:w5.cell? ⟨A,1,none⟩=some (.string x)∧w5.cell? ⟨A,2,none⟩=some (.string y))
  clear hb5
  refine hK.out _ _ hSw (fun _=>?_)
  clear hK K;refine ryQ (rs:=[8,10]) ?_
  refine rcQ (i:=8) rfl (fun K hK=>?_) (rcQ (i:=10) rfl (fun K hK=>?_) rN)
  ·exact wm
  ·go_simp;have hbA:=ag w5 (bj ⟨#[]⟩ 0);have hXn:=heap_alloc_new w5 (bj ⟨#[]⟩ 0);have hXg:w1.heap.size≤w5.heap.size:=B5.out.size;generalize w5.alloc (bj ⟨#[]⟩ 0)=w7 at *;have hb7:=hbA;clear hbA;have B7:=hid (B5.out.trans (hb7.mono B5.out.size));clear hb7;generalize w5.heap.size=X at *;have HXB:=hid hXn;clear hXn
   replace hSw:=(⟨HWx.out _ B7.out,HWy.out _ B7.out⟩:w7.cell? ⟨A,1,none⟩=some (.string x)∧w7.cell? ⟨A,2,none⟩=some (.string y))
   refine hK.out _ _ hSw (fun _=>?_)
   clear hK K;refine ryQ (rs:=[8]) ?_
   refine rcQ (i:=8) rfl (fun K hK=>?_) rN
   exact Ih
 ·go_simp;have hbA:=ag wd (bj ⟨#[]⟩ 0);have hXn:=heap_alloc_new wd (bj ⟨#[]⟩ 0);have hXg:w1.heap.size≤wd.heap.size:=B1.out.size;generalize wd.alloc (bj ⟨#[]⟩ 0)=w7 at *;have hb7:=hbA;clear hbA;have B7:=hid (B1.out.trans (hb7.mono B1.out.size));clear hb7;generalize wd.heap.size=X at *;have HXB:=hid hXn;clear hXn
  replace hSw:=(⟨HWx.out _ B7.out,HWy.out _ B7.out⟩:w7.cell? ⟨A,1,none⟩=some (.string x)∧w7.cell? ⟨A,2,none⟩=some (.string y))
  refine hK.out _ _ hSw (fun _=>?_)
  clear hK K;refine ryQ (rs:=[3]) ?_
  refine rcQ (i:=3) rfl (fun K hK=>?_) rN
  go_simp;refine(HI1.out _ B7.out).mono ?_;rintro e w5⟨rfl,hb5⟩;have HXB:=hid (au hb5 HXB.out);have B5:=hid (B7.out.trans (hb5.mono B7.out.size))
  replace hSw:=(⟨HWx.out _ B5.out,HWy.out _ B5.out⟩:w5.cell? ⟨A,1,none⟩=some (.string x)∧w5.cell? ⟨A,2,none⟩=some (.string y))
  clear hb5
  refine hK.out _ _ hSw (fun _=>?_)
  clear hK K;refine ryQ (rs:=[8]) ?_
  refine rcQ (i:=8) rfl (fun K hK=>?_) rN
  exact wm
theorem KV{B base R A n c:Nat}{mp:Value}{m:MM}{ln pt:Int}{w:World}{ws:List ByteArray}(h:RQ base R mp m ln pt w)(hw:Wds w A n c ws)(hA:base≤A)(hE:cw B w)(hBR:B≤R)(hps:psz (pl m)≤2097152)(h1:5≤pt∧pt≤7)(h2:n=3){v:Int}{l:List Int}(h3:nmV (wdx ws 1)=some v)(h4:nQ (wdx ws 2)=some l) :
  Calls Tryz.prog 114 #[.pointer (some ⟨R,0,none⟩),.slice (some ⟨A,0,none⟩) n c] w (LnP base R mp ln w (jt pt (pl m) ws)):=by
 obtain⟨i0,hi,hz0,hz1,hz2⟩:=info_parts Sr;obtain⟨x,hx⟩:∃x,ws[1]? =some x:=⟨_,aO aY⟩;have ex:wdx ws 1=x:=bZ;obtain⟨y,hy⟩:∃x,ws[2]? =some x:=⟨_,aO aY⟩;have ey:wdx ws 2=y:=di
 have e:jt pt (pl m) ws=some (7,{ pl m with data:=(pl m).data++[(v,l)] }):=by
  exact C8
 rw[e];subst h2
 have hn:m.dn≤2097152:=by
  have e1:=ei (g:=nX) (fun _=>rfl) aj h.rd
  have e2:m.data.length≤psz (pl m):=uQ;omega
 have HO:=hid (bL h 5 7 h1.1 h1.2);have q1:=h.part 7 ae;have d1:=hw.setR (o:=10) (u:=.int .i64 7) hA h.low;have k1:=KR.set base R 10 w (.int .i64 7);have e1:=hE.later (k1.below hBR bM hE.bw);have HM:=hid (aH R (w.setCell ⟨R,10,none⟩ (.int .i64 7)));generalize w.setCell ⟨R,10,none⟩ (.int .i64 7)=w1 at *;have HQ0:=hid q1;have HD0:=hid d1;have HK0:=hid k1;have HE0:=hid e1;have sx:=hw.sz x (List.mem_of_getElem? hx)
 have HWx:=hid (fun(W:World) (hW:Below w1.heap.size w1 W)=>(by have:=(d1.later hW).at_ 1 x hx; rwa [Nat.zero_add]at this:W.cell? ⟨A,1,none⟩=some (.string x)))
 have sy:=hw.sz y (List.mem_of_getElem? hy)
 have HWy:=hid (fun(W:World) (hW:Below w1.heap.size w1 W)=>(by have:=(d1.later hW).at_ 2 y hy; rwa [Nat.zero_add]at this:W.cell? ⟨A,2,none⟩=some (.string y)))
 rw[ex]at h3;rw[ey]at h4
 have HI1:=hid (fun(W:World) (hW:Below w1.heap.size w1 W)=>gV B R x v W (e1.tens.later (hW.mono e1.bw)) (Nat.le_trans e1.bw hW.size) ae h3)
 have HI2:=hid (fun(W:World) (hW:Below w1.heap.size w1 W)=>(by have:=GJ (q1.later hW) y ae; rw[h4]at this; exact this.mono (fun e w' h=>⟨h.1,h.2.2.1,h.2.2.2⟩):Calls Tryz.prog 173 #[.pointer (some ⟨R,0,none⟩),.string y] W (fun e w'=>Below W.heap.size W w'∧e=.returned (.slice (some ⟨W.heap.size,0,none⟩) (y.size / 2) (y.size / 2))∧w'.ownsRow W.heap.size 5 1 (.slice (some ⟨W.heap.size,0,none⟩) (y.size / 2) (y.size / 2)) (y.size / 2) (l.flatMap tu))))
 clear h hw hE hps h1 q1 d1 k1 e1 e hx ex hy ey h3 h4
 go_enter Tryz.func114,Tryz.ntmps114
 go_wp2_with fail;refine HO.out.mono ?_;rintro e w1' ⟨rfl,hw1⟩;have hw2:=hw1.symm;subst hw2;go_wp2_with fail;refine HM.out.mono ?_;rintro e w1'' ⟨rfl,hw1⟩;have hw2:=hw1.symm;subst hw2;go_wp2_with fail
 go_cut [4] from 12 to 22 (fun p W=>∃X,p=.pointer (some ⟨X,0,none⟩)∧Hid (Below w1.heap.size w1 W∧∃G,W.heap[X]? =some (aZ v (some ⟨G,0,none⟩) (y.size / 2) (y.size / 2))∧W.ownsRow w1.heap.size 5 1 (.slice (some ⟨G,0,none⟩) (y.size / 2) (y.size / 2)) (y.size / 2) (l.flatMap tu)))
 case first =>
  have B1:=hid ((Below.refl w1.heap.size w1).drew)
  refine wp_region_held_drew (S:=(fun W=>W.cell? ⟨A,1,none⟩=some (.string x)∧W.cell? ⟨A,2,none⟩=some (.string y))) ai ⟨HWx.out _ B1.out,HWy.out _ B1.out⟩ (fun hSw=>?_)
  generalize w1.drew=wd at *;refine tkD (i:=0) (d:=some 12) rfl ?_ (hS:=aL);(try simp only[Act.put,sIB,sC0,sCs]);refine tkD (i:=1) (d:=some 13) rfl ?_ (hS:=aL);(try simp only[Act.put,sIB,sC0,sCs]);refine tkD (i:=5) (d:=some 17) rfl ?_ (hS:=aL);(try simp only[Act.put,sIB,sC0,sCs]);refine tkD (i:=6) (d:=some 18) rfl ?_ (hS:=aL);(try simp only[Act.put,sIB,sC0,sCs]);refine tkD (i:=2) (d:=some 14) rfl ?_ (hS:=aL);(try simp only[Act.put,sIB,sC0,sCs]);refine tkD (i:=7) (d:=some 19) rfl ?_ (hS:=aL);(try simp only[Act.put,sIB,sC0,sCs]);refine tkD (i:=3) (d:=some 15) rfl ?_ (hS:=aL);(try simp only[Act.put,sIB,sC0,sCs]);refine tkD (i:=8) (d:=some 20) rfl ?_ (hS:=aL);(try simp only[Act.put,sIB,sC0,sCs]);refine ryQ (rs:=[4,11]) ?_
  refine rcQ (i:=4) rfl (fun K hK=>?_) (rcQ (i:=11) rfl (fun K hK=>?_) rN)
  ·go_simp;refine(HI1.out _ B1.out).mono ?_;rintro e w5⟨rfl,hb5⟩;have B5:=hid (B1.out.trans (hb5.mono B1.out.size))
   replace hSw:=(⟨HWx.out _ B5.out,HWy.out _ B5.out⟩:w5.cell? ⟨A,1,none⟩=some (.string x)∧w5.cell? ⟨A,2,none⟩=some (.string y))
   clear hb5
   refine hK.out _ _ hSw (fun _=>?_)
   clear hK K;refine ryQ (rs:=[9,11]) ?_
   refine rcQ (i:=9) rfl (fun K hK=>?_) (rcQ (i:=11) rfl (fun K hK=>?_) rN)
   ·go_simp;refine(HI2.out _ B5.out).mono ?_;rintro e w6⟨hb6,rfl,ho6⟩;have O5:=hid (nk ho6 B5.out.size)
    skip
    have B6:=hid (B5.out.trans (hb6.mono B5.out.size))
    replace hSw:=(⟨HWx.out _ B6.out,HWy.out _ B6.out⟩:w6.cell? ⟨A,1,none⟩=some (.string x)∧w6.cell? ⟨A,2,none⟩=some (.string y))
    clear hb6 ho6
    refine hK.out _ _ hSw (fun _=>?_)
    clear hK K;refine tkD (i:=10) (d:=some 22) rfl ?_ (hS:=aL);(try simp only[Act.put,sIB,sC0,sCs]);refine ryQ (rs:=[11]) ?_
    refine rcQ (i:=11) rfl (fun K hK=>?_) rN
    go_simp;have hbA:=ag w6 (aZ 0 none 0 0);have hXn:=heap_alloc_new w6 (aZ 0 none 0 0);have hXg:w1.heap.size≤w6.heap.size:=B6.out.size;generalize w6.alloc (aZ 0 none 0 0)=w7 at *;have hb7:=hbA;clear hbA;have O5:=hid (eN O5.out hb7);have B7:=hid (B6.out.trans (hb7.mono B6.out.size));clear hb7;generalize w6.heap.size=X at *;have HXB:=hid hXn;clear hXn
    replace hSw:=(⟨HWx.out _ B7.out,HWy.out _ B7.out⟩:w7.cell? ⟨A,1,none⟩=some (.string x)∧w7.cell? ⟨A,2,none⟩=some (.string y))
    refine hK.out _ _ hSw (fun _=>?_)
    clear hK K;refine ryQ (rs:=[12]) ?_
    refine rcQ (i:=12) rfl (fun K hK=>?_) rN
    have cX0:w7.cell? ⟨X,0,none⟩=some (.int .i64 0):=ak HXB.out;have cX1:w7.cell? ⟨X,1,none⟩=some (.slice none 0 0):=ak HXB.out;have fX0:w7.frozen? ⟨X,0,none⟩=false:=free_at HXB.out;have fX1:w7.frozen? ⟨X,1,none⟩=false:=free_at HXB.out;go_simp
    have HST:=hid (fun u v=>qK B7.out HXB.out hXg u v)
    clear hSw
    refine hK.out _ _ ⟨HWx.out _ (HST.out _ _).1,HWy.out _ (HST.out _ _).1⟩ (fun hSw=>?_)
    clear hK K;refine wpAnyH_done ai ?_ _;go_wp2_with fail
    go_meet
    exact⟨X,rfl,hid ⟨(HST.out _ _).1,_,(HST.out _ _).2.1,ra O5.out (HST.out _ _).2.2 HXB.out aj⟩⟩
   ·go_simp;have hbA:=ag w5 (aZ 0 none 0 0);have hXn:=heap_alloc_new w5 (aZ 0 none 0 0);have hXg:w1.heap.size≤w5.heap.size:=B5.out.size;generalize w5.alloc (aZ 0 none 0 0)=w7 at *;have hb7:=hbA;clear hbA;have B7:=hid (B5.out.trans (hb7.mono B5.out.size));clear hb7;generalize w5.heap.size=X at *;have HXB:=hid hXn;clear hXn
    replace hSw:=(⟨HWx.out _ B7.out,HWy.out _ B7.out⟩:w7.cell? ⟨A,1,none⟩=some (.string x)∧w7.cell? ⟨A,2,none⟩=some (.string y))
    refine hK.out _ _ hSw (fun _=>?_)
    clear hK K;refine ryQ (rs:=[9]) ?_
    refine rcQ (i:=9) rfl (fun K hK=>?_) rN
    go_simp;refine(HI2.out _ B7.out).mono ?_;rintro e w6⟨hb6,rfl,ho6⟩;have O5:=hid (nk ho6 B7.out.size);have HXB:=hid (au hb6 HXB.out)
    skip
    have B6:=hid (B7.out.trans (hb6.mono B7.out.size));exact GH
  ·go_simp;have hbA:=ag wd (aZ 0 none 0 0);have hXn:=heap_alloc_new wd (aZ 0 none 0 0);have hXg:w1.heap.size≤wd.heap.size:=B1.out.size;generalize wd.alloc (aZ 0 none 0 0)=w7 at *;have hb7:=hbA;clear hbA;have B7:=hid (B1.out.trans (hb7.mono B1.out.size));clear hb7;generalize wd.heap.size=X at *;have HXB:=hid hXn;clear hXn
   replace hSw:=(⟨HWx.out _ B7.out,HWy.out _ B7.out⟩:w7.cell? ⟨A,1,none⟩=some (.string x)∧w7.cell? ⟨A,2,none⟩=some (.string y))
   refine hK.out _ _ hSw (fun _=>?_)
   clear hK K;refine ryQ (rs:=[4]) ?_
   refine rcQ (i:=4) rfl (fun K hK=>?_) rN
   go_simp;refine(HI1.out _ B7.out).mono ?_;rintro e w5⟨rfl,hb5⟩;have HXB:=hid (au hb5 HXB.out);have B5:=hid (B7.out.trans (hb5.mono B7.out.size))
   replace hSw:=(⟨HWx.out _ B5.out,HWy.out _ B5.out⟩:w5.cell? ⟨A,1,none⟩=some (.string x)∧w5.cell? ⟨A,2,none⟩=some (.string y))
   clear hb5
   refine hK.out _ _ hSw (fun _=>?_)
   clear hK K;refine ryQ (rs:=[9]) ?_
   refine rcQ (i:=9) rfl (fun K hK=>?_) rN
   go_simp;refine(HI2.out _ B5.out).mono ?_;rintro e w6⟨hb6,rfl,ho6⟩;have O5:=hid (nk ho6 B5.out.size);have HXB:=hid (au hb6 HXB.out)
   skip
   have B6:=hid (B5.out.trans (hb6.mono B5.out.size));exact GH
 case rest =>
  obtain⟨X,rfl,HC⟩:=hcut;obtain⟨hb9,G,hx9,ho9⟩:=HC.out;have BX:=hid hb9;have HBX:=hid hx9;have OX:=hid ho9;have Q1:=hid (HQ0.out.later BX.out);clear HC HI1 HI2 hb9 hx9 ho9;generalize wc=w9 at *;go_wp2_with fail;have B1:=hid ((Below.refl w9.heap.size w9).drew)
  refine wp_region_held_drew (S:=fun _=>True) ai trivial (fun _=>?_)
  generalize w9.drew=wd at *;refine tkQ (i:=0) rfl ?_;(try simp only[Act.put,sIB]);refine tkQ (i:=1) rfl ?_;(try simp only[Act.put]);refine tkQ (i:=2) rfl ?_;(try simp only[Act.put]);refine tkQ (i:=3) rfl ?_;(try simp only[Act.put]);refine tkQ (i:=4) rfl ?_;(try simp only[Act.put]);refine ryQ (rs:=[5,6]) ?_
  refine rcQ (i:=5) rfl (fun K hK=>?_) (rcQ (i:=6) rfl (fun K hK=>?_) rN)
  ·have cH:wd.cell? ⟨R,7,none⟩=some (.slice m.da m.dn m.dc):=(Q1.out.later B1.out).cells 7;go_simp
   refine hK.out _ _ trivial (fun _=>?_)
   clear hK K;refine ryQ (rs:=[6]) ?_
   refine rcQ (i:=6) rfl (fun K hK=>?_) rN
   have y0:wd.cell? ⟨X,0,none⟩=some (.int .i64 v):=ak (au B1.out HBX.out);have y1:wd.cell? ⟨X,1,none⟩=some (.slice (some ⟨G,0,none⟩) (y.size / 2) (y.size / 2)):=ak (au B1.out HBX.out);exact F9
  ·have y0:wd.cell? ⟨X,0,none⟩=some (.int .i64 v):=ak (au B1.out HBX.out);have y1:wd.cell? ⟨X,1,none⟩=some (.slice (some ⟨G,0,none⟩) (y.size / 2) (y.size / 2)):=ak (au B1.out HBX.out);go_simp
   refine hK.out _ _ trivial (fun _=>?_)
   clear hK K;refine ryQ (rs:=[5,7]) ?_
   refine rcQ (i:=5) rfl (fun K hK=>?_) (rcQ (i:=7) rfl (fun K hK=>?_) rN)
   ·have cH:wd.cell? ⟨R,7,none⟩=some (.slice m.da m.dn m.dc):=(Q1.out.later B1.out).cells 7;exact F9
   ·go_simp;have BN:=hid (B1.out.trans ((ag wd (aZ v (some ⟨G,0,none⟩) (y.size / 2) (y.size / 2))).mono B1.out.size))
    refine hK.out _ _ trivial (fun _=>?_)
    clear hK K;refine ryQ (rs:=[5]) ?_
    refine rcQ (i:=5) rfl (fun K hK=>?_) rN
    have cH:(wd.alloc (aZ v (some ⟨G,0,none⟩) (y.size / 2) (y.size / 2))).cell? ⟨R,7,none⟩=some (.slice m.da m.dn m.dc):=(Q1.out.later BN.out).cells 7;go_simp
    refine hK.out _ _ trivial (fun _=>?_)
    clear hK K;refine ryQ (rs:=[8]) ?_
    refine rcQ (i:=8) rfl (fun K hK=>?_) rN
    refine wp_append_lies _ (.tmp 28) (.tmp 30) 26 rfl base 81 i0 (.agg #[.int .i64 0,.slice none 0 0]) 2 32 Tryz.underlying26 hi hz0 hz1 hz2 rfl aj (.slice m.da m.dn m.dc) m.dn (m.data.flatMap nX) rfl (Q1.out.later BN.out).rd ⟨wd.heap.size,0,none⟩ 1 1 (nX ((v,(some ⟨G,0,none⟩,y.size / 2,y.size / 2),l):DaM)) rfl rfl ?n1 ?n2 aj bV ae (Q1.out.later BN.out).bw _ rfl ?_
    case n1 =>
     exact C9
    case n2=>intro u hu; simp[nX]at hu; rcases hu with rfl | rfl <;> rfl
    intro g cap w6 ho6 hg6 _ _;have PX:=hid ((Q1.out).pushD BN.out ((v,(some ⟨G,0,none⟩,y.size / 2,y.size / 2),l):DaM) (nk (eN OX.out (Below.refl _ _)) HQ0.out.bw) ho6 hg6);have z6:=hid (cr ((Q1.out.later BN.out).blk) (Q1.out).low ((Q1.out.later BN.out).rd) hg6);clear ho6 hg6
    refine hK.out _ _ trivial (fun _=>?_)
    clear hK K;refine tkQ (i:=9) rfl ?_;(try simp only[Act.put,sIB]);refine tkQ (i:=10) rfl ?_;(try simp only[Act.put]);refine tkQ (i:=11) rfl ?_;(try simp only[Act.put]);refine ryQ (rs:=[12]) ?_
    refine rcQ (i:=12) rfl (fun K hK=>?_) rN
    have c16:w6.cell? ⟨R,7,none⟩=some (.slice m.da m.dn m.dc):=ak z6.out;have f16:w6.frozen? ⟨R,7,none⟩=false:=free_at z6.out;go_simp
    refine hK.out _ _ trivial (fun _=>?_)
    clear hK K;refine wpAnyH_done ai ?_ _;go_end0
    exact⟨(HK0.out.trans (KR.later BX.out)).trans PX.out.2,rfl,_,PX.out.1,by unfold pl; simp[plD,List.map_append]⟩
theorem Qg{B base R A n c:Nat}{mp:Value}{m:MM}{ln pt:Int}{w:World}{ws:List ByteArray}(h:RQ base R mp m ln pt w)(hw:Wds w A n c ws)(hA:base≤A)(hE:cw B w)(hBR:B≤R)(hps:psz (pl m)≤2097152)(h1:5≤pt∧pt≤7)(h2:n=3)(h3:nmV (wdx ws 1)=none) :
  Calls Tryz.prog 114 #[.pointer (some ⟨R,0,none⟩),.slice (some ⟨A,0,none⟩) n c] w (LnP base R mp ln w (jt pt (pl m) ws)):=by
 obtain⟨x,hx⟩:∃x,ws[1]? =some x:=⟨_,aO aY⟩;have ex:wdx ws 1=x:=bZ;obtain⟨y,hy⟩:∃x,ws[2]? =some x:=⟨_,aO aY⟩;have ey:wdx ws 2=y:=di
 have e:jt pt (pl m) ws=none:=by
  rw[ex]at h3
  unfold jt; rw[if_pos ⟨h1,dY⟩,ex,ey]; rw[h3]; rfl
 rw[e];subst h2;have HO:=hid (bL h 5 7 h1.1 h1.2);have q1:=h.part 7 ae;have d1:=hw.setR (o:=10) (u:=.int .i64 7) hA h.low;have k1:=KR.set base R 10 w (.int .i64 7);have e1:=hE.later (k1.below hBR bM hE.bw);have HM:=hid (aH R (w.setCell ⟨R,10,none⟩ (.int .i64 7)));generalize w.setCell ⟨R,10,none⟩ (.int .i64 7)=w1 at *;have HQ0:=hid q1;have HD0:=hid d1;have HK0:=hid k1;have HE0:=hid e1;have sx:=hw.sz x (List.mem_of_getElem? hx)
 have HWx:=hid (fun(W:World) (hW:Below w1.heap.size w1 W)=>(by have:=(d1.later hW).at_ 1 x hx; rwa [Nat.zero_add]at this:W.cell? ⟨A,1,none⟩=some (.string x)))
 have sy:=hw.sz y (List.mem_of_getElem? hy)
 have HWy:=hid (fun(W:World) (hW:Below w1.heap.size w1 W)=>(by have:=(d1.later hW).at_ 2 y hy; rwa [Nat.zero_add]at this:W.cell? ⟨A,2,none⟩=some (.string y)))
 rw[ex]at h3
 have HI1:=hid (fun(W:World) (hW:Below w1.heap.size w1 W)=>mU B R x ln W (e1.tens.later (hW.mono e1.bw)) (e1.errs.later (hW.mono e1.bw)) (Nat.le_trans e1.bw hW.size) ae ((q1.later hW).cells 9) h3)
 clear h hw hE hps h1 q1 d1 k1 e1 e hx ex hy ey h3
 go_enter Tryz.func114,Tryz.ntmps114
 go_wp2_with fail;refine HO.out.mono ?_;rintro e w1' ⟨rfl,hw1⟩;have hw2:=hw1.symm;subst hw2;go_wp2_with fail;refine HM.out.mono ?_;rintro e w1'' ⟨rfl,hw1⟩;have hw2:=hw1.symm;subst hw2;go_wp2_with fail;have B1:=hid ((Below.refl w1.heap.size w1).drew)
 refine wp_region_held_drew (S:=(fun W=>W.cell? ⟨A,1,none⟩=some (.string x)∧W.cell? ⟨A,2,none⟩=some (.string y))) ai ⟨HWx.out _ B1.out,HWy.out _ B1.out⟩ (fun hSw=>?_)
 generalize w1.drew=wd at *;refine tkD (i:=0) (d:=some 12) rfl ?_ (hS:=aL);(try simp only[Act.put,sIB,sC0,sCs]);refine tkD (i:=1) (d:=some 13) rfl ?_ (hS:=aL);(try simp only[Act.put,sIB,sC0,sCs]);refine tkD (i:=5) (d:=some 17) rfl ?_ (hS:=aL);(try simp only[Act.put,sIB,sC0,sCs]);refine tkD (i:=6) (d:=some 18) rfl ?_ (hS:=aL);(try simp only[Act.put,sIB,sC0,sCs]);refine tkD (i:=2) (d:=some 14) rfl ?_ (hS:=aL);(try simp only[Act.put,sIB,sC0,sCs]);refine tkD (i:=7) (d:=some 19) rfl ?_ (hS:=aL);(try simp only[Act.put,sIB,sC0,sCs]);refine tkD (i:=3) (d:=some 15) rfl ?_ (hS:=aL);(try simp only[Act.put,sIB,sC0,sCs]);refine tkD (i:=8) (d:=some 20) rfl ?_ (hS:=aL);(try simp only[Act.put,sIB,sC0,sCs]);refine ryQ (rs:=[4,11]) ?_
 refine rcQ (i:=4) rfl (fun K hK=>?_) (rcQ (i:=11) rfl (fun K hK=>?_) rN)
 ·exact GY
 ·go_simp;have hbA:=ag wd (aZ 0 none 0 0);have hXn:=heap_alloc_new wd (aZ 0 none 0 0);have hXg:w1.heap.size≤wd.heap.size:=B1.out.size;generalize wd.alloc (aZ 0 none 0 0)=w7 at *;have hb7:=hbA;clear hbA;have B7:=hid (B1.out.trans (hb7.mono B1.out.size));clear hb7;generalize wd.heap.size=X at *;have HXB:=hid hXn;clear hXn
  replace hSw:=(⟨HWx.out _ B7.out,HWy.out _ B7.out⟩:w7.cell? ⟨A,1,none⟩=some (.string x)∧w7.cell? ⟨A,2,none⟩=some (.string y))
  refine hK.out _ _ hSw (fun _=>?_)
  clear hK K;refine ryQ (rs:=[4]) ?_
  refine rcQ (i:=4) rfl (fun K hK=>?_) rN
  go_simp;refine(HI1.out _ B7.out).mono ?_;rintro e w5⟨rfl,hb5⟩;exact⟨rfl,HK0.out.trans (KR.later (B7.out.trans (hb5.mono B7.out.size))),rfl⟩
theorem QH{B base R A n c:Nat}{mp:Value}{m:MM}{ln pt:Int}{w:World}{ws:List ByteArray}(h:RQ base R mp m ln pt w)(hw:Wds w A n c ws)(hA:base≤A)(hE:cw B w)(hBR:B≤R)(hps:psz (pl m)≤2097152)(h1:5≤pt∧pt≤7)(h2:n=3){v:Int}(h3:nmV (wdx ws 1)=some v)(h4:nQ (wdx ws 2)=none) :
  Calls Tryz.prog 114 #[.pointer (some ⟨R,0,none⟩),.slice (some ⟨A,0,none⟩) n c] w (LnP base R mp ln w (jt pt (pl m) ws)):=by
 obtain⟨x,hx⟩:∃x,ws[1]? =some x:=⟨_,aO aY⟩;have ex:wdx ws 1=x:=bZ;obtain⟨y,hy⟩:∃x,ws[2]? =some x:=⟨_,aO aY⟩;have ey:wdx ws 2=y:=di
 have e:jt pt (pl m) ws=none:=by
  exact C8
 rw[e];subst h2;have HO:=hid (bL h 5 7 h1.1 h1.2);have q1:=h.part 7 ae;have d1:=hw.setR (o:=10) (u:=.int .i64 7) hA h.low;have k1:=KR.set base R 10 w (.int .i64 7);have e1:=hE.later (k1.below hBR bM hE.bw);have HM:=hid (aH R (w.setCell ⟨R,10,none⟩ (.int .i64 7)));generalize w.setCell ⟨R,10,none⟩ (.int .i64 7)=w1 at *;have HQ0:=hid q1;have HD0:=hid d1;have HK0:=hid k1;have HE0:=hid e1;have sx:=hw.sz x (List.mem_of_getElem? hx)
 have HWx:=hid (fun(W:World) (hW:Below w1.heap.size w1 W)=>(by have:=(d1.later hW).at_ 1 x hx; rwa [Nat.zero_add]at this:W.cell? ⟨A,1,none⟩=some (.string x)))
 have sy:=hw.sz y (List.mem_of_getElem? hy)
 have HWy:=hid (fun(W:World) (hW:Below w1.heap.size w1 W)=>(by have:=(d1.later hW).at_ 2 y hy; rwa [Nat.zero_add]at this:W.cell? ⟨A,2,none⟩=some (.string y)))
 rw[ex]at h3;rw[ey]at h4
 have HI1:=hid (fun(W:World) (hW:Below w1.heap.size w1 W)=>gV B R x v W (e1.tens.later (hW.mono e1.bw)) (Nat.le_trans e1.bw hW.size) ae h3)
 have HI2:=hid (fun(W:World) (hW:Below w1.heap.size w1 W)=>(by have:=GJ (q1.later hW) y ae; rw[h4]at this; exact this.mono (fun e w' h=>⟨h.2,h.1⟩):Calls Tryz.prog 173 #[.pointer (some ⟨R,0,none⟩),.string y] W (fun e w'=>e=thL ln∧Below W.heap.size W w')))
 clear h hw hE hps h1 q1 d1 k1 e1 e hx ex hy ey h3 h4
 go_enter Tryz.func114,Tryz.ntmps114
 go_wp2_with fail;refine HO.out.mono ?_;rintro e w1' ⟨rfl,hw1⟩;have hw2:=hw1.symm;subst hw2;go_wp2_with fail;refine HM.out.mono ?_;rintro e w1'' ⟨rfl,hw1⟩;have hw2:=hw1.symm;subst hw2;go_wp2_with fail;have B1:=hid ((Below.refl w1.heap.size w1).drew)
 refine wp_region_held_drew (S:=(fun W=>W.cell? ⟨A,1,none⟩=some (.string x)∧W.cell? ⟨A,2,none⟩=some (.string y))) ai ⟨HWx.out _ B1.out,HWy.out _ B1.out⟩ (fun hSw=>?_)
 generalize w1.drew=wd at *;refine tkD (i:=0) (d:=some 12) rfl ?_ (hS:=aL);(try simp only[Act.put,sIB,sC0,sCs]);refine tkD (i:=1) (d:=some 13) rfl ?_ (hS:=aL);(try simp only[Act.put,sIB,sC0,sCs]);refine tkD (i:=5) (d:=some 17) rfl ?_ (hS:=aL);(try simp only[Act.put,sIB,sC0,sCs]);refine tkD (i:=6) (d:=some 18) rfl ?_ (hS:=aL);(try simp only[Act.put,sIB,sC0,sCs]);refine tkD (i:=2) (d:=some 14) rfl ?_ (hS:=aL);(try simp only[Act.put,sIB,sC0,sCs]);refine tkD (i:=7) (d:=some 19) rfl ?_ (hS:=aL);(try simp only[Act.put,sIB,sC0,sCs]);refine tkD (i:=3) (d:=some 15) rfl ?_ (hS:=aL);(try simp only[Act.put,sIB,sC0,sCs]);refine tkD (i:=8) (d:=some 20) rfl ?_ (hS:=aL);(try simp only[Act.put,sIB,sC0,sCs]);refine ryQ (rs:=[4,11]) ?_
 refine rcQ (i:=4) rfl (fun K hK=>?_) (rcQ (i:=11) rfl (fun K hK=>?_) rN)
 ·go_simp;refine(HI1.out _ B1.out).mono ?_;rintro e w5⟨rfl,hb5⟩;have B5:=hid (B1.out.trans (hb5.mono B1.out.size))
  replace hSw:=(⟨HWx.out _ B5.out,HWy.out _ B5.out⟩:w5.cell? ⟨A,1,none⟩=some (.string x)∧w5.cell? ⟨A,2,none⟩=some (.string y))
  clear hb5
  refine hK.out _ _ hSw (fun _=>?_)
  clear hK K;refine ryQ (rs:=[9,11]) ?_
  refine rcQ (i:=9) rfl (fun K hK=>?_) (rcQ (i:=11) rfl (fun K hK=>?_) rN)
  ·exact wm
  ·go_simp;have hbA:=ag w5 (aZ 0 none 0 0);have hXn:=heap_alloc_new w5 (aZ 0 none 0 0);have hXg:w1.heap.size≤w5.heap.size:=B5.out.size;generalize w5.alloc (aZ 0 none 0 0)=w7 at *;have hb7:=hbA;clear hbA;have B7:=hid (B5.out.trans (hb7.mono B5.out.size));clear hb7;generalize w5.heap.size=X at *;have HXB:=hid hXn;clear hXn
   replace hSw:=(⟨HWx.out _ B7.out,HWy.out _ B7.out⟩:w7.cell? ⟨A,1,none⟩=some (.string x)∧w7.cell? ⟨A,2,none⟩=some (.string y))
   refine hK.out _ _ hSw (fun _=>?_)
   clear hK K;refine ryQ (rs:=[9]) ?_
   refine rcQ (i:=9) rfl (fun K hK=>?_) rN
   exact Ih
 ·go_simp;have hbA:=ag wd (aZ 0 none 0 0);have hXn:=heap_alloc_new wd (aZ 0 none 0 0);have hXg:w1.heap.size≤wd.heap.size:=B1.out.size;generalize wd.alloc (aZ 0 none 0 0)=w7 at *;have hb7:=hbA;clear hbA;have B7:=hid (B1.out.trans (hb7.mono B1.out.size));clear hb7;generalize wd.heap.size=X at *;have HXB:=hid hXn;clear hXn
  replace hSw:=(⟨HWx.out _ B7.out,HWy.out _ B7.out⟩:w7.cell? ⟨A,1,none⟩=some (.string x)∧w7.cell? ⟨A,2,none⟩=some (.string y))
  refine hK.out _ _ hSw (fun _=>?_)
  clear hK K;refine ryQ (rs:=[4]) ?_
  refine rcQ (i:=4) rfl (fun K hK=>?_) rN
  go_simp;refine(HI1.out _ B7.out).mono ?_;rintro e w5⟨rfl,hb5⟩;have HXB:=hid (au hb5 HXB.out);have B5:=hid (B7.out.trans (hb5.mono B7.out.size))
  replace hSw:=(⟨HWx.out _ B5.out,HWy.out _ B5.out⟩:w5.cell? ⟨A,1,none⟩=some (.string x)∧w5.cell? ⟨A,2,none⟩=some (.string y))
  clear hb5
  refine hK.out _ _ hSw (fun _=>?_)
  clear hK K;refine ryQ (rs:=[9]) ?_
  refine rcQ (i:=9) rfl (fun K hK=>?_) rN
  exact wm
theorem Qb{B base R A n c:Nat}{mp:Value}{m:MM}{ln pt:Int}{w:World}{ws:List ByteArray}(h:RQ base R mp m ln pt w)(hw:Wds w A n c ws)(hA:base≤A)(hE:cw B w)(hBR:B≤R)(hps:psz (pl m)≤2097152) :
  Calls Tryz.prog 114 #[.pointer (some ⟨R,0,none⟩),.slice (some ⟨A,0,none⟩) n c] w (LnP base R mp ln w (jt pt (pl m) ws)):=by
 by_cases h1:5≤pt∧pt≤7
 ·by_cases h2:n=3
  ·rcases h3:nmV (wdx ws 1) with _ | v
   ·exact Qg h hw hA hE hBR hps h1 h2 h3
   ·rcases h4:nQ (wdx ws 2) with _ | l
    ·exact QH h hw hA hE hBR hps h1 h2 h3 h4
    ·exact KV h hw hA hE hBR hps h1 h2 h3 h4
  ·exact NJ h hw h1 h2
 ·exact MC h h1
theorem OZ{B base R A n c:Nat}{mp:Value}{m:MM}{ln pt:Int}{w:World}{ws:List ByteArray}(h:RQ base R mp m ln pt w)(hw:Wds w A n c ws)(hA:base≤A)(hE:cw B w)(hBR:B≤R)(hps:psz (pl m)≤2097152) :
  Calls Tryz.prog 115 #[.pointer (some ⟨R,0,none⟩),.slice (some ⟨A,0,none⟩) n c] w (LnP base R mp ln w (kN pt (pl m) ws)):=by
 by_cases h1:5≤pt∧pt≤8
 ·by_cases h2:n=3
  ·rcases h3:nmV (wdx ws 2) with _ | v
   ·exact OJ h hw hA hE hBR hps h1 h2 h3
   ·exact NA h hw hA hE hBR hps h1 h2 h3
  ·exact Mt h hw h1 h2
 ·exact Mv h h1
end Go.Proofs.YtheefojaplnnoaaGreatDoor
