/-
  Texts Pk.
-/
import Derived.Test.YtheefojaplnnoaaGreatDoorY00
import Derived.Test.YtheefojaplnnoaaGreatDoorY23
set_option linter.unusedVariables false
set_option maxRecDepth 100000
set_option maxHeartbeats 16000000
namespace Go.Proofs.YtheefojaplnnoaaGreatDoor
open Go.RowKit
theorem Lr{B base R A n c:Nat}{mp:Value}{m:MM}{ln pt:Int}{w:World}{ws:List ByteArray}(h:RQ base R mp m ln pt w)(hw:Wds w A n c ws)(hA:base≤A)(hE:cw B w)(hBR:B≤R)(hps:psz (pl m)≤2097152)(h1:1≤pt∧pt<5)(h2:n=3){a b:Int}(h3:nmV (wdx ws 1)=some a)(h4:nmV (wdx ws 2)=some b) :
  Calls Tryz.prog 112 #[.pointer (some ⟨R,0,none⟩),.slice (some ⟨A,0,none⟩) n c] w (LnP base R mp ln w (js pt (pl m) ws)):=by
 obtain⟨x,hx⟩:∃x,ws[1]? =some x:=⟨_,aO aY⟩;have ex:wdx ws 1=x:=bZ;obtain⟨y,hy⟩:∃x,ws[2]? =some x:=⟨_,aO aY⟩;have ey:wdx ws 2=y:=di
 have e:js pt (pl m) ws=some (5,{ pl m with fi:=a,mo:=b }):=by
  exact CO
 rw[e];subst h2;have HO:=hid (sO h 1 5 h1.1 h1.2);have q1:=h.part 5 ae;have d1:=hw.setR (o:=10) (u:=.int .i64 5) hA h.low;have k1:=KR.set base R 10 w (.int .i64 5);have e1:=hE.later (k1.below hBR bM hE.bw);have HM:=hid (aH R (w.setCell ⟨R,10,none⟩ (.int .i64 5)));generalize w.setCell ⟨R,10,none⟩ (.int .i64 5)=w1 at *;have HQ0:=hid q1;have HD0:=hid d1;have HK0:=hid k1;have HE0:=hid e1;have sx:=hw.sz x (List.mem_of_getElem? hx)
 have HWx:=hid (fun(W:World) (hW:Below w1.heap.size w1 W)=>(by have:=(d1.later hW).at_ 1 x hx; rwa [Nat.zero_add]at this:W.cell? ⟨A,1,none⟩=some (.string x)))
 have sy:=hw.sz y (List.mem_of_getElem? hy)
 have HWy:=hid (fun(W:World) (hW:Below w1.heap.size w1 W)=>(by have:=(d1.later hW).at_ 2 y hy; rwa [Nat.zero_add]at this:W.cell? ⟨A,2,none⟩=some (.string y)))
 rw[ex]at h3;rw[ey]at h4
 have HI1:=hid (fun(W:World) (hW:Below w1.heap.size w1 W)=>gV B R x a W (e1.tens.later (hW.mono e1.bw)) (Nat.le_trans e1.bw hW.size) ae h3)
 have HI2:=hid (fun(W:World) (hW:Below w1.heap.size w1 W)=>gV B R y b W (e1.tens.later (hW.mono e1.bw)) (Nat.le_trans e1.bw hW.size) ae h4)
 clear h hw hE hps h1 q1 d1 k1 e1 e hx ex hy ey h3 h4
 go_enter Tryz.func112,Tryz.ntmps112
 go_wp2_with fail;refine HO.out.mono ?_;rintro e w1' ⟨rfl,hw1⟩;have hw2:=hw1.symm;subst hw2;go_wp2_with fail;refine HM.out.mono ?_;rintro e w1'' ⟨rfl,hw1⟩;have hw2:=hw1.symm;subst hw2;go_wp2_with fail;have B1:=hid ((Below.refl w1.heap.size w1).drew)
 refine wp_region_held_drew (S:=fun _=>True) ai trivial (fun _=>?_)
 generalize w1.drew=wd at *;refine tkQ (i:=0) rfl ?_;(try simp only[Act.put,sIB]);refine tkQ (i:=1) rfl ?_;(try simp only[Act.put]);refine tkQ (i:=2) rfl ?_;(try simp only[Act.put]);refine tkQ (i:=3) rfl ?_;(try simp only[Act.put]);refine tkQ (i:=7) rfl ?_;(try simp only[Act.put]);refine tkQ (i:=8) rfl ?_;(try simp only[Act.put]);refine tkQ (i:=4) rfl ?_;(try simp only[Act.put]);refine tkQ (i:=9) rfl ?_;(try simp only[Act.put]);refine ryQ (rs:=[5,10]) ?_
 refine rcQ (i:=5) rfl (fun K hK=>?_) (rcQ (i:=10) rfl (fun K hK=>?_) rN)
 ·have c5:wd.cell? ⟨A,1,none⟩=some (.string x):=HWx.out _ B1.out;go_simp
  refine hK.out _ _ trivial (fun _=>?_)
  clear hK K;refine ryQ (rs:=[6,10]) ?_
  refine rcQ (i:=6) rfl (fun K hK=>?_) (rcQ (i:=10) rfl (fun K hK=>?_) rN)
  ·go_simp;refine(HI1.out _ B1.out).mono ?_;rintro e w5⟨rfl,hb5⟩;have B5:=hid (B1.out.trans (hb5.mono B1.out.size));clear hb5
   refine hK.out _ _ trivial (fun _=>?_)
   clear hK K;refine ryQ (rs:=[10]) ?_
   refine rcQ (i:=10) rfl (fun K hK=>?_) rN
   have c10:w5.cell? ⟨A,2,none⟩=some (.string y):=HWy.out _ B5.out;go_simp
   refine hK.out _ _ trivial (fun _=>?_)
   clear hK K;refine ryQ (rs:=[11]) ?_
   refine rcQ (i:=11) rfl (fun K hK=>?_) rN
   go_simp;refine(HI2.out _ B5.out).mono ?_;rintro e w6⟨rfl,hb6⟩;have B6:=hid (B5.out.trans (hb6.mono B5.out.size));clear hb6;have Q6:=hid (HQ0.out.later B6.out)
   refine hK.out _ _ trivial (fun _=>?_)
   clear hK K;refine tkQ (i:=12) rfl ?_;(try simp only[Act.put,sIB]);refine tkQ (i:=13) rfl ?_;(try simp only[Act.put]);refine tkQ (i:=14) rfl ?_;(try simp only[Act.put]);refine ryQ (rs:=[15]) ?_
   refine rcQ (i:=15) rfl (fun K hK=>?_) rN
   have c16:=Q6.out.cells 4;have f16:=Q6.out.free 4;go_simp
   have Q7:=hid (RQ.set (m':={ m with fi:=a }) Q6.out 4 (.int .i64 a) rfl ⟨rfl,rfl,rfl,rfl⟩ ⟨rfl,rfl,rfl,rfl⟩ ⟨rfl,rfl,rfl,rfl⟩ ⟨rfl,rfl,rfl,rfl⟩ ⟨rfl,rfl,rfl,rfl⟩ ⟨rfl,rfl,rfl,rfl⟩ id)
   have K7:=hid ((KR.later B6.out).trans (KR.set base R 4 w6 (.int .i64 a)))
   refine hK.out _ _ trivial (fun _=>?_)
   clear hK K;refine tkQ (i:=16) rfl ?_;(try simp only[Act.put,sIB]);refine tkQ (i:=17) rfl ?_;(try simp only[Act.put]);refine tkQ (i:=18) rfl ?_;(try simp only[Act.put]);refine ryQ (rs:=[19]) ?_
   refine rcQ (i:=19) rfl (fun K hK=>?_) rN
   generalize w6.setCell ⟨R,4,none⟩ (.int .i64 a)=w7 at *;have c17:=Q7.out.cells 5;have f17:=Q7.out.free 5;go_simp
   have Q8:=hid (RQ.set (m':={ m with fi:=a,mo:=b }) Q7.out 5 (.int .i64 b) rfl ⟨rfl,rfl,rfl,rfl⟩ ⟨rfl,rfl,rfl,rfl⟩ ⟨rfl,rfl,rfl,rfl⟩ ⟨rfl,rfl,rfl,rfl⟩ ⟨rfl,rfl,rfl,rfl⟩ ⟨rfl,rfl,rfl,rfl⟩ id)
   have K8:=hid (K7.out.trans (KR.set base R 5 w7 (.int .i64 b)))
   refine hK.out _ _ trivial (fun _=>?_)
   clear hK K;refine wpAnyH_done ai ?_ _;go_end0;exact⟨HK0.out.trans K8.out,rfl,_,Q8.out,iJ⟩
  ·have c10:wd.cell? ⟨A,2,none⟩=some (.string y):=HWy.out _ B1.out;exact Oy
 ·have c10:wd.cell? ⟨A,2,none⟩=some (.string y):=HWy.out _ B1.out;go_simp
  refine hK.out _ _ trivial (fun _=>?_)
  clear hK K;refine ryQ (rs:=[5]) ?_
  refine rcQ (i:=5) rfl (fun K hK=>?_) rN
  have c5:wd.cell? ⟨A,1,none⟩=some (.string x):=HWx.out _ B1.out;exact Oy
theorem O0{B base R A n c:Nat}{mp:Value}{m:MM}{ln pt:Int}{w:World}{ws:List ByteArray}(h:RQ base R mp m ln pt w)(hw:Wds w A n c ws)(hA:base≤A)(hE:cw B w)(hBR:B≤R)(hps:psz (pl m)≤2097152)(h1:1≤pt∧pt<5)(h2:n=3)(h3:nmV (wdx ws 1)=none) :
  Calls Tryz.prog 112 #[.pointer (some ⟨R,0,none⟩),.slice (some ⟨A,0,none⟩) n c] w (LnP base R mp ln w (js pt (pl m) ws)):=by
 obtain⟨x,hx⟩:∃x,ws[1]? =some x:=⟨_,aO aY⟩;have ex:wdx ws 1=x:=bZ;obtain⟨y,hy⟩:∃x,ws[2]? =some x:=⟨_,aO aY⟩;have ey:wdx ws 2=y:=di
 have e:js pt (pl m) ws=none:=by
  rw[ex]at h3
  unfold js; rw[if_pos ⟨h1,dY⟩,ex,ey]; rw[h3]; rfl
 rw[e];subst h2;have HO:=hid (sO h 1 5 h1.1 h1.2);have q1:=h.part 5 ae;have d1:=hw.setR (o:=10) (u:=.int .i64 5) hA h.low;have k1:=KR.set base R 10 w (.int .i64 5);have e1:=hE.later (k1.below hBR bM hE.bw);have HM:=hid (aH R (w.setCell ⟨R,10,none⟩ (.int .i64 5)));generalize w.setCell ⟨R,10,none⟩ (.int .i64 5)=w1 at *;have HQ0:=hid q1;have HD0:=hid d1;have HK0:=hid k1;have HE0:=hid e1;have sx:=hw.sz x (List.mem_of_getElem? hx)
 have HWx:=hid (fun(W:World) (hW:Below w1.heap.size w1 W)=>(by have:=(d1.later hW).at_ 1 x hx; rwa [Nat.zero_add]at this:W.cell? ⟨A,1,none⟩=some (.string x)))
 have sy:=hw.sz y (List.mem_of_getElem? hy)
 have HWy:=hid (fun(W:World) (hW:Below w1.heap.size w1 W)=>(by have:=(d1.later hW).at_ 2 y hy; rwa [Nat.zero_add]at this:W.cell? ⟨A,2,none⟩=some (.string y)))
 rw[ex]at h3
 have HI1:=hid (fun(W:World) (hW:Below w1.heap.size w1 W)=>mU B R x ln W (e1.tens.later (hW.mono e1.bw)) (e1.errs.later (hW.mono e1.bw)) (Nat.le_trans e1.bw hW.size) ae ((q1.later hW).cells 9) h3)
 clear h hw hE hps h1 q1 d1 k1 e1 e hx ex hy ey h3
 go_enter Tryz.func112,Tryz.ntmps112
 go_wp2_with fail;refine HO.out.mono ?_;rintro e w1' ⟨rfl,hw1⟩;have hw2:=hw1.symm;subst hw2;go_wp2_with fail;refine HM.out.mono ?_;rintro e w1'' ⟨rfl,hw1⟩;have hw2:=hw1.symm;subst hw2;go_wp2_with fail;have B1:=hid ((Below.refl w1.heap.size w1).drew)
 refine wp_region_held_drew (S:=fun _=>True) ai trivial (fun _=>?_)
 generalize w1.drew=wd at *;refine tkQ (i:=0) rfl ?_;(try simp only[Act.put,sIB]);refine tkQ (i:=1) rfl ?_;(try simp only[Act.put]);refine tkQ (i:=2) rfl ?_;(try simp only[Act.put]);refine tkQ (i:=3) rfl ?_;(try simp only[Act.put]);refine tkQ (i:=7) rfl ?_;(try simp only[Act.put]);refine tkQ (i:=8) rfl ?_;(try simp only[Act.put]);refine tkQ (i:=4) rfl ?_;(try simp only[Act.put]);refine tkQ (i:=9) rfl ?_;(try simp only[Act.put]);refine ryQ (rs:=[5,10]) ?_
 refine rcQ (i:=5) rfl (fun K hK=>?_) (rcQ (i:=10) rfl (fun K hK=>?_) rN)
 ·have c5:wd.cell? ⟨A,1,none⟩=some (.string x):=HWx.out _ B1.out;go_simp
  refine hK.out _ _ trivial (fun _=>?_)
  clear hK K;refine ryQ (rs:=[6,10]) ?_
  refine rcQ (i:=6) rfl (fun K hK=>?_) (rcQ (i:=10) rfl (fun K hK=>?_) rN)
  ·exact GY
  ·have c10:wd.cell? ⟨A,2,none⟩=some (.string y):=HWy.out _ B1.out;exact JN
 ·have c10:wd.cell? ⟨A,2,none⟩=some (.string y):=HWy.out _ B1.out;go_simp
  refine hK.out _ _ trivial (fun _=>?_)
  clear hK K;refine ryQ (rs:=[5]) ?_
  refine rcQ (i:=5) rfl (fun K hK=>?_) rN
  have c5:wd.cell? ⟨A,1,none⟩=some (.string x):=HWx.out _ B1.out;exact JN
theorem Ql{B base R A n c:Nat}{mp:Value}{m:MM}{ln pt:Int}{w:World}{ws:List ByteArray}(h:RQ base R mp m ln pt w)(hw:Wds w A n c ws)(hA:base≤A)(hE:cw B w)(hBR:B≤R)(hps:psz (pl m)≤2097152)(h1:1≤pt∧pt<5)(h2:n=3){a:Int}(h3:nmV (wdx ws 1)=some a)(h4:nmV (wdx ws 2)=none) :
  Calls Tryz.prog 112 #[.pointer (some ⟨R,0,none⟩),.slice (some ⟨A,0,none⟩) n c] w (LnP base R mp ln w (js pt (pl m) ws)):=by
 obtain⟨x,hx⟩:∃x,ws[1]? =some x:=⟨_,aO aY⟩;have ex:wdx ws 1=x:=bZ;obtain⟨y,hy⟩:∃x,ws[2]? =some x:=⟨_,aO aY⟩;have ey:wdx ws 2=y:=di
 have e:js pt (pl m) ws=none:=by
  exact CO
 rw[e];subst h2;have HO:=hid (sO h 1 5 h1.1 h1.2);have q1:=h.part 5 ae;have d1:=hw.setR (o:=10) (u:=.int .i64 5) hA h.low;have k1:=KR.set base R 10 w (.int .i64 5);have e1:=hE.later (k1.below hBR bM hE.bw);have HM:=hid (aH R (w.setCell ⟨R,10,none⟩ (.int .i64 5)));generalize w.setCell ⟨R,10,none⟩ (.int .i64 5)=w1 at *;have HQ0:=hid q1;have HD0:=hid d1;have HK0:=hid k1;have HE0:=hid e1;have sx:=hw.sz x (List.mem_of_getElem? hx)
 have HWx:=hid (fun(W:World) (hW:Below w1.heap.size w1 W)=>(by have:=(d1.later hW).at_ 1 x hx; rwa [Nat.zero_add]at this:W.cell? ⟨A,1,none⟩=some (.string x)))
 have sy:=hw.sz y (List.mem_of_getElem? hy)
 have HWy:=hid (fun(W:World) (hW:Below w1.heap.size w1 W)=>(by have:=(d1.later hW).at_ 2 y hy; rwa [Nat.zero_add]at this:W.cell? ⟨A,2,none⟩=some (.string y)))
 rw[ex]at h3;rw[ey]at h4
 have HI1:=hid (fun(W:World) (hW:Below w1.heap.size w1 W)=>gV B R x a W (e1.tens.later (hW.mono e1.bw)) (Nat.le_trans e1.bw hW.size) ae h3)
 have HI2:=hid (fun(W:World) (hW:Below w1.heap.size w1 W)=>mU B R y ln W (e1.tens.later (hW.mono e1.bw)) (e1.errs.later (hW.mono e1.bw)) (Nat.le_trans e1.bw hW.size) ae ((q1.later hW).cells 9) h4)
 clear h hw hE hps h1 q1 d1 k1 e1 e hx ex hy ey h3 h4
 go_enter Tryz.func112,Tryz.ntmps112
 go_wp2_with fail;refine HO.out.mono ?_;rintro e w1' ⟨rfl,hw1⟩;have hw2:=hw1.symm;subst hw2;go_wp2_with fail;refine HM.out.mono ?_;rintro e w1'' ⟨rfl,hw1⟩;have hw2:=hw1.symm;subst hw2;go_wp2_with fail;have B1:=hid ((Below.refl w1.heap.size w1).drew)
 refine wp_region_held_drew (S:=fun _=>True) ai trivial (fun _=>?_)
 generalize w1.drew=wd at *;refine tkQ (i:=0) rfl ?_;(try simp only[Act.put,sIB]);refine tkQ (i:=1) rfl ?_;(try simp only[Act.put]);refine tkQ (i:=2) rfl ?_;(try simp only[Act.put]);refine tkQ (i:=3) rfl ?_;(try simp only[Act.put]);refine tkQ (i:=7) rfl ?_;(try simp only[Act.put]);refine tkQ (i:=8) rfl ?_;(try simp only[Act.put]);refine tkQ (i:=4) rfl ?_;(try simp only[Act.put]);refine tkQ (i:=9) rfl ?_;(try simp only[Act.put]);refine ryQ (rs:=[5,10]) ?_
 refine rcQ (i:=5) rfl (fun K hK=>?_) (rcQ (i:=10) rfl (fun K hK=>?_) rN)
 ·have c5:wd.cell? ⟨A,1,none⟩=some (.string x):=HWx.out _ B1.out;go_simp
  refine hK.out _ _ trivial (fun _=>?_)
  clear hK K;refine ryQ (rs:=[6,10]) ?_
  refine rcQ (i:=6) rfl (fun K hK=>?_) (rcQ (i:=10) rfl (fun K hK=>?_) rN)
  ·go_simp;refine(HI1.out _ B1.out).mono ?_;rintro e w5⟨rfl,hb5⟩;have B5:=hid (B1.out.trans (hb5.mono B1.out.size));clear hb5
   refine hK.out _ _ trivial (fun _=>?_)
   clear hK K;refine ryQ (rs:=[10]) ?_
   refine rcQ (i:=10) rfl (fun K hK=>?_) rN
   have c10:w5.cell? ⟨A,2,none⟩=some (.string y):=HWy.out _ B5.out;go_simp
   refine hK.out _ _ trivial (fun _=>?_)
   clear hK K;refine ryQ (rs:=[11]) ?_
   refine rcQ (i:=11) rfl (fun K hK=>?_) rN
   go_simp;refine(HI2.out _ B5.out).mono ?_;rintro e w6⟨rfl,hb6⟩;exact⟨rfl,HK0.out.trans (KR.later (B5.out.trans (hb6.mono B5.out.size))),rfl⟩
  ·have c10:wd.cell? ⟨A,2,none⟩=some (.string y):=HWy.out _ B1.out;exact Gr
 ·have c10:wd.cell? ⟨A,2,none⟩=some (.string y):=HWy.out _ B1.out;go_simp
  refine hK.out _ _ trivial (fun _=>?_)
  clear hK K;refine ryQ (rs:=[5]) ?_
  refine rcQ (i:=5) rfl (fun K hK=>?_) rN
  have c5:wd.cell? ⟨A,1,none⟩=some (.string x):=HWx.out _ B1.out;exact Gr
theorem QR{B base R A n c:Nat}{mp:Value}{m:MM}{ln pt:Int}{w:World}{ws:List ByteArray}(h:RQ base R mp m ln pt w)(hw:Wds w A n c ws)(hA:base≤A)(hE:cw B w)(hBR:B≤R)(hps:psz (pl m)≤2097152) :
  Calls Tryz.prog 112 #[.pointer (some ⟨R,0,none⟩),.slice (some ⟨A,0,none⟩) n c] w (LnP base R mp ln w (js pt (pl m) ws)):=by
 by_cases h1:1≤pt∧pt<5
 ·by_cases h2:n=3
  ·rcases h3:nmV (wdx ws 1) with _ | a
   ·exact O0 h hw hA hE hBR hps h1 h2 h3
   ·rcases h4:nmV (wdx ws 2) with _ | b
    ·exact Ql h hw hA hE hBR hps h1 h2 h3 h4
    ·exact Lr h hw hA hE hBR hps h1 h2 h3 h4
  ·exact NF h hw h1 h2
 ·exact LK h h1
end Go.Proofs.YtheefojaplnnoaaGreatDoor
