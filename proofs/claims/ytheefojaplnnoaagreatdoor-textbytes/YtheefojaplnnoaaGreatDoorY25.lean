/-
  Texts Pl Pm.
-/
import Derived.Test.YtheefojaplnnoaaGreatDoorY00
import Derived.Test.YtheefojaplnnoaaGreatDoorY24
set_option linter.unusedVariables false
set_option maxRecDepth 100000
set_option maxHeartbeats 16000000
namespace Go.Proofs.YtheefojaplnnoaaGreatDoor
open Go.RowKit
theorem Oj:(Tryz.prog.info? 78).map (fun i=>(i.zero,i.size,i.bytes))=some (some (.agg #[.int .i64 0,.string ⟨#[]⟩,.slice none 0 0]),3,48):=ai
theorem rU(s:ByteArray)(w:World)(hs:s.size≤281474976710656):Calls Tryz.prog 172 #[.string s] w fun e w'=>e=.returned (.string s)∧Below w.heap.size w w':=by
 have HC:=hid (Tryz.stringslite_Clone s w hs)
 go_enter Tryz.func172,Tryz.ntmps172
 go_wp2_with fail;refine HC.out.mono ?_;rintro e w1⟨rfl,hb⟩;go_wp2_with fail;go_ret;exact⟨rfl,hb⟩
theorem Gm{B base R A n c:Nat}{mp:Value}{m:MM}{ln pt:Int}{w:World}{ws:List ByteArray}(h:RQ base R mp m ln pt w)(hw:Wds w A n c ws)(hA:base≤A)(hE:cw B w)(hBR:B≤R)(hps:psz (pl m)≤2097152)(h1:5≤pt∧pt≤6)(h2:n=3){v:Int}(h3:nmV (wdx ws 1)=some v)(h4:(wdx ws 2).toList=[45]) :
  Calls Tryz.prog 113 #[.pointer (some ⟨R,0,none⟩),.slice (some ⟨A,0,none⟩) n c] w (LnP base R mp ln w (iZ pt (pl m) ws)):=by
 obtain⟨i0,hi,hz0,hz1,hz2⟩:=info_parts Oj;obtain⟨x,hx⟩:∃x,ws[1]? =some x:=⟨_,aO aY⟩;have ex:wdx ws 1=x:=bZ;obtain⟨y,hy⟩:∃x,ws[2]? =some x:=⟨_,aO aY⟩;have ey:wdx ws 2=y:=di
 have e:iZ pt (pl m) ws=some (6,{ pl m with fns:=(pl m).fns++[(v,⟨#[]⟩,[])] }):=by
  rw[ex]at h3; rw[ey]at h4
  unfold iZ; rw[if_pos ⟨h1,dY⟩,ex,ey]; rw[h3]; unfold tJ; rw[if_pos h4]; rfl
 rw[e];subst h2
 have hn:m.fn≤2097152:=by
  exact J9
 have HO:=hid (bL h 5 6 h1.1 h1.2);have q1:=h.part 6 ae;have d1:=hw.setR (o:=10) (u:=.int .i64 6) hA h.low;have k1:=KR.set base R 10 w (.int .i64 6);have e1:=hE.later (k1.below hBR bM hE.bw);have HM:=hid (aH R (w.setCell ⟨R,10,none⟩ (.int .i64 6)));generalize w.setCell ⟨R,10,none⟩ (.int .i64 6)=w1 at *;have HQ0:=hid q1;have HD0:=hid d1;have HK0:=hid k1;have HE0:=hid e1;have sx:=hw.sz x (List.mem_of_getElem? hx)
 have HWx:=hid (fun(W:World) (hW:Below w1.heap.size w1 W)=>(by have:=(d1.later hW).at_ 1 x hx; rwa [Nat.zero_add]at this:W.cell? ⟨A,1,none⟩=some (.string x)))
 have sy:=hw.sz y (List.mem_of_getElem? hy)
 have HWy:=hid (fun(W:World) (hW:Below w1.heap.size w1 W)=>(by have:=(d1.later hW).at_ 2 y hy; rwa [Nat.zero_add]at this:W.cell? ⟨A,2,none⟩=some (.string y)))
 rw[ex]at h3;rw[ey]at h4
 have HI1:=hid (fun(W:World) (hW:Below w1.heap.size w1 W)=>gV B R x v W (e1.tens.later (hW.mono e1.bw)) (Nat.le_trans e1.bw hW.size) ae h3)
 clear h hw hE hps h1 q1 d1 k1 e1 e hx ex hy ey h3
 go_enter Tryz.func113,Tryz.ntmps113
 go_wp2_with fail;refine HO.out.mono ?_;rintro e w1' ⟨rfl,hw1⟩;have hw2:=hw1.symm;subst hw2;go_wp2_with fail;refine HM.out.mono ?_;rintro e w1'' ⟨rfl,hw1⟩;have hw2:=hw1.symm;subst hw2;have cx:=HWx.out w1 (Below.refl _ _);go_wp2_with fail;refine(HI1.out _ (Below.refl _ _)).mono ?_;rintro e w5⟨rfl,hb5⟩;have B5:=hid hb5;clear hb5;have cy:(w5.alloc (aR v ⟨#[]⟩ none 0 0)).cell? ⟨A,2,none⟩=some (.string y):=HWy.out _ (B5.out.trans ((ag w5 _).mono B5.out.size));have hAl:=hid (block_lt_of_cell (HWy.out _ B5.out));go_wp2_with fail;have HBX:=hid (heap_alloc_new w5 (aR v ⟨#[]⟩ none 0 0));have KX:=hid (KR.later (base:=base) (R:=R) (B5.out.trans ((ag w5 (aR v ⟨#[]⟩ none 0 0)).mono B5.out.size)));have Q1:=hid (HQ0.out.later (B5.out.trans ((ag w5 (aR v ⟨#[]⟩ none 0 0)).mono B5.out.size)));clear cy;generalize w5.alloc (aR v ⟨#[]⟩ none 0 0)=w9 at *;generalize w5.heap.size=X at *;have B1:=hid ((Below.refl w9.heap.size w9).drew)
 refine wp_region_held_drew (S:=fun _=>True) ai trivial (fun _=>?_)
 generalize w9.drew=wd at *;refine tkQ (i:=0) rfl ?_;(try simp only[Act.put,sIB]);refine tkQ (i:=1) rfl ?_;(try simp only[Act.put]);refine tkQ (i:=2) rfl ?_;(try simp only[Act.put]);refine tkQ (i:=3) rfl ?_;(try simp only[Act.put]);refine tkQ (i:=4) rfl ?_;(try simp only[Act.put]);refine ryQ (rs:=[5,6]) ?_
 refine rcQ (i:=5) rfl (fun K hK=>?_) (rcQ (i:=6) rfl (fun K hK=>?_) rN)
 ·have cH:wd.cell? ⟨R,6,none⟩=some (.slice m.fa m.fn m.fc):=(Q1.out.later B1.out).cells 6;go_simp
  refine hK.out _ _ trivial (fun _=>?_)
  clear hK K;refine ryQ (rs:=[6]) ?_
  refine rcQ (i:=6) rfl (fun K hK=>?_) rN
  have y0:wd.cell? ⟨X,0,none⟩=some (.int .i64 v):=ak (au B1.out HBX.out);have y1:wd.cell? ⟨X,1,none⟩=some (.string ⟨#[]⟩):=ak (au B1.out HBX.out);have y2:wd.cell? ⟨X,2,none⟩=some (.slice none 0 0):=ak (au B1.out HBX.out);exact IW
 ·have y0:wd.cell? ⟨X,0,none⟩=some (.int .i64 v):=ak (au B1.out HBX.out);have y1:wd.cell? ⟨X,1,none⟩=some (.string ⟨#[]⟩):=ak (au B1.out HBX.out);have y2:wd.cell? ⟨X,2,none⟩=some (.slice none 0 0):=ak (au B1.out HBX.out);go_simp
  refine hK.out _ _ trivial (fun _=>?_)
  clear hK K;refine ryQ (rs:=[5,7]) ?_
  refine rcQ (i:=5) rfl (fun K hK=>?_) (rcQ (i:=7) rfl (fun K hK=>?_) rN)
  ·have cH:wd.cell? ⟨R,6,none⟩=some (.slice m.fa m.fn m.fc):=(Q1.out.later B1.out).cells 6;exact IW
  ·go_simp;have BN:=hid (B1.out.trans ((ag wd (aR v ⟨#[]⟩ none 0 0)).mono B1.out.size))
   refine hK.out _ _ trivial (fun _=>?_)
   clear hK K;refine ryQ (rs:=[5]) ?_
   refine rcQ (i:=5) rfl (fun K hK=>?_) rN
   have cH:(wd.alloc (aR v ⟨#[]⟩ none 0 0)).cell? ⟨R,6,none⟩=some (.slice m.fa m.fn m.fc):=(Q1.out.later BN.out).cells 6;go_simp
   refine hK.out _ _ trivial (fun _=>?_)
   clear hK K;refine ryQ (rs:=[8]) ?_
   refine rcQ (i:=8) rfl (fun K hK=>?_) rN
   refine wp_append_lies _ (.tmp 32) (.tmp 34) 25 rfl base 78 i0 (.agg #[.int .i64 0,.string ⟨#[]⟩,.slice none 0 0]) 3 48 Tryz.underlying25 hi hz0 hz1 hz2 rfl aj (.slice m.fa m.fn m.fc) m.fn (m.fns.flatMap dR) rfl (Q1.out.later BN.out).rf ⟨wd.heap.size,0,none⟩ 1 1 (dR ((v,⟨#[]⟩,(none,0,0),[]):FuM)) rfl rfl ?n1 ?n2 aj bV ae (Q1.out.later BN.out).bw _ rfl ?_
   case n1 =>
    exact H0
   case n2=>intro u hu; simp[dR]at hu; rcases hu with rfl | rfl | rfl <;> rfl
   intro g cap w6 ho6 hg6 _ _;have PX:=hid ((Q1.out).pushF BN.out ((v,⟨#[]⟩,(none,0,0),[]):FuM) aj ⟨rfl,rfl⟩ ho6 hg6);have z6:=hid (cr ((Q1.out.later BN.out).blk) (Q1.out).low ((Q1.out.later BN.out).rf) hg6);clear ho6 hg6
   refine hK.out _ _ trivial (fun _=>?_)
   clear hK K;refine tkQ (i:=9) rfl ?_;(try simp only[Act.put,sIB]);refine tkQ (i:=10) rfl ?_;(try simp only[Act.put]);refine tkQ (i:=11) rfl ?_;(try simp only[Act.put]);refine ryQ (rs:=[12]) ?_
   refine rcQ (i:=12) rfl (fun K hK=>?_) rN
   have c16:w6.cell? ⟨R,6,none⟩=some (.slice m.fa m.fn m.fc):=ak z6.out;have f16:w6.frozen? ⟨R,6,none⟩=false:=free_at z6.out;go_simp
   refine hK.out _ _ trivial (fun _=>?_)
   clear hK K;refine wpAnyH_done ai ?_ _;go_end0
   exact⟨(HK0.out.trans KX.out).trans PX.out.2,rfl,_,PX.out.1,by unfold pl; simp[plF,List.map_append]⟩
theorem Ma{B base R A n c:Nat}{mp:Value}{m:MM}{ln pt:Int}{w:World}{ws:List ByteArray}(h:RQ base R mp m ln pt w)(hw:Wds w A n c ws)(hA:base≤A)(hE:cw B w)(hBR:B≤R)(hps:psz (pl m)≤2097152)(h1:5≤pt∧pt≤6)(h2:n=3){v:Int}(h3:nmV (wdx ws 1)=some v)(h4:¬(wdx ws 2).toList=[45]) :
  Calls Tryz.prog 113 #[.pointer (some ⟨R,0,none⟩),.slice (some ⟨A,0,none⟩) n c] w (LnP base R mp ln w (iZ pt (pl m) ws)):=by
 obtain⟨i0,hi,hz0,hz1,hz2⟩:=info_parts Oj;obtain⟨x,hx⟩:∃x,ws[1]? =some x:=⟨_,aO aY⟩;have ex:wdx ws 1=x:=bZ;obtain⟨y,hy⟩:∃x,ws[2]? =some x:=⟨_,aO aY⟩;have ey:wdx ws 2=y:=di
 have e:iZ pt (pl m) ws=some (6,{ pl m with fns:=(pl m).fns++[(v,wdx ws 2,[])] }):=by
  rw[ex]at h3; rw[ey]at h4
  unfold iZ; rw[if_pos ⟨h1,dY⟩,ex,ey]; rw[h3]; unfold tJ; rw[if_neg h4]; rfl
 rw[e];subst h2
 have hn:m.fn≤2097152:=by
  exact J9
 have HO:=hid (bL h 5 6 h1.1 h1.2);have q1:=h.part 6 ae;have d1:=hw.setR (o:=10) (u:=.int .i64 6) hA h.low;have k1:=KR.set base R 10 w (.int .i64 6);have e1:=hE.later (k1.below hBR bM hE.bw);have HM:=hid (aH R (w.setCell ⟨R,10,none⟩ (.int .i64 6)));generalize w.setCell ⟨R,10,none⟩ (.int .i64 6)=w1 at *;have HQ0:=hid q1;have HD0:=hid d1;have HK0:=hid k1;have HE0:=hid e1;have sx:=hw.sz x (List.mem_of_getElem? hx)
 have HWx:=hid (fun(W:World) (hW:Below w1.heap.size w1 W)=>(by have:=(d1.later hW).at_ 1 x hx; rwa [Nat.zero_add]at this:W.cell? ⟨A,1,none⟩=some (.string x)))
 have sy:=hw.sz y (List.mem_of_getElem? hy)
 have HWy:=hid (fun(W:World) (hW:Below w1.heap.size w1 W)=>(by have:=(d1.later hW).at_ 2 y hy; rwa [Nat.zero_add]at this:W.cell? ⟨A,2,none⟩=some (.string y)))
 rw[ex]at h3;rw[ey]at h4;have hne:(y.toList==[45])=false:=vM
 have HI1:=hid (fun(W:World) (hW:Below w1.heap.size w1 W)=>gV B R x v W (e1.tens.later (hW.mono e1.bw)) (Nat.le_trans e1.bw hW.size) ae h3)
 have HCl:=hid (fun(W:World)=>rU y W ae)
 have HEy:=hid ey;clear h hw hE hps h1 q1 d1 k1 e1 e hx ex hy ey h3 h4
 go_enter Tryz.func113,Tryz.ntmps113
 go_wp2_with fail;refine HO.out.mono ?_;rintro e w1' ⟨rfl,hw1⟩;have hw2:=hw1.symm;subst hw2;go_wp2_with fail;refine HM.out.mono ?_;rintro e w1'' ⟨rfl,hw1⟩;have hw2:=hw1.symm;subst hw2;have cx:=HWx.out w1 (Below.refl _ _);go_wp2_with fail;refine(HI1.out _ (Below.refl _ _)).mono ?_;rintro e w5⟨rfl,hb5⟩;have B5:=hid hb5;clear hb5;have cy:(w5.alloc (aR v ⟨#[]⟩ none 0 0)).cell? ⟨A,2,none⟩=some (.string y):=HWy.out _ (B5.out.trans ((ag w5 _).mono B5.out.size));have hAl:=hid (block_lt_of_cell (HWy.out _ B5.out));go_wp2_with fail;refine(HCl.out _).mono ?_;rintro e w8⟨rfl,hb8⟩
 have B8:=hid ((B5.out.trans ((ag w5 (aR v ⟨#[]⟩ none 0 0)).mono B5.out.size)).trans (hb8.mono (by have:=B5.out.size; simp; omega)))
 have hX8:=au hb8 (heap_alloc_new w5 (aR v ⟨#[]⟩ none 0 0));have c8:w8.cell? ⟨w5.heap.size,1,none⟩=some (.string ⟨#[]⟩):=ak hX8;have f8:w8.frozen? ⟨w5.heap.size,1,none⟩=false:=free_at hX8;have hXb:=hid (Nat.le_trans (HQ0.out.later B5.out).bw (Nat.le_refl w5.heap.size));have HBX:=hid (bS (i:=1) (u:=.string y) hX8);have kS:=aw w8 w5.heap.size 1 (.string y)
 have BX0:Below w1.heap.size w8 (w8.setCell ⟨w5.heap.size,1,none⟩ (.string y)):=kS.to_below B8.out.size (fun k _ hk=>by have e:k=w5.heap.size:=hk; have:=B5.out.size; omega)
 have BX:=hid (B8.out.trans BX0);have KX:=hid (KR.later (base:=base) (R:=R) BX.out);have Q1:=hid (HQ0.out.later BX.out);clear hb8 hX8 kS BX0;go_wp2_with fail;generalize w8.setCell ⟨w5.heap.size,1,none⟩ (.string y)=w9 at *;generalize w5.heap.size=X at *;have B1:=hid ((Below.refl w9.heap.size w9).drew)
 refine wp_region_held_drew (S:=fun _=>True) ai trivial (fun _=>?_)
 generalize w9.drew=wd at *;refine tkQ (i:=0) rfl ?_;(try simp only[Act.put,sIB]);refine tkQ (i:=1) rfl ?_;(try simp only[Act.put]);refine tkQ (i:=2) rfl ?_;(try simp only[Act.put]);refine tkQ (i:=3) rfl ?_;(try simp only[Act.put]);refine tkQ (i:=4) rfl ?_;(try simp only[Act.put]);refine ryQ (rs:=[5,6]) ?_
 refine rcQ (i:=5) rfl (fun K hK=>?_) (rcQ (i:=6) rfl (fun K hK=>?_) rN)
 ·have cH:wd.cell? ⟨R,6,none⟩=some (.slice m.fa m.fn m.fc):=(Q1.out.later B1.out).cells 6;go_simp
  refine hK.out _ _ trivial (fun _=>?_)
  clear hK K;refine ryQ (rs:=[6]) ?_
  refine rcQ (i:=6) rfl (fun K hK=>?_) rN
  have y0:wd.cell? ⟨X,0,none⟩=some (.int .i64 v):=ak (au B1.out HBX.out);have y1:wd.cell? ⟨X,1,none⟩=some (.string y):=ak (au B1.out HBX.out);have y2:wd.cell? ⟨X,2,none⟩=some (.slice none 0 0):=ak (au B1.out HBX.out);exact GN
 ·have y0:wd.cell? ⟨X,0,none⟩=some (.int .i64 v):=ak (au B1.out HBX.out);have y1:wd.cell? ⟨X,1,none⟩=some (.string y):=ak (au B1.out HBX.out);have y2:wd.cell? ⟨X,2,none⟩=some (.slice none 0 0):=ak (au B1.out HBX.out);go_simp
  refine hK.out _ _ trivial (fun _=>?_)
  clear hK K;refine ryQ (rs:=[5,7]) ?_
  refine rcQ (i:=5) rfl (fun K hK=>?_) (rcQ (i:=7) rfl (fun K hK=>?_) rN)
  ·have cH:wd.cell? ⟨R,6,none⟩=some (.slice m.fa m.fn m.fc):=(Q1.out.later B1.out).cells 6;exact GN
  ·go_simp;have BN:=hid (B1.out.trans ((ag wd (aR v y none 0 0)).mono B1.out.size))
   refine hK.out _ _ trivial (fun _=>?_)
   clear hK K;refine ryQ (rs:=[5]) ?_
   refine rcQ (i:=5) rfl (fun K hK=>?_) rN
   have cH:(wd.alloc (aR v y none 0 0)).cell? ⟨R,6,none⟩=some (.slice m.fa m.fn m.fc):=(Q1.out.later BN.out).cells 6;go_simp
   refine hK.out _ _ trivial (fun _=>?_)
   clear hK K;refine ryQ (rs:=[8]) ?_
   refine rcQ (i:=8) rfl (fun K hK=>?_) rN
   refine wp_append_lies _ (.tmp 32) (.tmp 34) 25 rfl base 78 i0 (.agg #[.int .i64 0,.string ⟨#[]⟩,.slice none 0 0]) 3 48 Tryz.underlying25 hi hz0 hz1 hz2 rfl aj (.slice m.fa m.fn m.fc) m.fn (m.fns.flatMap dR) rfl (Q1.out.later BN.out).rf ⟨wd.heap.size,0,none⟩ 1 1 (dR ((v,y,(none,0,0),[]):FuM)) rfl rfl ?n1 ?n2 aj bV ae (Q1.out.later BN.out).bw _ rfl ?_
   case n1 =>
    exact H0
   case n2=>intro u hu; simp[dR]at hu; rcases hu with rfl | rfl | rfl <;> rfl
   intro g cap w6 ho6 hg6 _ _;have PX:=hid ((Q1.out).pushF BN.out ((v,y,(none,0,0),[]):FuM) aj ⟨rfl,rfl⟩ ho6 hg6);have z6:=hid (cr ((Q1.out.later BN.out).blk) (Q1.out).low ((Q1.out.later BN.out).rf) hg6);clear ho6 hg6
   refine hK.out _ _ trivial (fun _=>?_)
   clear hK K;refine tkQ (i:=9) rfl ?_;(try simp only[Act.put,sIB]);refine tkQ (i:=10) rfl ?_;(try simp only[Act.put]);refine tkQ (i:=11) rfl ?_;(try simp only[Act.put]);refine ryQ (rs:=[12]) ?_
   refine rcQ (i:=12) rfl (fun K hK=>?_) rN
   have c16:w6.cell? ⟨R,6,none⟩=some (.slice m.fa m.fn m.fc):=ak z6.out;have f16:w6.frozen? ⟨R,6,none⟩=false:=free_at z6.out;go_simp
   refine hK.out _ _ trivial (fun _=>?_)
   clear hK K;refine wpAnyH_done ai ?_ _;go_end0;exact⟨(HK0.out.trans KX.out).trans PX.out.2,rfl,_,PX.out.1,Bz⟩
theorem O9{B base R A n c:Nat}{mp:Value}{m:MM}{ln pt:Int}{w:World}{ws:List ByteArray}(h:RQ base R mp m ln pt w)(hw:Wds w A n c ws)(hA:base≤A)(hE:cw B w)(hBR:B≤R)(hps:psz (pl m)≤2097152)(h1:5≤pt∧pt≤6)(h2:n=3)(h3:nmV (wdx ws 1)=none) :
  Calls Tryz.prog 113 #[.pointer (some ⟨R,0,none⟩),.slice (some ⟨A,0,none⟩) n c] w (LnP base R mp ln w (iZ pt (pl m) ws)):=by
 obtain⟨x,hx⟩:∃x,ws[1]? =some x:=⟨_,aO aY⟩;have ex:wdx ws 1=x:=bZ;obtain⟨y,hy⟩:∃x,ws[2]? =some x:=⟨_,aO aY⟩;have ey:wdx ws 2=y:=di
 have e:iZ pt (pl m) ws=none:=by
  rw[ex]at h3
  unfold iZ; rw[if_pos ⟨h1,dY⟩,ex,ey]; rw[h3]; rfl
 rw[e];subst h2;have HO:=hid (bL h 5 6 h1.1 h1.2);have q1:=h.part 6 ae;have d1:=hw.setR (o:=10) (u:=.int .i64 6) hA h.low;have k1:=KR.set base R 10 w (.int .i64 6);have e1:=hE.later (k1.below hBR bM hE.bw);have HM:=hid (aH R (w.setCell ⟨R,10,none⟩ (.int .i64 6)));generalize w.setCell ⟨R,10,none⟩ (.int .i64 6)=w1 at *;have HQ0:=hid q1;have HD0:=hid d1;have HK0:=hid k1;have HE0:=hid e1;have sx:=hw.sz x (List.mem_of_getElem? hx)
 have HWx:=hid (fun(W:World) (hW:Below w1.heap.size w1 W)=>(by have:=(d1.later hW).at_ 1 x hx; rwa [Nat.zero_add]at this:W.cell? ⟨A,1,none⟩=some (.string x)))
 have sy:=hw.sz y (List.mem_of_getElem? hy)
 have HWy:=hid (fun(W:World) (hW:Below w1.heap.size w1 W)=>(by have:=(d1.later hW).at_ 2 y hy; rwa [Nat.zero_add]at this:W.cell? ⟨A,2,none⟩=some (.string y)))
 rw[ex]at h3
 have HI1:=hid (fun(W:World) (hW:Below w1.heap.size w1 W)=>mU B R x ln W (e1.tens.later (hW.mono e1.bw)) (e1.errs.later (hW.mono e1.bw)) (Nat.le_trans e1.bw hW.size) ae ((q1.later hW).cells 9) h3)
 have cx:=HWx.out w1 (Below.refl _ _);clear h hw hE hps h1 q1 d1 k1 e1 e hx ex hy ey h3
 go_enter Tryz.func113,Tryz.ntmps113
 go_wp2_with fail;refine HO.out.mono ?_;rintro e w1' ⟨rfl,hw1⟩;have hw2:=hw1.symm;subst hw2;go_wp2_with fail;refine HM.out.mono ?_;rintro e w1'' ⟨rfl,hw1⟩;have hw2:=hw1.symm;subst hw2;go_wp2_with fail;refine(HI1.out _ (Below.refl _ _)).mono ?_;rintro e w5⟨rfl,hb5⟩;exact⟨rfl,HK0.out.trans (KR.later hb5),rfl⟩
theorem Qr{B base R A n c:Nat}{mp:Value}{m:MM}{ln pt:Int}{w:World}{ws:List ByteArray}(h:RQ base R mp m ln pt w)(hw:Wds w A n c ws)(hA:base≤A)(hE:cw B w)(hBR:B≤R)(hps:psz (pl m)≤2097152) :
  Calls Tryz.prog 113 #[.pointer (some ⟨R,0,none⟩),.slice (some ⟨A,0,none⟩) n c] w (LnP base R mp ln w (iZ pt (pl m) ws)):=by
 by_cases h1:5≤pt∧pt≤6
 ·by_cases h2:n=3
  ·rcases h3:nmV (wdx ws 1) with _ | v
   ·exact O9 h hw hA hE hBR hps h1 h2 h3
   ·by_cases h4:(wdx ws 2).toList=[45]
    ·exact Gm h hw hA hE hBR hps h1 h2 h3 h4
    ·exact Ma h hw hA hE hBR hps h1 h2 h3 h4
  ·exact MH h hw h1 h2
 ·exact Nq h h1
theorem tQ:∀(xs pre:List _)(x:ByteArray)(v:Int),dm xs=some pre→nmV x=some v→dm (xs++[x])=some (pre++[v])
 | [],pre,x,v,h,hv=>by
  simp only[dm,Option.some.injEq]at h
  subst h
  simp[dm,hv]
 | y::r,pre,x,v,h,hv=>by
  simp only[dm]at h
  rcases hy:nmV y with _ | u
  ·rw[hy]at h; simp at h
  ·rw[hy]at h
   rcases hr:dm r with _ | t
   ·rw[hr]at h; simp at h
   ·rw[hr]at h
    simp at h
    subst h
    have:=tQ r t x v hr hv
    simp[dm,hy,this]
theorem tV:∀(xs:List ByteArray)(k:Nat)(x:ByteArray),xs[k]? =some x→nmV x=none→dm xs=none
 | [],k,x,h,_=>by simp at h
 | y::r,0,x,h,hx=>by
  simp at h
  subst h
  simp[dm,hx]
 | y::r,k+1,x,h,hx=>by
  simp at h
  have:=tV r k x h hx
  simp[dm,this]
theorem se:∀(xs:List ByteArray)(l:List Int),dm xs=some l→l.length=xs.length
 | [],l,h=>by simp[dm]at h; subst h; rfl
 | y::r,l,h=>by
  simp only[dm]at h
  rcases hy:nmV y with _ | u
  ·rw[hy]at h; simp at h
  ·rw[hy]at h
   rcases hr:dm r with _ | t
   ·rw[hr]at h; simp at h
   ·rw[hr]at h
    simp at h
    subst h
    simp[se r t hr]
def LbP(ln:Int)(w:World)(n:Nat)(res:Option (List Int))(e:Ending)(w':World):Prop :=
 Below w.heap.size w w'∧match res with
 | some l=>e=.returned (.slice (some ⟨w.heap.size,0,none⟩) n n)∧w'.ownsRow w.heap.size 3 1 (.slice (some ⟨w.heap.size,0,none⟩) n n) n (l.flatMap iw)
 | none=>e=thL ln
theorem pK{B base R:Nat}{mp:Value}{m:MM}{ln pt:Int}{w:World}(h:RQ base R mp m ln pt w)(hE:cw B w)(A o n c:Nat)(xs:List ByteArray)(hl:xs.length=n)(hn:n≤2097152)(hx:∀(j:Nat)x,xs[j]? =some x→w.cell? ⟨A,o+j,none⟩=some (.string x))(hz:∀x∈xs,x.size≤2097152) :
  Calls Tryz.prog 179 #[.pointer (some ⟨R,0,none⟩),.slice (some ⟨A,o,none⟩) n c] w (LbP ln w n (dm xs)):=by
 obtain⟨i0,hi,hz0,hz1,hz2⟩:=info_parts JM;have hb2:i0.bytes*n≤281474976710656:=vZ;have hml:n≤maxLen:=bV;have HQ:=hid h;have HE:=hid hE;have HX:=hid hx;have HZ:=hid hz;clear h hE hx hz
 go_enter Tryz.func179,Tryz.ntmps179
 go_wp2_with (first | (at_make; refine wpList_make_full _ rfl _ _ 23 rfl w.heap.size 3 i0 (.int .i64 0) 1 Tryz.underlying23 hi hz0 hz1 .i64 .i64 _ _ n rfl rfl rfl rfl hb2 hml (Nat.le_refl _) ?_; intro w1 hown hgrow))
 have hZ:(madeCells (Value.int .i64 0).cells (n*1)).toList.length=n*1:=hown.1
 have HF0:Hid (FLd w 3 1 n (([]:List Int).flatMap iw) (madeCells (Value.int .i64 0).cells (n*1)).toList w1):=hid ⟨by simpa using hown,(Below.refl _ _).grown hgrow (Nat.le_refl _) ar⟩
 generalize (madeCells (Value.int .i64 0).cells (n*1)).toList=Z at *;clear hown hgrow hi hz0 hz1 hz2 hb2 hml
 go_loopw [13] (fun i wr=>∃t:Nat,t≤n∧i=.int .i64 t∧Hid (∃pre,dm (xs.take t)=some pre∧FLd w 3 1 n (pre.flatMap iw) Z wr)) (fun i _=>n-(intOf i).toNat)
 case atStart=>exact⟨0,ae,rfl,hid ⟨[],rfl,HF0.out⟩⟩
 case round =>
  obtain⟨t,ht,rfl,HF⟩:=hrel;clear HF0
  by_cases hlt:t<n
  ·obtain⟨x,hxt⟩:∃x,xs[t]? =some x:=⟨_,aO ae⟩;obtain⟨pre,hpre,hF⟩:=HF.out
   have hpl:pre.length=t:=by rw[se _ _ hpre,List.length_take,hl]; omega
   have cx:wr.cell? ⟨A,o+t,none⟩=some (.string x):=az hF.bel (HX.out t x hxt);have hlt':(t:Int)<(n:Int):=ae;have hxs:=HZ.out x (List.mem_of_getElem? hxt);have qr:=HQ.out.later hF.bel;have er:=HE.out.later (hF.bel.mono HE.out.bw)
   rcases hv:nmV x with _ | v
   ·have HI:=hid (mU B R x ln wr er.tens er.errs er.bw ae (qr.cells 9) hv);have hnone:=tV xs t x hxt hv;have HB:=hid hF.bel;clear hF HF hpre qr er hxt;go_wp2_with fail;refine HI.out.mono ?_;rintro e w5⟨rfl,hb5⟩;refine⟨rfl,?_⟩;rw[hnone];exact⟨HB.out.trans (hb5.mono HB.out.size),rfl⟩
   ·have HI:=hid (gV B R x v wr er.tens er.bw ae hv);have HFr:=hid hF
    have htk:xs.take (t+1)=xs.take t++[x]:=by rw[List.take_add_one,hxt]; rfl
    have HN1:=hid (show dm (xs.take (t+1))=some (pre++[v]) by rw[htk]; exact tQ _ _ x v hpre hv)
    clear hF HF hpre qr er hxt htk;go_wp2_with fail;refine HI.out.mono ?_;rintro e w5⟨rfl,hb5⟩;have F5:=hid (HFr.out.later hb5);clear hb5
    obtain⟨u0,q0⟩:=F5.out.cell hZ (show t<n*1 by omega)
    have r0:=F5.out.free t;have P0:=hid (F5.out.put (j:=t) Cw ae (.int .i64 v));go_wp2_with fail
    exact⟨⟨t+1,ae,il,hid ⟨pre++[v],HN1.out,by rw[List.flatMap_append]; exact P0.out⟩⟩,ij⟩
  ·obtain rfl:t=n:=ae;obtain⟨pre,hpre,hF⟩:=HF.out;rw[List.take_of_length_le ae]at hpre
   have hpl:pre.length=t:=by rw[se _ _ hpre,hl]
   have hlt':¬(t:Int)<(t:Int):=ae;have HFF:=hid hF;have HPre:=hid hpre;clear hF HF hpre;go_wp2_with fail;go_ret;rw[HPre.out];exact⟨HFF.out.bel,rfl,HFF.out.full Cw⟩
end Go.Proofs.YtheefojaplnnoaaGreatDoor
