/-
  Texts Pp.
-/
import Derived.Test.YtheefojaplnnoaaGreatDoorY00
import Derived.Test.YtheefojaplnnoaaGreatDoorY27
set_option linter.unusedVariables false
set_option maxRecDepth 100000
set_option maxHeartbeats 16000000
namespace Go.Proofs.YtheefojaplnnoaaGreatDoor
open Go.RowKit
theorem Cj:(Tryz.prog.info? 102).map (fun i=>(i.zero,i.size,i.bytes))=some (some (.agg #[.int .u8 0,.bool false,.int .u64 0]),3,16):=ai
theorem R9(v:Int):IntKind.u64.wrap v=v%18446744073709551616:=by simp[IntKind.wrap,IntKind.signed,IntKind.bits]
theorem gA:x7.toList=[118,97,114]:=by rw[cm]; rfl
theorem gb:wP.toList=[99,111,110,115,116]:=by rw[cm]; rfl
theorem FL{B base R A n c:Nat}{mp:Value}{m:MM}{ln pt:Int}{w:World}{ws:List ByteArray}(h:RQ base R mp m ln pt w)(hw:Wds w A n c ws)(hA:base≤A)(hE:cw B w)(hBR:B≤R)(hps:psz (pl m)≤2097152)(h1:1≤pt∧pt≤4)(h2:n=4)(h3:(wdx ws 2).toList=[118,97,114]){v:Int}(h4:nmV (wdx ws 3)=some v)(h5:(wdx ws 1).toList=[119])(h6:v=wrap32 v) :
  Calls Tryz.prog 111 #[.pointer (some ⟨R,0,none⟩),.slice (some ⟨A,0,none⟩) n c] w (LnP base R mp ln w (bR pt (pl m) ws)):=by
 obtain⟨i0,hi,hz0,hz1,hz2⟩:=info_parts Cj;obtain⟨x,hx⟩:∃x,ws[1]? =some x:=⟨_,aO aY⟩;have ex:wdx ws 1=x:=bZ;obtain⟨z,hz⟩:∃x,ws[2]? =some x:=⟨_,aO aY⟩;have ez:wdx ws 2=z:=iU;obtain⟨y,hy⟩:∃x,ws[3]? =some x:=⟨_,aO aY⟩;have ey:wdx ws 3=y:=di
 have e:bR pt (pl m) ws=some (4,{ pl m with globals:=(pl m).globals++[(119,true,v%4294967296)] }):=by
  unfold bR; rw[if_pos ⟨h1,dY,.inl (h3.trans gA.symm)⟩]; rw[h4]
  have eg:gvV (wdx ws 1) v=some (119,v%4294967296):=by unfold gvV; rw[if_pos h5,if_pos h6]
  exact Dt
 rw[e];subst h2
 have hn:m.gn≤2097152:=by
  exact vT
 have HO:=hid (bL h 1 4 h1.1 h1.2);have q1:=h.part 4 ae;have d1:=hw.setR (o:=10) (u:=.int .i64 4) hA h.low;have k1:=KR.set base R 10 w (.int .i64 4);have e1:=hE.later (k1.below hBR bM hE.bw);have HM:=hid (aH R (w.setCell ⟨R,10,none⟩ (.int .i64 4)));generalize w.setCell ⟨R,10,none⟩ (.int .i64 4)=w1 at *;have HQ0:=hid q1;have HD0:=hid d1;have HK0:=hid k1;have HE0:=hid e1;have sx:=hw.sz x (List.mem_of_getElem? hx)
 have HWx:=hid (fun(W:World) (hW:Below w1.heap.size w1 W)=>(by have:=(d1.later hW).at_ 1 x hx; rwa [Nat.zero_add]at this:W.cell? ⟨A,1,none⟩=some (.string x)))
 have sz:=hw.sz z (List.mem_of_getElem? hz)
 have HWz:=hid (fun(W:World) (hW:Below w1.heap.size w1 W)=>(by have:=(d1.later hW).at_ 2 z hz; rwa [Nat.zero_add]at this:W.cell? ⟨A,2,none⟩=some (.string z)))
 have sy:=hw.sz y (List.mem_of_getElem? hy)
 have HWy:=hid (fun(W:World) (hW:Below w1.heap.size w1 W)=>(by have:=(d1.later hW).at_ 3 y hy; rwa [Nat.zero_add]at this:W.cell? ⟨A,3,none⟩=some (.string y)))
 have kz1:(z.toList==[118,97,114])=true:=gj;rw[ey]at h4;rw[ex]at h5;have hx1:(x.toList==[119])=true:=lM;have hfit:(v==wrap64 (wrap32 v))=true:=vA
 have HI1:=hid (fun(W:World) (hW:Below w1.heap.size w1 W)=>jq B R y v W (e1.tens.later (hW.mono e1.bw)) (Nat.le_trans e1.bw hW.size) ae h4)
 clear h hw hE hps h1 q1 d1 k1 e1 e hx ex hz ez hy ey h3 h4 h5 h6
 go_enter Tryz.func111,Tryz.ntmps111
 go_wp2_with fail;refine HO.out.mono ?_;rintro e w1' ⟨rfl,hw1⟩;have hw2:=hw1.symm;subst hw2;go_wp2_with fail;refine HM.out.mono ?_;rintro e w1'' ⟨rfl,hw1⟩;have hw2:=hw1.symm;subst hw2;have cz:=HWz.out w1 (Below.refl _ _);have HM2:=hid (aH R w1);go_wp2_with fail;refine HM2.out.mono ?_;rintro e w2' ⟨rfl,hw1⟩;have hw2:=hw1.symm;subst hw2;have cy:(w1.alloc (aQ 0 true 0)).cell? ⟨A,3,none⟩=some (.string y):=HWy.out _ (ag w1 _);have BX0:=hid (ag w1 (aQ 0 true 0));have hX0:=hid (heap_alloc_new w1 (aQ 0 true 0));go_wp2_with fail;refine(HI1.out _ BX0.out).mono ?_;rintro e w5⟨rfl,hb5⟩;have B5:=hid (BX0.out.trans (hb5.mono BX0.out.size));have hX5:=au hb5 hX0.out;have c50:w5.cell? ⟨w1.heap.size,0,none⟩=some (.int .u8 0):=ak hX5;have c52:w5.cell? ⟨w1.heap.size,2,none⟩=some (.int .u64 0):=ak hX5;have f50:w5.frozen? ⟨w1.heap.size,0,none⟩=false:=free_at hX5;have f52:w5.frozen? ⟨w1.heap.size,2,none⟩=false:=free_at hX5;have HX5:=hid hX5;have cx5:w5.cell? ⟨A,1,none⟩=some (.string x):=HWx.out _ B5.out;have HQ5:=hid (HQ0.out.later B5.out);clear hb5 cy hX0 hX5;have HM5:=hid (aH R w5);go_wp2_with fail;refine HM5.out.mono ?_;rintro e w5' ⟨rfl,hw1⟩;have hw2:=hw1.symm;subst hw2
 have ST:=hid (fun(u v:Value)=>(aw w5 w1.heap.size 0 u).trans (aw (w5.setCell ⟨w1.heap.size,0,none⟩ u) w1.heap.size 2 v))
 go_wp2_with fail
 have BX:=hid (B5.out.trans ((ST.out (.int .u8 119) (.int .u64 (v%4294967296))).to_below B5.out.size (fun k _ hk=>uU)))
 have HBX:=hid (show((w5.setCell ⟨w1.heap.size,0,none⟩ (.int .u8 119)).setCell ⟨w1.heap.size,2,none⟩ (.int .u64 (v%4294967296))).heap[w1.heap.size]? =some (aQ 119 true (v%4294967296)) by rw[bS (bS HX5.out)]; rfl)
 have Q1:=hid (HQ0.out.later BX.out);have KX:=hid (KR.later (base:=base) (R:=R) BX.out);clear ST;generalize (w5.setCell ⟨w1.heap.size,0,none⟩ (.int .u8 119)).setCell ⟨w1.heap.size,2,none⟩ (.int .u64 (v%4294967296))=w9 at *;generalize w1.heap.size=X at *;have B1:=hid ((Below.refl w9.heap.size w9).drew)
 refine wp_region_held_drew (S:=fun _=>True) ai trivial (fun _=>?_)
 generalize w9.drew=wd at *;refine tkQ (i:=0) rfl ?_;(try simp only[Act.put,sIB]);refine tkQ (i:=1) rfl ?_;(try simp only[Act.put]);refine tkQ (i:=2) rfl ?_;(try simp only[Act.put]);refine tkQ (i:=3) rfl ?_;(try simp only[Act.put]);refine tkQ (i:=4) rfl ?_;(try simp only[Act.put]);refine ryQ (rs:=[5,6]) ?_
 refine rcQ (i:=5) rfl (fun K hK=>?_) (rcQ (i:=6) rfl (fun K hK=>?_) rN)
 ·have cH:wd.cell? ⟨R,3,none⟩=some (.slice m.ga m.gn m.gc):=(Q1.out.later B1.out).cells 3;go_simp
  refine hK.out _ _ trivial (fun _=>?_)
  clear hK K;refine ryQ (rs:=[6]) ?_
  refine rcQ (i:=6) rfl (fun K hK=>?_) rN
  have y0:wd.cell? ⟨X,0,none⟩=some (.int .u8 119):=ak (au B1.out HBX.out);have y1:wd.cell? ⟨X,1,none⟩=some (.bool true):=ak (au B1.out HBX.out);have y2:wd.cell? ⟨X,2,none⟩=some (.int .u64 (v%4294967296)):=ak (au B1.out HBX.out);exact J3
 ·have y0:wd.cell? ⟨X,0,none⟩=some (.int .u8 119):=ak (au B1.out HBX.out);have y1:wd.cell? ⟨X,1,none⟩=some (.bool true):=ak (au B1.out HBX.out);have y2:wd.cell? ⟨X,2,none⟩=some (.int .u64 (v%4294967296)):=ak (au B1.out HBX.out);go_simp
  refine hK.out _ _ trivial (fun _=>?_)
  clear hK K;refine ryQ (rs:=[5,7]) ?_
  refine rcQ (i:=5) rfl (fun K hK=>?_) (rcQ (i:=7) rfl (fun K hK=>?_) rN)
  ·have cH:wd.cell? ⟨R,3,none⟩=some (.slice m.ga m.gn m.gc):=(Q1.out.later B1.out).cells 3;exact J3
  ·go_simp;have BN:=hid (B1.out.trans ((ag wd (aQ 119 true (v%4294967296))).mono B1.out.size))
   refine hK.out _ _ trivial (fun _=>?_)
   clear hK K;refine ryQ (rs:=[5]) ?_
   refine rcQ (i:=5) rfl (fun K hK=>?_) rN
   have cH:(wd.alloc (aQ 119 true (v%4294967296))).cell? ⟨R,3,none⟩=some (.slice m.ga m.gn m.gc):=(Q1.out.later BN.out).cells 3;go_simp
   refine hK.out _ _ trivial (fun _=>?_)
   clear hK K;refine ryQ (rs:=[8]) ?_
   refine rcQ (i:=8) rfl (fun K hK=>?_) rN
   refine wp_append_lies _ (.tmp 65) (.tmp 67) 24 rfl base 102 i0 (.agg #[.int .u8 0,.bool false,.int .u64 0]) 3 16 Tryz.underlying24 hi hz0 hz1 hz2 rfl aj (.slice m.ga m.gn m.gc) m.gn (m.globals.flatMap eT) rfl (Q1.out.later BN.out).rg ⟨wd.heap.size,0,none⟩ 1 1 (eT ((119,true,v%4294967296):Gl)) rfl rfl ?n1 ?n2 aj bV ae (Q1.out.later BN.out).bw _ rfl ?_
   case n1 =>
    exact wH
   case n2=>intro u hu; simp[eT]at hu; rcases hu with rfl | rfl | rfl <;> rfl
   intro g cap w6 ho6 hg6 _ _;have PX:=hid ((Q1.out).pushG BN.out ((119,true,v%4294967296):Gl) ho6 hg6);exact vU
theorem AG{B base R A n c:Nat}{mp:Value}{m:MM}{ln pt:Int}{w:World}{ws:List ByteArray}(h:RQ base R mp m ln pt w)(hw:Wds w A n c ws)(hA:base≤A)(hE:cw B w)(hBR:B≤R)(hps:psz (pl m)≤2097152)(h1:1≤pt∧pt≤4)(h2:n=4)(h3:(wdx ws 2).toList=[118,97,114]){v:Int}(h4:nmV (wdx ws 3)=some v)(h5:(wdx ws 1).toList=[119])(h6:¬v=wrap32 v) :
  Calls Tryz.prog 111 #[.pointer (some ⟨R,0,none⟩),.slice (some ⟨A,0,none⟩) n c] w (LnP base R mp ln w (bR pt (pl m) ws)):=by
 obtain⟨x,hx⟩:∃x,ws[1]? =some x:=⟨_,aO aY⟩;have ex:wdx ws 1=x:=bZ;obtain⟨z,hz⟩:∃x,ws[2]? =some x:=⟨_,aO aY⟩;have ez:wdx ws 2=z:=iU;obtain⟨y,hy⟩:∃x,ws[3]? =some x:=⟨_,aO aY⟩;have ey:wdx ws 3=y:=di
 have e:bR pt (pl m) ws=none:=by
  unfold bR; rw[if_pos ⟨h1,dY,.inl (h3.trans gA.symm)⟩]; rw[h4]
  exact El
 rw[e];subst h2;have HO:=hid (bL h 1 4 h1.1 h1.2);have q1:=h.part 4 ae;have d1:=hw.setR (o:=10) (u:=.int .i64 4) hA h.low;have k1:=KR.set base R 10 w (.int .i64 4);have e1:=hE.later (k1.below hBR bM hE.bw);have HM:=hid (aH R (w.setCell ⟨R,10,none⟩ (.int .i64 4)));generalize w.setCell ⟨R,10,none⟩ (.int .i64 4)=w1 at *;have HQ0:=hid q1;have HD0:=hid d1;have HK0:=hid k1;have HE0:=hid e1;have sx:=hw.sz x (List.mem_of_getElem? hx)
 have HWx:=hid (fun(W:World) (hW:Below w1.heap.size w1 W)=>(by have:=(d1.later hW).at_ 1 x hx; rwa [Nat.zero_add]at this:W.cell? ⟨A,1,none⟩=some (.string x)))
 have sz:=hw.sz z (List.mem_of_getElem? hz)
 have HWz:=hid (fun(W:World) (hW:Below w1.heap.size w1 W)=>(by have:=(d1.later hW).at_ 2 z hz; rwa [Nat.zero_add]at this:W.cell? ⟨A,2,none⟩=some (.string z)))
 have sy:=hw.sz y (List.mem_of_getElem? hy)
 have HWy:=hid (fun(W:World) (hW:Below w1.heap.size w1 W)=>(by have:=(d1.later hW).at_ 3 y hy; rwa [Nat.zero_add]at this:W.cell? ⟨A,3,none⟩=some (.string y)))
 have kz1:(z.toList==[118,97,114])=true:=gj;rw[ey]at h4;rw[ex]at h5;have hx1:(x.toList==[119])=true:=lM;have hfit:(v==wrap64 (wrap32 v))=false:=vA;exact Ky
theorem Fe{B base R A n c:Nat}{mp:Value}{m:MM}{ln pt:Int}{w:World}{ws:List ByteArray}(h:RQ base R mp m ln pt w)(hw:Wds w A n c ws)(hA:base≤A)(hE:cw B w)(hBR:B≤R)(hps:psz (pl m)≤2097152)(h1:1≤pt∧pt≤4)(h2:n=4)(h3:(wdx ws 2).toList=[118,97,114]){v:Int}(h4:nmV (wdx ws 3)=some v)(h5:(wdx ws 1).toList=[108]) :
  Calls Tryz.prog 111 #[.pointer (some ⟨R,0,none⟩),.slice (some ⟨A,0,none⟩) n c] w (LnP base R mp ln w (bR pt (pl m) ws)):=by
 obtain⟨i0,hi,hz0,hz1,hz2⟩:=info_parts Cj;obtain⟨x,hx⟩:∃x,ws[1]? =some x:=⟨_,aO aY⟩;have ex:wdx ws 1=x:=bZ;obtain⟨z,hz⟩:∃x,ws[2]? =some x:=⟨_,aO aY⟩;have ez:wdx ws 2=z:=iU;obtain⟨y,hy⟩:∃x,ws[3]? =some x:=⟨_,aO aY⟩;have ey:wdx ws 3=y:=di
 have e:bR pt (pl m) ws=some (4,{ pl m with globals:=(pl m).globals++[(108,true,v%18446744073709551616)] }):=by
  unfold bR; rw[if_pos ⟨h1,dY,.inl (h3.trans gA.symm)⟩]; rw[h4]
  have eg:gvV (wdx ws 1) v=some (108,v%18446744073709551616):=by unfold gvV; rw[if_neg (by rw[h5]; decide),if_pos h5]
  exact Dt
 rw[e];subst h2
 have hn:m.gn≤2097152:=by
  exact vT
 have HO:=hid (bL h 1 4 h1.1 h1.2);have q1:=h.part 4 ae;have d1:=hw.setR (o:=10) (u:=.int .i64 4) hA h.low;have k1:=KR.set base R 10 w (.int .i64 4);have e1:=hE.later (k1.below hBR bM hE.bw);have HM:=hid (aH R (w.setCell ⟨R,10,none⟩ (.int .i64 4)));generalize w.setCell ⟨R,10,none⟩ (.int .i64 4)=w1 at *;have HQ0:=hid q1;have HD0:=hid d1;have HK0:=hid k1;have HE0:=hid e1;have sx:=hw.sz x (List.mem_of_getElem? hx)
 have HWx:=hid (fun(W:World) (hW:Below w1.heap.size w1 W)=>(by have:=(d1.later hW).at_ 1 x hx; rwa [Nat.zero_add]at this:W.cell? ⟨A,1,none⟩=some (.string x)))
 have sz:=hw.sz z (List.mem_of_getElem? hz)
 have HWz:=hid (fun(W:World) (hW:Below w1.heap.size w1 W)=>(by have:=(d1.later hW).at_ 2 z hz; rwa [Nat.zero_add]at this:W.cell? ⟨A,2,none⟩=some (.string z)))
 have sy:=hw.sz y (List.mem_of_getElem? hy)
 have HWy:=hid (fun(W:World) (hW:Below w1.heap.size w1 W)=>(by have:=(d1.later hW).at_ 3 y hy; rwa [Nat.zero_add]at this:W.cell? ⟨A,3,none⟩=some (.string y)))
 have kz1:(z.toList==[118,97,114])=true:=gj;rw[ey]at h4;rw[ex]at h5;have hx1:(x.toList==[119])=false:=lM;have hx2:(x.toList==[108])=true:=lM;have hu64:IntKind.u64.wrap v=v%18446744073709551616:=R9 v
 have HI1:=hid (fun(W:World) (hW:Below w1.heap.size w1 W)=>jq B R y v W (e1.tens.later (hW.mono e1.bw)) (Nat.le_trans e1.bw hW.size) ae h4)
 clear h hw hE hps h1 q1 d1 k1 e1 e hx ex hz ez hy ey h3 h4 h5
 go_enter Tryz.func111,Tryz.ntmps111
 go_wp2_with fail;refine HO.out.mono ?_;rintro e w1' ⟨rfl,hw1⟩;have hw2:=hw1.symm;subst hw2;go_wp2_with fail;refine HM.out.mono ?_;rintro e w1'' ⟨rfl,hw1⟩;have hw2:=hw1.symm;subst hw2;have cz:=HWz.out w1 (Below.refl _ _);have HM2:=hid (aH R w1);go_wp2_with fail;refine HM2.out.mono ?_;rintro e w2' ⟨rfl,hw1⟩;have hw2:=hw1.symm;subst hw2;have cy:(w1.alloc (aQ 0 true 0)).cell? ⟨A,3,none⟩=some (.string y):=HWy.out _ (ag w1 _);have BX0:=hid (ag w1 (aQ 0 true 0));have hX0:=hid (heap_alloc_new w1 (aQ 0 true 0));go_wp2_with fail;refine(HI1.out _ BX0.out).mono ?_;rintro e w5⟨rfl,hb5⟩;have B5:=hid (BX0.out.trans (hb5.mono BX0.out.size));have hX5:=au hb5 hX0.out;have c50:w5.cell? ⟨w1.heap.size,0,none⟩=some (.int .u8 0):=ak hX5;have c52:w5.cell? ⟨w1.heap.size,2,none⟩=some (.int .u64 0):=ak hX5;have f50:w5.frozen? ⟨w1.heap.size,0,none⟩=false:=free_at hX5;have f52:w5.frozen? ⟨w1.heap.size,2,none⟩=false:=free_at hX5;have HX5:=hid hX5;have cx5:w5.cell? ⟨A,1,none⟩=some (.string x):=HWx.out _ B5.out;have HQ5:=hid (HQ0.out.later B5.out);clear hb5 cy hX0 hX5
 have ST:=hid (fun(u v:Value)=>(aw w5 w1.heap.size 0 u).trans (aw (w5.setCell ⟨w1.heap.size,0,none⟩ u) w1.heap.size 2 v))
 go_wp2_with fail
 have BX:=hid (B5.out.trans ((ST.out (.int .u8 108) (.int .u64 (v%18446744073709551616))).to_below B5.out.size (fun k _ hk=>uU)))
 have HBX:=hid (show((w5.setCell ⟨w1.heap.size,0,none⟩ (.int .u8 108)).setCell ⟨w1.heap.size,2,none⟩ (.int .u64 (v%18446744073709551616))).heap[w1.heap.size]? =some (aQ 108 true (v%18446744073709551616)) by rw[bS (bS HX5.out)]; rfl)
 have Q1:=hid (HQ0.out.later BX.out);have KX:=hid (KR.later (base:=base) (R:=R) BX.out);clear ST;generalize (w5.setCell ⟨w1.heap.size,0,none⟩ (.int .u8 108)).setCell ⟨w1.heap.size,2,none⟩ (.int .u64 (v%18446744073709551616))=w9 at *;generalize w1.heap.size=X at *;have B1:=hid ((Below.refl w9.heap.size w9).drew)
 refine wp_region_held_drew (S:=fun _=>True) ai trivial (fun _=>?_)
 generalize w9.drew=wd at *;refine tkQ (i:=0) rfl ?_;(try simp only[Act.put,sIB]);refine tkQ (i:=1) rfl ?_;(try simp only[Act.put]);refine tkQ (i:=2) rfl ?_;(try simp only[Act.put]);refine tkQ (i:=3) rfl ?_;(try simp only[Act.put]);refine tkQ (i:=4) rfl ?_;(try simp only[Act.put]);refine ryQ (rs:=[5,6]) ?_
 refine rcQ (i:=5) rfl (fun K hK=>?_) (rcQ (i:=6) rfl (fun K hK=>?_) rN)
 ·have cH:wd.cell? ⟨R,3,none⟩=some (.slice m.ga m.gn m.gc):=(Q1.out.later B1.out).cells 3;go_simp
  refine hK.out _ _ trivial (fun _=>?_)
  clear hK K;refine ryQ (rs:=[6]) ?_
  refine rcQ (i:=6) rfl (fun K hK=>?_) rN
  have y0:wd.cell? ⟨X,0,none⟩=some (.int .u8 108):=ak (au B1.out HBX.out);have y1:wd.cell? ⟨X,1,none⟩=some (.bool true):=ak (au B1.out HBX.out);have y2:wd.cell? ⟨X,2,none⟩=some (.int .u64 (v%18446744073709551616)):=ak (au B1.out HBX.out);exact JB
 ·have y0:wd.cell? ⟨X,0,none⟩=some (.int .u8 108):=ak (au B1.out HBX.out);have y1:wd.cell? ⟨X,1,none⟩=some (.bool true):=ak (au B1.out HBX.out);have y2:wd.cell? ⟨X,2,none⟩=some (.int .u64 (v%18446744073709551616)):=ak (au B1.out HBX.out);go_simp
  refine hK.out _ _ trivial (fun _=>?_)
  clear hK K;refine ryQ (rs:=[5,7]) ?_
  refine rcQ (i:=5) rfl (fun K hK=>?_) (rcQ (i:=7) rfl (fun K hK=>?_) rN)
  ·have cH:wd.cell? ⟨R,3,none⟩=some (.slice m.ga m.gn m.gc):=(Q1.out.later B1.out).cells 3;exact JB
  ·go_simp;have BN:=hid (B1.out.trans ((ag wd (aQ 108 true (v%18446744073709551616))).mono B1.out.size))
   refine hK.out _ _ trivial (fun _=>?_)
   clear hK K;refine ryQ (rs:=[5]) ?_
   refine rcQ (i:=5) rfl (fun K hK=>?_) rN
   have cH:(wd.alloc (aQ 108 true (v%18446744073709551616))).cell? ⟨R,3,none⟩=some (.slice m.ga m.gn m.gc):=(Q1.out.later BN.out).cells 3;go_simp
   refine hK.out _ _ trivial (fun _=>?_)
   clear hK K;refine ryQ (rs:=[8]) ?_
   refine rcQ (i:=8) rfl (fun K hK=>?_) rN
   refine wp_append_lies _ (.tmp 65) (.tmp 67) 24 rfl base 102 i0 (.agg #[.int .u8 0,.bool false,.int .u64 0]) 3 16 Tryz.underlying24 hi hz0 hz1 hz2 rfl aj (.slice m.ga m.gn m.gc) m.gn (m.globals.flatMap eT) rfl (Q1.out.later BN.out).rg ⟨wd.heap.size,0,none⟩ 1 1 (eT ((108,true,v%18446744073709551616):Gl)) rfl rfl ?n1 ?n2 aj bV ae (Q1.out.later BN.out).bw _ rfl ?_
   case n1 =>
    exact wH
   case n2=>intro u hu; simp[eT]at hu; rcases hu with rfl | rfl | rfl <;> rfl
   intro g cap w6 ho6 hg6 _ _;have PX:=hid ((Q1.out).pushG BN.out ((108,true,v%18446744073709551616):Gl) ho6 hg6);exact vU
theorem Fs{B base R A n c:Nat}{mp:Value}{m:MM}{ln pt:Int}{w:World}{ws:List ByteArray}(h:RQ base R mp m ln pt w)(hw:Wds w A n c ws)(hA:base≤A)(hE:cw B w)(hBR:B≤R)(hps:psz (pl m)≤2097152)(h1:1≤pt∧pt≤4)(h2:n=4)(h3:(wdx ws 2).toList=[118,97,114]){v:Int}(h4:nmV (wdx ws 3)=some v)(h5:¬(wdx ws 1).toList=[119])(h6:¬(wdx ws 1).toList=[108]) :
  Calls Tryz.prog 111 #[.pointer (some ⟨R,0,none⟩),.slice (some ⟨A,0,none⟩) n c] w (LnP base R mp ln w (bR pt (pl m) ws)):=by
 obtain⟨x,hx⟩:∃x,ws[1]? =some x:=⟨_,aO aY⟩;have ex:wdx ws 1=x:=bZ;obtain⟨z,hz⟩:∃x,ws[2]? =some x:=⟨_,aO aY⟩;have ez:wdx ws 2=z:=iU;obtain⟨y,hy⟩:∃x,ws[3]? =some x:=⟨_,aO aY⟩;have ey:wdx ws 3=y:=di
 have e:bR pt (pl m) ws=none:=by
  unfold bR; rw[if_pos ⟨h1,dY,.inl (h3.trans gA.symm)⟩]; rw[h4]
  exact Bn
 rw[e];subst h2;have HO:=hid (bL h 1 4 h1.1 h1.2);have q1:=h.part 4 ae;have d1:=hw.setR (o:=10) (u:=.int .i64 4) hA h.low;have k1:=KR.set base R 10 w (.int .i64 4);have e1:=hE.later (k1.below hBR bM hE.bw);have HM:=hid (aH R (w.setCell ⟨R,10,none⟩ (.int .i64 4)));generalize w.setCell ⟨R,10,none⟩ (.int .i64 4)=w1 at *;have HQ0:=hid q1;have HD0:=hid d1;have HK0:=hid k1;have HE0:=hid e1;have sx:=hw.sz x (List.mem_of_getElem? hx)
 have HWx:=hid (fun(W:World) (hW:Below w1.heap.size w1 W)=>(by have:=(d1.later hW).at_ 1 x hx; rwa [Nat.zero_add]at this:W.cell? ⟨A,1,none⟩=some (.string x)))
 have sz:=hw.sz z (List.mem_of_getElem? hz)
 have HWz:=hid (fun(W:World) (hW:Below w1.heap.size w1 W)=>(by have:=(d1.later hW).at_ 2 z hz; rwa [Nat.zero_add]at this:W.cell? ⟨A,2,none⟩=some (.string z)))
 have sy:=hw.sz y (List.mem_of_getElem? hy)
 have HWy:=hid (fun(W:World) (hW:Below w1.heap.size w1 W)=>(by have:=(d1.later hW).at_ 3 y hy; rwa [Nat.zero_add]at this:W.cell? ⟨A,3,none⟩=some (.string y)))
 have kz1:(z.toList==[118,97,114])=true:=gj;rw[ey]at h4;rw[ex]at h5 h6;have hx1:(x.toList==[119])=false:=qX
 have hx2:(x.toList==[108])=false:=by simpa using h6
 exact Ky
theorem EK{B base R A n c:Nat}{mp:Value}{m:MM}{ln pt:Int}{w:World}{ws:List ByteArray}(h:RQ base R mp m ln pt w)(hw:Wds w A n c ws)(hA:base≤A)(hE:cw B w)(hBR:B≤R)(hps:psz (pl m)≤2097152)(h1:1≤pt∧pt≤4)(h2:n=4)(h3:(wdx ws 2).toList=[118,97,114])(h4:nmV (wdx ws 3)=none) :
  Calls Tryz.prog 111 #[.pointer (some ⟨R,0,none⟩),.slice (some ⟨A,0,none⟩) n c] w (LnP base R mp ln w (bR pt (pl m) ws)):=by
 obtain⟨x,hx⟩:∃x,ws[1]? =some x:=⟨_,aO aY⟩;have ex:wdx ws 1=x:=bZ;obtain⟨z,hz⟩:∃x,ws[2]? =some x:=⟨_,aO aY⟩;have ez:wdx ws 2=z:=iU;obtain⟨y,hy⟩:∃x,ws[3]? =some x:=⟨_,aO aY⟩;have ey:wdx ws 3=y:=di
 have e:bR pt (pl m) ws=none:=by
  unfold bR; rw[if_pos ⟨h1,dY,.inl (h3.trans gA.symm)⟩]; rw[h4]; rfl
 rw[e];subst h2;have HO:=hid (bL h 1 4 h1.1 h1.2);have q1:=h.part 4 ae;have d1:=hw.setR (o:=10) (u:=.int .i64 4) hA h.low;have k1:=KR.set base R 10 w (.int .i64 4);have e1:=hE.later (k1.below hBR bM hE.bw);have HM:=hid (aH R (w.setCell ⟨R,10,none⟩ (.int .i64 4)));generalize w.setCell ⟨R,10,none⟩ (.int .i64 4)=w1 at *;have HQ0:=hid q1;have HD0:=hid d1;have HK0:=hid k1;have HE0:=hid e1;have sx:=hw.sz x (List.mem_of_getElem? hx)
 have HWx:=hid (fun(W:World) (hW:Below w1.heap.size w1 W)=>(by have:=(d1.later hW).at_ 1 x hx; rwa [Nat.zero_add]at this:W.cell? ⟨A,1,none⟩=some (.string x)))
 have sz:=hw.sz z (List.mem_of_getElem? hz)
 have HWz:=hid (fun(W:World) (hW:Below w1.heap.size w1 W)=>(by have:=(d1.later hW).at_ 2 z hz; rwa [Nat.zero_add]at this:W.cell? ⟨A,2,none⟩=some (.string z)))
 have sy:=hw.sz y (List.mem_of_getElem? hy)
 have HWy:=hid (fun(W:World) (hW:Below w1.heap.size w1 W)=>(by have:=(d1.later hW).at_ 3 y hy; rwa [Nat.zero_add]at this:W.cell? ⟨A,3,none⟩=some (.string y)))
 have kz1:(z.toList==[118,97,114])=true:=gj;rw[ey]at h4
 have HI1:=hid (fun(W:World) (hW:Below w1.heap.size w1 W)=>wC B R y ln W (e1.tens.later (hW.mono e1.bw)) (e1.errs.later (hW.mono e1.bw)) (Nat.le_trans e1.bw hW.size) ae ((q1.later hW).cells 9) h4)
 clear h hw hE hps h1 q1 d1 k1 e1 e hx ex hz ez hy ey h3 h4
 go_enter Tryz.func111,Tryz.ntmps111
 go_wp2_with fail;refine HO.out.mono ?_;rintro e w1' ⟨rfl,hw1⟩;have hw2:=hw1.symm;subst hw2;go_wp2_with fail;refine HM.out.mono ?_;rintro e w1'' ⟨rfl,hw1⟩;have hw2:=hw1.symm;subst hw2;have cz:=HWz.out w1 (Below.refl _ _);have HM2:=hid (aH R w1);go_wp2_with fail;refine HM2.out.mono ?_;rintro e w2' ⟨rfl,hw1⟩;have hw2:=hw1.symm;subst hw2;have cy:(w1.alloc (aQ 0 true 0)).cell? ⟨A,3,none⟩=some (.string y):=HWy.out _ (ag w1 _);have BX0:=hid (ag w1 (aQ 0 true 0));have hX0:=hid (heap_alloc_new w1 (aQ 0 true 0));exact Hf
theorem Al{B base R A n c:Nat}{mp:Value}{m:MM}{ln pt:Int}{w:World}{ws:List ByteArray}(h:RQ base R mp m ln pt w)(hw:Wds w A n c ws)(hA:base≤A)(hE:cw B w)(hBR:B≤R)(hps:psz (pl m)≤2097152)(h1:1≤pt∧pt≤4)(h2:n=4)(h3:(wdx ws 2).toList=[99,111,110,115,116]){v:Int}(h4:nmV (wdx ws 3)=some v)(h5:(wdx ws 1).toList=[119])(h6:v=wrap32 v) :
  Calls Tryz.prog 111 #[.pointer (some ⟨R,0,none⟩),.slice (some ⟨A,0,none⟩) n c] w (LnP base R mp ln w (bR pt (pl m) ws)):=by
 obtain⟨i0,hi,hz0,hz1,hz2⟩:=info_parts Cj;obtain⟨x,hx⟩:∃x,ws[1]? =some x:=⟨_,aO aY⟩;have ex:wdx ws 1=x:=bZ;obtain⟨z,hz⟩:∃x,ws[2]? =some x:=⟨_,aO aY⟩;have ez:wdx ws 2=z:=iU;obtain⟨y,hy⟩:∃x,ws[3]? =some x:=⟨_,aO aY⟩;have ey:wdx ws 3=y:=di
 have e:bR pt (pl m) ws=some (4,{ pl m with globals:=(pl m).globals++[(119,false,v%4294967296)] }):=by
  unfold bR; rw[if_pos ⟨h1,dY,.inr (h3.trans gb.symm)⟩]; rw[h4]
  have eg:gvV (wdx ws 1) v=some (119,v%4294967296):=by unfold gvV; rw[if_pos h5,if_pos h6]
  exact CY
 rw[e];subst h2
 have hn:m.gn≤2097152:=by
  exact vT
 have HO:=hid (bL h 1 4 h1.1 h1.2);have q1:=h.part 4 ae;have d1:=hw.setR (o:=10) (u:=.int .i64 4) hA h.low;have k1:=KR.set base R 10 w (.int .i64 4);have e1:=hE.later (k1.below hBR bM hE.bw);have HM:=hid (aH R (w.setCell ⟨R,10,none⟩ (.int .i64 4)));generalize w.setCell ⟨R,10,none⟩ (.int .i64 4)=w1 at *;have HQ0:=hid q1;have HD0:=hid d1;have HK0:=hid k1;have HE0:=hid e1;have sx:=hw.sz x (List.mem_of_getElem? hx)
 have HWx:=hid (fun(W:World) (hW:Below w1.heap.size w1 W)=>(by have:=(d1.later hW).at_ 1 x hx; rwa [Nat.zero_add]at this:W.cell? ⟨A,1,none⟩=some (.string x)))
 have sz:=hw.sz z (List.mem_of_getElem? hz)
 have HWz:=hid (fun(W:World) (hW:Below w1.heap.size w1 W)=>(by have:=(d1.later hW).at_ 2 z hz; rwa [Nat.zero_add]at this:W.cell? ⟨A,2,none⟩=some (.string z)))
 have sy:=hw.sz y (List.mem_of_getElem? hy)
 have HWy:=hid (fun(W:World) (hW:Below w1.heap.size w1 W)=>(by have:=(d1.later hW).at_ 3 y hy; rwa [Nat.zero_add]at this:W.cell? ⟨A,3,none⟩=some (.string y)))
 have kz1:(z.toList==[118,97,114])=false:=gj;have kz2:(z.toList==[99,111,110,115,116])=true:=gj;rw[ey]at h4;rw[ex]at h5;have hx1:(x.toList==[119])=true:=lM;have hfit:(v==wrap64 (wrap32 v))=true:=vA
 have HI1:=hid (fun(W:World) (hW:Below w1.heap.size w1 W)=>jq B R y v W (e1.tens.later (hW.mono e1.bw)) (Nat.le_trans e1.bw hW.size) ae h4)
 clear h hw hE hps h1 q1 d1 k1 e1 e hx ex hz ez hy ey h3 h4 h5 h6
 go_enter Tryz.func111,Tryz.ntmps111
 go_wp2_with fail;refine HO.out.mono ?_;rintro e w1' ⟨rfl,hw1⟩;have hw2:=hw1.symm;subst hw2;go_wp2_with fail;refine HM.out.mono ?_;rintro e w1'' ⟨rfl,hw1⟩;have hw2:=hw1.symm;subst hw2;have cz:=HWz.out w1 (Below.refl _ _);have HM2:=hid (aH R w1);go_wp2_with fail;refine HM2.out.mono ?_;rintro e w2' ⟨rfl,hw1⟩;have hw2:=hw1.symm;subst hw2;have cy:(w1.alloc (aQ 0 false 0)).cell? ⟨A,3,none⟩=some (.string y):=HWy.out _ (ag w1 _);have BX0:=hid (ag w1 (aQ 0 false 0));have hX0:=hid (heap_alloc_new w1 (aQ 0 false 0));go_wp2_with fail;refine(HI1.out _ BX0.out).mono ?_;rintro e w5⟨rfl,hb5⟩;have B5:=hid (BX0.out.trans (hb5.mono BX0.out.size));have hX5:=au hb5 hX0.out;have c50:w5.cell? ⟨w1.heap.size,0,none⟩=some (.int .u8 0):=ak hX5;have c52:w5.cell? ⟨w1.heap.size,2,none⟩=some (.int .u64 0):=ak hX5;have f50:w5.frozen? ⟨w1.heap.size,0,none⟩=false:=free_at hX5;have f52:w5.frozen? ⟨w1.heap.size,2,none⟩=false:=free_at hX5;have HX5:=hid hX5;have cx5:w5.cell? ⟨A,1,none⟩=some (.string x):=HWx.out _ B5.out;have HQ5:=hid (HQ0.out.later B5.out);clear hb5 cy hX0 hX5;have HM5:=hid (aH R w5);go_wp2_with fail;refine HM5.out.mono ?_;rintro e w5' ⟨rfl,hw1⟩;have hw2:=hw1.symm;subst hw2
 have ST:=hid (fun(u v:Value)=>(aw w5 w1.heap.size 0 u).trans (aw (w5.setCell ⟨w1.heap.size,0,none⟩ u) w1.heap.size 2 v))
 go_wp2_with fail
 have BX:=hid (B5.out.trans ((ST.out (.int .u8 119) (.int .u64 (v%4294967296))).to_below B5.out.size (fun k _ hk=>uU)))
 have HBX:=hid (show((w5.setCell ⟨w1.heap.size,0,none⟩ (.int .u8 119)).setCell ⟨w1.heap.size,2,none⟩ (.int .u64 (v%4294967296))).heap[w1.heap.size]? =some (aQ 119 false (v%4294967296)) by rw[bS (bS HX5.out)]; rfl)
 have Q1:=hid (HQ0.out.later BX.out);have KX:=hid (KR.later (base:=base) (R:=R) BX.out);clear ST;generalize (w5.setCell ⟨w1.heap.size,0,none⟩ (.int .u8 119)).setCell ⟨w1.heap.size,2,none⟩ (.int .u64 (v%4294967296))=w9 at *;generalize w1.heap.size=X at *;have B1:=hid ((Below.refl w9.heap.size w9).drew)
 refine wp_region_held_drew (S:=fun _=>True) ai trivial (fun _=>?_)
 generalize w9.drew=wd at *;refine tkQ (i:=0) rfl ?_;(try simp only[Act.put,sIB]);refine tkQ (i:=1) rfl ?_;(try simp only[Act.put]);refine tkQ (i:=2) rfl ?_;(try simp only[Act.put]);refine tkQ (i:=3) rfl ?_;(try simp only[Act.put]);refine tkQ (i:=4) rfl ?_;(try simp only[Act.put]);refine ryQ (rs:=[5,6]) ?_
 refine rcQ (i:=5) rfl (fun K hK=>?_) (rcQ (i:=6) rfl (fun K hK=>?_) rN)
 ·have cH:wd.cell? ⟨R,3,none⟩=some (.slice m.ga m.gn m.gc):=(Q1.out.later B1.out).cells 3;go_simp
  refine hK.out _ _ trivial (fun _=>?_)
  clear hK K;refine ryQ (rs:=[6]) ?_
  refine rcQ (i:=6) rfl (fun K hK=>?_) rN
  have y0:wd.cell? ⟨X,0,none⟩=some (.int .u8 119):=ak (au B1.out HBX.out);have y1:wd.cell? ⟨X,1,none⟩=some (.bool false):=ak (au B1.out HBX.out);have y2:wd.cell? ⟨X,2,none⟩=some (.int .u64 (v%4294967296)):=ak (au B1.out HBX.out);exact JR
 ·have y0:wd.cell? ⟨X,0,none⟩=some (.int .u8 119):=ak (au B1.out HBX.out);have y1:wd.cell? ⟨X,1,none⟩=some (.bool false):=ak (au B1.out HBX.out);have y2:wd.cell? ⟨X,2,none⟩=some (.int .u64 (v%4294967296)):=ak (au B1.out HBX.out);go_simp
  refine hK.out _ _ trivial (fun _=>?_)
  clear hK K;refine ryQ (rs:=[5,7]) ?_
  refine rcQ (i:=5) rfl (fun K hK=>?_) (rcQ (i:=7) rfl (fun K hK=>?_) rN)
  ·have cH:wd.cell? ⟨R,3,none⟩=some (.slice m.ga m.gn m.gc):=(Q1.out.later B1.out).cells 3;exact JR
  ·go_simp;have BN:=hid (B1.out.trans ((ag wd (aQ 119 false (v%4294967296))).mono B1.out.size))
   refine hK.out _ _ trivial (fun _=>?_)
   clear hK K;refine ryQ (rs:=[5]) ?_
   refine rcQ (i:=5) rfl (fun K hK=>?_) rN
   have cH:(wd.alloc (aQ 119 false (v%4294967296))).cell? ⟨R,3,none⟩=some (.slice m.ga m.gn m.gc):=(Q1.out.later BN.out).cells 3;go_simp
   refine hK.out _ _ trivial (fun _=>?_)
   clear hK K;refine ryQ (rs:=[8]) ?_
   refine rcQ (i:=8) rfl (fun K hK=>?_) rN
   refine wp_append_lies _ (.tmp 65) (.tmp 67) 24 rfl base 102 i0 (.agg #[.int .u8 0,.bool false,.int .u64 0]) 3 16 Tryz.underlying24 hi hz0 hz1 hz2 rfl aj (.slice m.ga m.gn m.gc) m.gn (m.globals.flatMap eT) rfl (Q1.out.later BN.out).rg ⟨wd.heap.size,0,none⟩ 1 1 (eT ((119,false,v%4294967296):Gl)) rfl rfl ?n1 ?n2 aj bV ae (Q1.out.later BN.out).bw _ rfl ?_
   case n1 =>
    exact wH
   case n2=>intro u hu; simp[eT]at hu; rcases hu with rfl | rfl | rfl <;> rfl
   intro g cap w6 ho6 hg6 _ _;have PX:=hid ((Q1.out).pushG BN.out ((119,false,v%4294967296):Gl) ho6 hg6);exact vU
theorem yj{B base R A n c:Nat}{mp:Value}{m:MM}{ln pt:Int}{w:World}{ws:List ByteArray}(h:RQ base R mp m ln pt w)(hw:Wds w A n c ws)(hA:base≤A)(hE:cw B w)(hBR:B≤R)(hps:psz (pl m)≤2097152)(h1:1≤pt∧pt≤4)(h2:n=4)(h3:(wdx ws 2).toList=[99,111,110,115,116]){v:Int}(h4:nmV (wdx ws 3)=some v)(h5:(wdx ws 1).toList=[119])(h6:¬v=wrap32 v) :
  Calls Tryz.prog 111 #[.pointer (some ⟨R,0,none⟩),.slice (some ⟨A,0,none⟩) n c] w (LnP base R mp ln w (bR pt (pl m) ws)):=by
 obtain⟨x,hx⟩:∃x,ws[1]? =some x:=⟨_,aO aY⟩;have ex:wdx ws 1=x:=bZ;obtain⟨z,hz⟩:∃x,ws[2]? =some x:=⟨_,aO aY⟩;have ez:wdx ws 2=z:=iU;obtain⟨y,hy⟩:∃x,ws[3]? =some x:=⟨_,aO aY⟩;have ey:wdx ws 3=y:=di
 have e:bR pt (pl m) ws=none:=by
  unfold bR; rw[if_pos ⟨h1,dY,.inr (h3.trans gb.symm)⟩]; rw[h4]
  exact El
 rw[e];subst h2;have HO:=hid (bL h 1 4 h1.1 h1.2);have q1:=h.part 4 ae;have d1:=hw.setR (o:=10) (u:=.int .i64 4) hA h.low;have k1:=KR.set base R 10 w (.int .i64 4);have e1:=hE.later (k1.below hBR bM hE.bw);have HM:=hid (aH R (w.setCell ⟨R,10,none⟩ (.int .i64 4)));generalize w.setCell ⟨R,10,none⟩ (.int .i64 4)=w1 at *;have HQ0:=hid q1;have HD0:=hid d1;have HK0:=hid k1;have HE0:=hid e1;have sx:=hw.sz x (List.mem_of_getElem? hx)
 have HWx:=hid (fun(W:World) (hW:Below w1.heap.size w1 W)=>(by have:=(d1.later hW).at_ 1 x hx; rwa [Nat.zero_add]at this:W.cell? ⟨A,1,none⟩=some (.string x)))
 have sz:=hw.sz z (List.mem_of_getElem? hz)
 have HWz:=hid (fun(W:World) (hW:Below w1.heap.size w1 W)=>(by have:=(d1.later hW).at_ 2 z hz; rwa [Nat.zero_add]at this:W.cell? ⟨A,2,none⟩=some (.string z)))
 have sy:=hw.sz y (List.mem_of_getElem? hy)
 have HWy:=hid (fun(W:World) (hW:Below w1.heap.size w1 W)=>(by have:=(d1.later hW).at_ 3 y hy; rwa [Nat.zero_add]at this:W.cell? ⟨A,3,none⟩=some (.string y)))
 have kz1:(z.toList==[118,97,114])=false:=gj;have kz2:(z.toList==[99,111,110,115,116])=true:=gj;rw[ey]at h4;rw[ex]at h5;have hx1:(x.toList==[119])=true:=lM;have hfit:(v==wrap64 (wrap32 v))=false:=vA;exact IQ
theorem zX{B base R A n c:Nat}{mp:Value}{m:MM}{ln pt:Int}{w:World}{ws:List ByteArray}(h:RQ base R mp m ln pt w)(hw:Wds w A n c ws)(hA:base≤A)(hE:cw B w)(hBR:B≤R)(hps:psz (pl m)≤2097152)(h1:1≤pt∧pt≤4)(h2:n=4)(h3:(wdx ws 2).toList=[99,111,110,115,116]){v:Int}(h4:nmV (wdx ws 3)=some v)(h5:(wdx ws 1).toList=[108]) :
  Calls Tryz.prog 111 #[.pointer (some ⟨R,0,none⟩),.slice (some ⟨A,0,none⟩) n c] w (LnP base R mp ln w (bR pt (pl m) ws)):=by
 obtain⟨i0,hi,hz0,hz1,hz2⟩:=info_parts Cj;obtain⟨x,hx⟩:∃x,ws[1]? =some x:=⟨_,aO aY⟩;have ex:wdx ws 1=x:=bZ;obtain⟨z,hz⟩:∃x,ws[2]? =some x:=⟨_,aO aY⟩;have ez:wdx ws 2=z:=iU;obtain⟨y,hy⟩:∃x,ws[3]? =some x:=⟨_,aO aY⟩;have ey:wdx ws 3=y:=di
 have e:bR pt (pl m) ws=some (4,{ pl m with globals:=(pl m).globals++[(108,false,v%18446744073709551616)] }):=by
  unfold bR; rw[if_pos ⟨h1,dY,.inr (h3.trans gb.symm)⟩]; rw[h4]
  have eg:gvV (wdx ws 1) v=some (108,v%18446744073709551616):=by unfold gvV; rw[if_neg (by rw[h5]; decide),if_pos h5]
  exact CY
 rw[e];subst h2
 have hn:m.gn≤2097152:=by
  exact vT
 have HO:=hid (bL h 1 4 h1.1 h1.2);have q1:=h.part 4 ae;have d1:=hw.setR (o:=10) (u:=.int .i64 4) hA h.low;have k1:=KR.set base R 10 w (.int .i64 4);have e1:=hE.later (k1.below hBR bM hE.bw);have HM:=hid (aH R (w.setCell ⟨R,10,none⟩ (.int .i64 4)));generalize w.setCell ⟨R,10,none⟩ (.int .i64 4)=w1 at *;have HQ0:=hid q1;have HD0:=hid d1;have HK0:=hid k1;have HE0:=hid e1;have sx:=hw.sz x (List.mem_of_getElem? hx)
 have HWx:=hid (fun(W:World) (hW:Below w1.heap.size w1 W)=>(by have:=(d1.later hW).at_ 1 x hx; rwa [Nat.zero_add]at this:W.cell? ⟨A,1,none⟩=some (.string x)))
 have sz:=hw.sz z (List.mem_of_getElem? hz)
 have HWz:=hid (fun(W:World) (hW:Below w1.heap.size w1 W)=>(by have:=(d1.later hW).at_ 2 z hz; rwa [Nat.zero_add]at this:W.cell? ⟨A,2,none⟩=some (.string z)))
 have sy:=hw.sz y (List.mem_of_getElem? hy)
 have HWy:=hid (fun(W:World) (hW:Below w1.heap.size w1 W)=>(by have:=(d1.later hW).at_ 3 y hy; rwa [Nat.zero_add]at this:W.cell? ⟨A,3,none⟩=some (.string y)))
 have kz1:(z.toList==[118,97,114])=false:=gj;have kz2:(z.toList==[99,111,110,115,116])=true:=gj;rw[ey]at h4;rw[ex]at h5;have hx1:(x.toList==[119])=false:=lM;have hx2:(x.toList==[108])=true:=lM;have hu64:IntKind.u64.wrap v=v%18446744073709551616:=R9 v
 have HI1:=hid (fun(W:World) (hW:Below w1.heap.size w1 W)=>jq B R y v W (e1.tens.later (hW.mono e1.bw)) (Nat.le_trans e1.bw hW.size) ae h4)
 clear h hw hE hps h1 q1 d1 k1 e1 e hx ex hz ez hy ey h3 h4 h5
 go_enter Tryz.func111,Tryz.ntmps111
 go_wp2_with fail;refine HO.out.mono ?_;rintro e w1' ⟨rfl,hw1⟩;have hw2:=hw1.symm;subst hw2;go_wp2_with fail;refine HM.out.mono ?_;rintro e w1'' ⟨rfl,hw1⟩;have hw2:=hw1.symm;subst hw2;have cz:=HWz.out w1 (Below.refl _ _);have HM2:=hid (aH R w1);go_wp2_with fail;refine HM2.out.mono ?_;rintro e w2' ⟨rfl,hw1⟩;have hw2:=hw1.symm;subst hw2;have cy:(w1.alloc (aQ 0 false 0)).cell? ⟨A,3,none⟩=some (.string y):=HWy.out _ (ag w1 _);have BX0:=hid (ag w1 (aQ 0 false 0));have hX0:=hid (heap_alloc_new w1 (aQ 0 false 0));go_wp2_with fail;refine(HI1.out _ BX0.out).mono ?_;rintro e w5⟨rfl,hb5⟩;have B5:=hid (BX0.out.trans (hb5.mono BX0.out.size));have hX5:=au hb5 hX0.out;have c50:w5.cell? ⟨w1.heap.size,0,none⟩=some (.int .u8 0):=ak hX5;have c52:w5.cell? ⟨w1.heap.size,2,none⟩=some (.int .u64 0):=ak hX5;have f50:w5.frozen? ⟨w1.heap.size,0,none⟩=false:=free_at hX5;have f52:w5.frozen? ⟨w1.heap.size,2,none⟩=false:=free_at hX5;have HX5:=hid hX5;have cx5:w5.cell? ⟨A,1,none⟩=some (.string x):=HWx.out _ B5.out;have HQ5:=hid (HQ0.out.later B5.out);clear hb5 cy hX0 hX5
 have ST:=hid (fun(u v:Value)=>(aw w5 w1.heap.size 0 u).trans (aw (w5.setCell ⟨w1.heap.size,0,none⟩ u) w1.heap.size 2 v))
 go_wp2_with fail
 have BX:=hid (B5.out.trans ((ST.out (.int .u8 108) (.int .u64 (v%18446744073709551616))).to_below B5.out.size (fun k _ hk=>uU)))
 have HBX:=hid (show((w5.setCell ⟨w1.heap.size,0,none⟩ (.int .u8 108)).setCell ⟨w1.heap.size,2,none⟩ (.int .u64 (v%18446744073709551616))).heap[w1.heap.size]? =some (aQ 108 false (v%18446744073709551616)) by rw[bS (bS HX5.out)]; rfl)
 have Q1:=hid (HQ0.out.later BX.out);have KX:=hid (KR.later (base:=base) (R:=R) BX.out);clear ST;generalize (w5.setCell ⟨w1.heap.size,0,none⟩ (.int .u8 108)).setCell ⟨w1.heap.size,2,none⟩ (.int .u64 (v%18446744073709551616))=w9 at *;generalize w1.heap.size=X at *;have B1:=hid ((Below.refl w9.heap.size w9).drew)
 refine wp_region_held_drew (S:=fun _=>True) ai trivial (fun _=>?_)
 generalize w9.drew=wd at *;refine tkQ (i:=0) rfl ?_;(try simp only[Act.put,sIB]);refine tkQ (i:=1) rfl ?_;(try simp only[Act.put]);refine tkQ (i:=2) rfl ?_;(try simp only[Act.put]);refine tkQ (i:=3) rfl ?_;(try simp only[Act.put]);refine tkQ (i:=4) rfl ?_;(try simp only[Act.put]);refine ryQ (rs:=[5,6]) ?_
 refine rcQ (i:=5) rfl (fun K hK=>?_) (rcQ (i:=6) rfl (fun K hK=>?_) rN)
 ·have cH:wd.cell? ⟨R,3,none⟩=some (.slice m.ga m.gn m.gc):=(Q1.out.later B1.out).cells 3;go_simp
  refine hK.out _ _ trivial (fun _=>?_)
  clear hK K;refine ryQ (rs:=[6]) ?_
  refine rcQ (i:=6) rfl (fun K hK=>?_) rN
  have y0:wd.cell? ⟨X,0,none⟩=some (.int .u8 108):=ak (au B1.out HBX.out);have y1:wd.cell? ⟨X,1,none⟩=some (.bool false):=ak (au B1.out HBX.out);have y2:wd.cell? ⟨X,2,none⟩=some (.int .u64 (v%18446744073709551616)):=ak (au B1.out HBX.out);exact F7
 ·have y0:wd.cell? ⟨X,0,none⟩=some (.int .u8 108):=ak (au B1.out HBX.out);have y1:wd.cell? ⟨X,1,none⟩=some (.bool false):=ak (au B1.out HBX.out);have y2:wd.cell? ⟨X,2,none⟩=some (.int .u64 (v%18446744073709551616)):=ak (au B1.out HBX.out);go_simp
  refine hK.out _ _ trivial (fun _=>?_)
  clear hK K;refine ryQ (rs:=[5,7]) ?_
  refine rcQ (i:=5) rfl (fun K hK=>?_) (rcQ (i:=7) rfl (fun K hK=>?_) rN)
  ·have cH:wd.cell? ⟨R,3,none⟩=some (.slice m.ga m.gn m.gc):=(Q1.out.later B1.out).cells 3;exact F7
  ·go_simp;have BN:=hid (B1.out.trans ((ag wd (aQ 108 false (v%18446744073709551616))).mono B1.out.size))
   refine hK.out _ _ trivial (fun _=>?_)
   clear hK K;refine ryQ (rs:=[5]) ?_
   refine rcQ (i:=5) rfl (fun K hK=>?_) rN
   have cH:(wd.alloc (aQ 108 false (v%18446744073709551616))).cell? ⟨R,3,none⟩=some (.slice m.ga m.gn m.gc):=(Q1.out.later BN.out).cells 3;go_simp
   refine hK.out _ _ trivial (fun _=>?_)
   clear hK K;refine ryQ (rs:=[8]) ?_
   refine rcQ (i:=8) rfl (fun K hK=>?_) rN
   refine wp_append_lies _ (.tmp 65) (.tmp 67) 24 rfl base 102 i0 (.agg #[.int .u8 0,.bool false,.int .u64 0]) 3 16 Tryz.underlying24 hi hz0 hz1 hz2 rfl aj (.slice m.ga m.gn m.gc) m.gn (m.globals.flatMap eT) rfl (Q1.out.later BN.out).rg ⟨wd.heap.size,0,none⟩ 1 1 (eT ((108,false,v%18446744073709551616):Gl)) rfl rfl ?n1 ?n2 aj bV ae (Q1.out.later BN.out).bw _ rfl ?_
   case n1 =>
    exact wH
   case n2=>intro u hu; simp[eT]at hu; rcases hu with rfl | rfl | rfl <;> rfl
   intro g cap w6 ho6 hg6 _ _;have PX:=hid ((Q1.out).pushG BN.out ((108,false,v%18446744073709551616):Gl) ho6 hg6);exact vU
theorem AY{B base R A n c:Nat}{mp:Value}{m:MM}{ln pt:Int}{w:World}{ws:List ByteArray}(h:RQ base R mp m ln pt w)(hw:Wds w A n c ws)(hA:base≤A)(hE:cw B w)(hBR:B≤R)(hps:psz (pl m)≤2097152)(h1:1≤pt∧pt≤4)(h2:n=4)(h3:(wdx ws 2).toList=[99,111,110,115,116]){v:Int}(h4:nmV (wdx ws 3)=some v)(h5:¬(wdx ws 1).toList=[119])(h6:¬(wdx ws 1).toList=[108]) :
  Calls Tryz.prog 111 #[.pointer (some ⟨R,0,none⟩),.slice (some ⟨A,0,none⟩) n c] w (LnP base R mp ln w (bR pt (pl m) ws)):=by
 obtain⟨x,hx⟩:∃x,ws[1]? =some x:=⟨_,aO aY⟩;have ex:wdx ws 1=x:=bZ;obtain⟨z,hz⟩:∃x,ws[2]? =some x:=⟨_,aO aY⟩;have ez:wdx ws 2=z:=iU;obtain⟨y,hy⟩:∃x,ws[3]? =some x:=⟨_,aO aY⟩;have ey:wdx ws 3=y:=di
 have e:bR pt (pl m) ws=none:=by
  unfold bR; rw[if_pos ⟨h1,dY,.inr (h3.trans gb.symm)⟩]; rw[h4]
  exact Bn
 rw[e];subst h2;have HO:=hid (bL h 1 4 h1.1 h1.2);have q1:=h.part 4 ae;have d1:=hw.setR (o:=10) (u:=.int .i64 4) hA h.low;have k1:=KR.set base R 10 w (.int .i64 4);have e1:=hE.later (k1.below hBR bM hE.bw);have HM:=hid (aH R (w.setCell ⟨R,10,none⟩ (.int .i64 4)));generalize w.setCell ⟨R,10,none⟩ (.int .i64 4)=w1 at *;have HQ0:=hid q1;have HD0:=hid d1;have HK0:=hid k1;have HE0:=hid e1;have sx:=hw.sz x (List.mem_of_getElem? hx)
 have HWx:=hid (fun(W:World) (hW:Below w1.heap.size w1 W)=>(by have:=(d1.later hW).at_ 1 x hx; rwa [Nat.zero_add]at this:W.cell? ⟨A,1,none⟩=some (.string x)))
 have sz:=hw.sz z (List.mem_of_getElem? hz)
 have HWz:=hid (fun(W:World) (hW:Below w1.heap.size w1 W)=>(by have:=(d1.later hW).at_ 2 z hz; rwa [Nat.zero_add]at this:W.cell? ⟨A,2,none⟩=some (.string z)))
 have sy:=hw.sz y (List.mem_of_getElem? hy)
 have HWy:=hid (fun(W:World) (hW:Below w1.heap.size w1 W)=>(by have:=(d1.later hW).at_ 3 y hy; rwa [Nat.zero_add]at this:W.cell? ⟨A,3,none⟩=some (.string y)))
 have kz1:(z.toList==[118,97,114])=false:=gj;have kz2:(z.toList==[99,111,110,115,116])=true:=gj;rw[ey]at h4;rw[ex]at h5 h6;have hx1:(x.toList==[119])=false:=qX
 have hx2:(x.toList==[108])=false:=by simpa using h6
 exact IQ
theorem AJ{B base R A n c:Nat}{mp:Value}{m:MM}{ln pt:Int}{w:World}{ws:List ByteArray}(h:RQ base R mp m ln pt w)(hw:Wds w A n c ws)(hA:base≤A)(hE:cw B w)(hBR:B≤R)(hps:psz (pl m)≤2097152)(h1:1≤pt∧pt≤4)(h2:n=4)(h3:(wdx ws 2).toList=[99,111,110,115,116])(h4:nmV (wdx ws 3)=none) :
  Calls Tryz.prog 111 #[.pointer (some ⟨R,0,none⟩),.slice (some ⟨A,0,none⟩) n c] w (LnP base R mp ln w (bR pt (pl m) ws)):=by
 obtain⟨x,hx⟩:∃x,ws[1]? =some x:=⟨_,aO aY⟩;have ex:wdx ws 1=x:=bZ;obtain⟨z,hz⟩:∃x,ws[2]? =some x:=⟨_,aO aY⟩;have ez:wdx ws 2=z:=iU;obtain⟨y,hy⟩:∃x,ws[3]? =some x:=⟨_,aO aY⟩;have ey:wdx ws 3=y:=di
 have e:bR pt (pl m) ws=none:=by
  unfold bR; rw[if_pos ⟨h1,dY,.inr (h3.trans gb.symm)⟩]; rw[h4]; rfl
 rw[e];subst h2;have HO:=hid (bL h 1 4 h1.1 h1.2);have q1:=h.part 4 ae;have d1:=hw.setR (o:=10) (u:=.int .i64 4) hA h.low;have k1:=KR.set base R 10 w (.int .i64 4);have e1:=hE.later (k1.below hBR bM hE.bw);have HM:=hid (aH R (w.setCell ⟨R,10,none⟩ (.int .i64 4)));generalize w.setCell ⟨R,10,none⟩ (.int .i64 4)=w1 at *;have HQ0:=hid q1;have HD0:=hid d1;have HK0:=hid k1;have HE0:=hid e1;have sx:=hw.sz x (List.mem_of_getElem? hx)
 have HWx:=hid (fun(W:World) (hW:Below w1.heap.size w1 W)=>(by have:=(d1.later hW).at_ 1 x hx; rwa [Nat.zero_add]at this:W.cell? ⟨A,1,none⟩=some (.string x)))
 have sz:=hw.sz z (List.mem_of_getElem? hz)
 have HWz:=hid (fun(W:World) (hW:Below w1.heap.size w1 W)=>(by have:=(d1.later hW).at_ 2 z hz; rwa [Nat.zero_add]at this:W.cell? ⟨A,2,none⟩=some (.string z)))
 have sy:=hw.sz y (List.mem_of_getElem? hy)
 have HWy:=hid (fun(W:World) (hW:Below w1.heap.size w1 W)=>(by have:=(d1.later hW).at_ 3 y hy; rwa [Nat.zero_add]at this:W.cell? ⟨A,3,none⟩=some (.string y)))
 have kz1:(z.toList==[118,97,114])=false:=gj;have kz2:(z.toList==[99,111,110,115,116])=true:=gj;rw[ey]at h4
 have HI1:=hid (fun(W:World) (hW:Below w1.heap.size w1 W)=>wC B R y ln W (e1.tens.later (hW.mono e1.bw)) (e1.errs.later (hW.mono e1.bw)) (Nat.le_trans e1.bw hW.size) ae ((q1.later hW).cells 9) h4)
 clear h hw hE hps h1 q1 d1 k1 e1 e hx ex hz ez hy ey h3 h4
 go_enter Tryz.func111,Tryz.ntmps111
 go_wp2_with fail;refine HO.out.mono ?_;rintro e w1' ⟨rfl,hw1⟩;have hw2:=hw1.symm;subst hw2;go_wp2_with fail;refine HM.out.mono ?_;rintro e w1'' ⟨rfl,hw1⟩;have hw2:=hw1.symm;subst hw2;have cz:=HWz.out w1 (Below.refl _ _);have HM2:=hid (aH R w1);go_wp2_with fail;refine HM2.out.mono ?_;rintro e w2' ⟨rfl,hw1⟩;have hw2:=hw1.symm;subst hw2;have cy:(w1.alloc (aQ 0 false 0)).cell? ⟨A,3,none⟩=some (.string y):=HWy.out _ (ag w1 _);have BX0:=hid (ag w1 (aQ 0 false 0));have hX0:=hid (heap_alloc_new w1 (aQ 0 false 0));exact Hf
theorem SS{B base R A n c:Nat}{mp:Value}{m:MM}{ln pt:Int}{w:World}{ws:List ByteArray}(h:RQ base R mp m ln pt w)(hw:Wds w A n c ws)(hA:base≤A)(hE:cw B w)(hBR:B≤R)(hps:psz (pl m)≤2097152)(h1:1≤pt∧pt≤4)(h2:n=4)(h3:¬((wdx ws 2).toList=x7.toList∨(wdx ws 2).toList=wP.toList)) :
  Calls Tryz.prog 111 #[.pointer (some ⟨R,0,none⟩),.slice (some ⟨A,0,none⟩) n c] w (LnP base R mp ln w (bR pt (pl m) ws)):=by
 obtain⟨x,hx⟩:∃x,ws[1]? =some x:=⟨_,aO aY⟩;have ex:wdx ws 1=x:=bZ;obtain⟨z,hz⟩:∃x,ws[2]? =some x:=⟨_,aO aY⟩;have ez:wdx ws 2=z:=iU;obtain⟨y,hy⟩:∃x,ws[3]? =some x:=⟨_,aO aY⟩;have ey:wdx ws 3=y:=di
 have e:bR pt (pl m) ws=none:=by
  unfold bR; rw[if_neg (fun x=>h3 x.2.2)]
 rw[e];subst h2;have HO:=hid (bL h 1 4 h1.1 h1.2);have q1:=h.part 4 ae;have d1:=hw.setR (o:=10) (u:=.int .i64 4) hA h.low;have k1:=KR.set base R 10 w (.int .i64 4);have e1:=hE.later (k1.below hBR bM hE.bw);have HM:=hid (aH R (w.setCell ⟨R,10,none⟩ (.int .i64 4)));generalize w.setCell ⟨R,10,none⟩ (.int .i64 4)=w1 at *;have HQ0:=hid q1;have HD0:=hid d1;have HK0:=hid k1;have HE0:=hid e1;have sx:=hw.sz x (List.mem_of_getElem? hx)
 have HWx:=hid (fun(W:World) (hW:Below w1.heap.size w1 W)=>(by have:=(d1.later hW).at_ 1 x hx; rwa [Nat.zero_add]at this:W.cell? ⟨A,1,none⟩=some (.string x)))
 have sz:=hw.sz z (List.mem_of_getElem? hz)
 have HWz:=hid (fun(W:World) (hW:Below w1.heap.size w1 W)=>(by have:=(d1.later hW).at_ 2 z hz; rwa [Nat.zero_add]at this:W.cell? ⟨A,2,none⟩=some (.string z)))
 have sy:=hw.sz y (List.mem_of_getElem? hy)
 have HWy:=hid (fun(W:World) (hW:Below w1.heap.size w1 W)=>(by have:=(d1.later hW).at_ 3 y hy; rwa [Nat.zero_add]at this:W.cell? ⟨A,3,none⟩=some (.string y)))
 rw[ez]at h3
 have kz1:(z.toList==[118,97,114])=false:=by have:¬z.toList=[118,97,114]:=fun e=>h3 (.inl (e.trans gA.symm)); simpa using this
 have kz2:(z.toList==[99,111,110,115,116])=false:=by have:¬z.toList=[99,111,110,115,116]:=fun e=>h3 (.inr (e.trans gb.symm)); simpa using this
 have HM2:=hid (gu q1);clear h hw hE hps h1 q1 d1 k1 e1 e hx ex hz ez hy ey h3
 go_enter Tryz.func111,Tryz.ntmps111
 go_wp2_with fail;refine HO.out.mono ?_;rintro e w1' ⟨rfl,hw1⟩;have hw2:=hw1.symm;subst hw2;go_wp2_with fail;refine HM.out.mono ?_;rintro e w1'' ⟨rfl,hw1⟩;have hw2:=hw1.symm;subst hw2;have cz:=HWz.out w1 (Below.refl _ _);go_wp2_with fail;refine HM2.out.mono ?_;rintro e w2' ⟨rfl,hw1⟩;have hw2:=hw1.symm;subst hw2;exact⟨rfl,HK0.out,rfl⟩
theorem MV{B base R A n c:Nat}{mp:Value}{m:MM}{ln pt:Int}{w:World}{ws:List ByteArray}(h:RQ base R mp m ln pt w)(hw:Wds w A n c ws)(hA:base≤A)(hE:cw B w)(hBR:B≤R)(hps:psz (pl m)≤2097152) :
  Calls Tryz.prog 111 #[.pointer (some ⟨R,0,none⟩),.slice (some ⟨A,0,none⟩) n c] w (LnP base R mp ln w (bR pt (pl m) ws)):=by
 by_cases h1:1≤pt∧pt≤4
 ·by_cases h2:n=4
  ·by_cases h3:(wdx ws 2).toList=x7.toList
   ·have h3':(wdx ws 2).toList=[118,97,114]:=h3.trans gA
    rcases h4:nmV (wdx ws 3) with _ | v
    ·exact EK h hw hA hE hBR hps h1 h2 h3' h4
    ·by_cases h5:(wdx ws 1).toList=[119]
     ·by_cases h6:v=wrap32 v
      ·exact FL h hw hA hE hBR hps h1 h2 h3' h4 h5 h6
      ·exact AG h hw hA hE hBR hps h1 h2 h3' h4 h5 h6
     ·by_cases h6:(wdx ws 1).toList=[108]
      ·exact Fe h hw hA hE hBR hps h1 h2 h3' h4 h6
      ·exact Fs h hw hA hE hBR hps h1 h2 h3' h4 h5 h6
   ·by_cases h3b:(wdx ws 2).toList=wP.toList
    ·have h3':(wdx ws 2).toList=[99,111,110,115,116]:=h3b.trans gb
     rcases h4:nmV (wdx ws 3) with _ | v
     ·exact AJ h hw hA hE hBR hps h1 h2 h3' h4
     ·by_cases h5:(wdx ws 1).toList=[119]
      ·by_cases h6:v=wrap32 v
       ·exact Al h hw hA hE hBR hps h1 h2 h3' h4 h5 h6
       ·exact yj h hw hA hE hBR hps h1 h2 h3' h4 h5 h6
      ·by_cases h6:(wdx ws 1).toList=[108]
       ·exact zX h hw hA hE hBR hps h1 h2 h3' h4 h6
       ·exact AY h hw hA hE hBR hps h1 h2 h3' h4 h5 h6
    ·exact SS h hw hA hE hBR hps h1 h2 (fun x=>x.elim h3 h3b)
  ·exact Lz h hw h1 h2
 ·exact Mp h h1
end Go.Proofs.YtheefojaplnnoaaGreatDoor
