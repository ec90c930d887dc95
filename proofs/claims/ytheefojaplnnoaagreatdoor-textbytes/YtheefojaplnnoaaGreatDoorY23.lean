/-
  Texts Pj.
-/
import Derived.Test.YtheefojaplnnoaaGreatDoorY00
import Derived.Test.YtheefojaplnnoaaGreatDoorY22
set_option linter.unusedVariables false
set_option maxRecDepth 100000
set_option maxHeartbeats 16000000
namespace Go.Proofs.YtheefojaplnnoaaGreatDoor
open Go.RowKit
theorem Im:(Tryz.prog.info? 73).map (fun i=>(i.zero,i.size,i.bytes))=some (some (.agg #[.string ⟨#[]⟩,.string ⟨#[]⟩]),2,32):=ai
theorem zj{α:Type}{l:List α}{j:Nat}:l.tail[j]? =l[j+1]?:=by cases l <;> simp
theorem Mx{B base R A n c:Nat}{mp:Value}{m:MM}{ln pt:Int}{w:World}{ws:List ByteArray}(h:RQ base R mp m ln pt w)(hw:Wds w A n c ws)(hA:base≤A)(hE:cw B w)(hBR:B≤R)(hps:psz (pl m)≤2097152)(hc:c=n)(hn0:2≤n)(hj:(dC ws.tail).size≤8388608)(h1:1≤pt∧pt≤2)(h3:rdE (dC ws.tail)=0) :
  Calls Tryz.prog 109 #[.pointer (some ⟨R,0,none⟩),.slice (some ⟨A,0,none⟩) n c] w (LnP base R mp ln w (gN pt (pl m) ws)):=by
 have hc':=hc.symm;subst hc';obtain⟨i0,hi,hz0,hz1,hz2⟩:=info_parts Im
 have e:gN pt (pl m) ws=some (2,{ pl m with types:=(pl m).types++[(rdP (dC ws.tail),rdR (dC ws.tail))] }):=by unfold gN; rw[if_pos ⟨h1,h3⟩]
 rw[e]
 have hn:m.tn≤2097152:=by
  exact uH
 have HO:=hid (bL h 1 2 h1.1 h1.2);have q1:=h.part 2 h1.2;have d1:=hw.setR (o:=10) (u:=.int .i64 2) hA h.low;have k1:=KR.set base R 10 w (.int .i64 2);have e1:=hE.later (k1.below hBR bM hE.bw);generalize w.setCell ⟨R,10,none⟩ (.int .i64 2)=w0 at *;have hlen:ws.tail.length=n-1:=rR
 have HJ:=hid (Tryz.strings_Join A 1 (n-1) ws.tail ⟨#[32]⟩ w0 (fun j x hx=>C3) d1.lt pT (by have:=hw.cap; omega) wo)
 rw[hlen]at HJ
 have ej:(⟨(Lib.join (ws.tail.map (·.data.toList)) (⟨#[32]⟩:ByteArray).data.toList).toArray⟩:ByteArray)=dC ws.tail:=rfl
 rw[ej]at HJ
 have HS:=hid (fun(W:World) (hW:Below w0.heap.size w0 W)=>mK (dC ws.tail) W ae (e1.mx.later hW (Nat.le_refl _)))
 have HQ0:=hid q1;have HK0:=hid k1;have hc2:¬n=1:=ae;have hn1:1≤n:=ae;generalize dC ws.tail=jw at *;clear h hw hE hps h1 q1 d1 k1 e1 e ej hlen hj
 go_enter Tryz.func109,Tryz.ntmps109
 go_wp2_with fail;refine HO.out.mono ?_;rintro e w1' ⟨rfl,hw1⟩;have hw2:=hw1.symm;subst hw2;go_wp2_with fail;refine HJ.out.mono ?_;rintro e w2⟨rfl,hb2⟩;have B2:=hid hb2;clear hb2;go_wp2_with fail;refine(HS.out _ B2.out).mono ?_;rintro e w3⟨rfl,hb3⟩;have B3:=hid (B2.out.trans (hb3.mono B2.out.size));clear hb3;go_wp2_with fail;have HM:=hid (aH R (w3.alloc (aX (rdP jw) (rdR jw))));generalize rdP jw=rp at *;generalize rdR jw=rr at *;have B4:=hid (B3.out.trans ((ag w3 (aX rp rr)).mono B3.out.size));have HBX:=hid (heap_alloc_new w3 (aX rp rr));have Q1:=hid (HQ0.out.later B4.out);clear HS HJ HO;refine HM.out.mono ?_;rintro e w1'' ⟨rfl,hw1⟩;have hw2:=hw1.symm;subst hw2;go_wp2_with fail;generalize w3.alloc (aX rp rr)=w1 at *;generalize w3.heap.size=X at *;have B1:=hid ((Below.refl w1.heap.size w1).drew)
 refine wp_region_held_drew (S:=fun _=>True) ai trivial (fun _=>?_)
 generalize w1.drew=wd at *;refine tkQ (i:=0) rfl ?_;(try simp only[Act.put,sIB]);refine tkQ (i:=1) rfl ?_;(try simp only[Act.put]);refine tkQ (i:=2) rfl ?_;(try simp only[Act.put]);refine tkQ (i:=3) rfl ?_;(try simp only[Act.put]);refine tkQ (i:=4) rfl ?_;(try simp only[Act.put]);refine ryQ (rs:=[5,6]) ?_
 refine rcQ (i:=5) rfl (fun K hK=>?_) (rcQ (i:=6) rfl (fun K hK=>?_) rN)
 ·have cH:wd.cell? ⟨R,1,none⟩=some (.slice m.ta m.tn m.tc):=(Q1.out.later B1.out).cells 1;go_simp
  refine hK.out _ _ trivial (fun _=>?_)
  clear hK K;refine ryQ (rs:=[6]) ?_
  refine rcQ (i:=6) rfl (fun K hK=>?_) rN
  have y0:wd.cell? ⟨X,0,none⟩=some (.string rp):=ak (au B1.out HBX.out);have y1:wd.cell? ⟨X,1,none⟩=some (.string rr):=ak (au B1.out HBX.out);exact J8
 ·have y0:wd.cell? ⟨X,0,none⟩=some (.string rp):=ak (au B1.out HBX.out);have y1:wd.cell? ⟨X,1,none⟩=some (.string rr):=ak (au B1.out HBX.out);go_simp
  refine hK.out _ _ trivial (fun _=>?_)
  clear hK K;refine ryQ (rs:=[5,7]) ?_
  refine rcQ (i:=5) rfl (fun K hK=>?_) (rcQ (i:=7) rfl (fun K hK=>?_) rN)
  ·have cH:wd.cell? ⟨R,1,none⟩=some (.slice m.ta m.tn m.tc):=(Q1.out.later B1.out).cells 1;exact J8
  ·go_simp;have BN:=hid (B1.out.trans ((ag wd (aX rp rr)).mono B1.out.size))
   refine hK.out _ _ trivial (fun _=>?_)
   clear hK K;refine ryQ (rs:=[5]) ?_
   refine rcQ (i:=5) rfl (fun K hK=>?_) rN
   have cH:(wd.alloc (aX rp rr)).cell? ⟨R,1,none⟩=some (.slice m.ta m.tn m.tc):=(Q1.out.later BN.out).cells 1;go_simp
   refine hK.out _ _ trivial (fun _=>?_)
   clear hK K;refine ryQ (rs:=[8]) ?_
   refine rcQ (i:=8) rfl (fun K hK=>?_) rN
   refine wp_append_lies _ (.tmp 24) (.tmp 26) 22 rfl base 73 i0 (.agg #[.string ⟨#[]⟩,.string ⟨#[]⟩]) 2 32 Tryz.underlying22 hi hz0 hz1 hz2 rfl aj (.slice m.ta m.tn m.tc) m.tn (m.types.flatMap nU) rfl (Q1.out.later BN.out).rt ⟨wd.heap.size,0,none⟩ 1 1 (nU (rp,rr)) rfl rfl ?n1 ?n2 aj bV ae (Q1.out.later BN.out).bw _ rfl ?_
   case n1 =>
    exact Dk
   case n2=>intro u hu; simp[nU]at hu; rcases hu with rfl | rfl <;> rfl
   intro g cap w6 ho6 hg6 _ _;have PX:=hid ((Q1.out).pushT BN.out (rp,rr) ho6 hg6);have z6:=hid (cr ((Q1.out.later BN.out).blk) (Q1.out).low ((Q1.out.later BN.out).rt) hg6);clear ho6 hg6
   refine hK.out _ _ trivial (fun _=>?_)
   clear hK K;refine tkQ (i:=9) rfl ?_;(try simp only[Act.put,sIB]);refine tkQ (i:=10) rfl ?_;(try simp only[Act.put]);refine tkQ (i:=11) rfl ?_;(try simp only[Act.put]);refine ryQ (rs:=[12]) ?_
   refine rcQ (i:=12) rfl (fun K hK=>?_) rN
   have c16:w6.cell? ⟨R,1,none⟩=some (.slice m.ta m.tn m.tc):=ak z6.out;have f16:w6.frozen? ⟨R,1,none⟩=false:=free_at z6.out;go_simp
   refine hK.out _ _ trivial (fun _=>?_)
   clear hK K;refine wpAnyH_done ai ?_ _;go_end0;exact⟨(HK0.out.trans (KR.later B4.out)).trans PX.out.2,rfl,_,PX.out.1,iJ⟩
theorem QA{B base R A n c:Nat}{mp:Value}{m:MM}{ln pt:Int}{w:World}{ws:List ByteArray}(h:RQ base R mp m ln pt w)(hw:Wds w A n c ws)(hA:base≤A)(hE:cw B w)(hBR:B≤R)(hps:psz (pl m)≤2097152)(hc:c=n)(hn0:2≤n)(hj:(dC ws.tail).size≤8388608)(h1:1≤pt∧pt≤2)(h3:rdE (dC ws.tail)≠0) :
  Calls Tryz.prog 109 #[.pointer (some ⟨R,0,none⟩),.slice (some ⟨A,0,none⟩) n c] w (LnP base R mp ln w (gN pt (pl m) ws)):=by
 have hc':=hc.symm;subst hc';obtain⟨i0,hi,hz0,hz1,hz2⟩:=info_parts Im;have e:gN pt (pl m) ws=none:=C0;rw[e]
 have hn:m.tn≤2097152:=by
  exact uH
 have HO:=hid (bL h 1 2 h1.1 h1.2);have q1:=h.part 2 h1.2;have d1:=hw.setR (o:=10) (u:=.int .i64 2) hA h.low;have k1:=KR.set base R 10 w (.int .i64 2);have e1:=hE.later (k1.below hBR bM hE.bw);generalize w.setCell ⟨R,10,none⟩ (.int .i64 2)=w0 at *;have hlen:ws.tail.length=n-1:=rR
 have HJ:=hid (Tryz.strings_Join A 1 (n-1) ws.tail ⟨#[32]⟩ w0 (fun j x hx=>C3) d1.lt pT (by have:=hw.cap; omega) wo)
 rw[hlen]at HJ
 have ej:(⟨(Lib.join (ws.tail.map (·.data.toList)) (⟨#[32]⟩:ByteArray).data.toList).toArray⟩:ByteArray)=dC ws.tail:=rfl
 rw[ej]at HJ
 have HS:=hid (fun(W:World) (hW:Below w0.heap.size w0 W)=>mK (dC ws.tail) W ae (e1.mx.later hW (Nat.le_refl _)))
 have HQ0:=hid q1;have HK0:=hid k1;have hc2:¬n=1:=ae;have hn1:1≤n:=ae;exact Gh
theorem M7{B base R A n c:Nat}{mp:Value}{m:MM}{ln pt:Int}{w:World}{ws:List ByteArray}(h:RQ base R mp m ln pt w)(hw:Wds w A n c ws)(hA:base≤A)(hE:cw B w)(hBR:B≤R)(hps:psz (pl m)≤2097152)(hc:c=n)(hn0:n=1)(hj:(dC ws.tail).size≤8388608)(h1:1≤pt∧pt≤2)(h3:rdE (dC ws.tail)≠0) :
  Calls Tryz.prog 109 #[.pointer (some ⟨R,0,none⟩),.slice (some ⟨A,0,none⟩) n c] w (LnP base R mp ln w (gN pt (pl m) ws)):=by
 have hc':=hc.symm;subst hc';obtain⟨i0,hi,hz0,hz1,hz2⟩:=info_parts Im;have e:gN pt (pl m) ws=none:=C0;rw[e]
 have hn:m.tn≤2097152:=by
  exact uH
 have HO:=hid (bL h 1 2 h1.1 h1.2);have q1:=h.part 2 h1.2;have d1:=hw.setR (o:=10) (u:=.int .i64 2) hA h.low;have k1:=KR.set base R 10 w (.int .i64 2);have e1:=hE.later (k1.below hBR bM hE.bw);generalize w.setCell ⟨R,10,none⟩ (.int .i64 2)=w0 at *;have hlen:ws.tail.length=n-1:=rR
 have HJ:=hid (Tryz.strings_Join A 0 0 ws.tail ⟨#[32]⟩ w0 (fun j x hx=>by have:=List.getElem?_eq_some_iff.1 hx; obtain⟨hl,_⟩:=this; omega) d1.lt pT (by have:=hw.cap; omega) wo)
 rw[hlen]at HJ
 have ej:(⟨(Lib.join (ws.tail.map (·.data.toList)) (⟨#[32]⟩:ByteArray).data.toList).toArray⟩:ByteArray)=dC ws.tail:=rfl
 rw[ej]at HJ
 have HS:=hid (fun(W:World) (hW:Below w0.heap.size w0 W)=>mK (dC ws.tail) W ae (e1.mx.later hW (Nat.le_refl _)))
 have HQ0:=hid q1;have HK0:=hid k1;subst hn0;exact Gh
theorem Lt:rdE (dC [])=15:=ai
theorem Qx{B base R A n c:Nat}{mp:Value}{m:MM}{ln pt:Int}{w:World}{ws:List ByteArray}(h:RQ base R mp m ln pt w)(hw:Wds w A n c ws)(hA:base≤A)(hE:cw B w)(hBR:B≤R)(hps:psz (pl m)≤2097152)(hc:c=n)(hn0:1≤n)(hj:(dC ws.tail).size≤8388608) :
  Calls Tryz.prog 109 #[.pointer (some ⟨R,0,none⟩),.slice (some ⟨A,0,none⟩) n c] w (LnP base R mp ln w (gN pt (pl m) ws)):=by
 by_cases h1:1≤pt∧pt≤2
 ·by_cases h2:n=1
  ·have e:ws.tail=[]:=by
    have:=hw.len
    rw[h2]at this
    exact List.eq_nil_of_length_eq_zero (by rw[List.length_tail]; omega)
   exact M7 h hw hA hE hBR hps hc h2 hj h1 (by rw[e,Lt]; decide)
  ·by_cases h3:rdE (dC ws.tail)=0
   ·exact Mx h hw hA hE hBR hps hc ae hj h1 h3
   ·exact QA h hw hA hE hBR hps hc ae hj h1 h3
 ·exact M4 h h1
end Go.Proofs.YtheefojaplnnoaaGreatDoor
