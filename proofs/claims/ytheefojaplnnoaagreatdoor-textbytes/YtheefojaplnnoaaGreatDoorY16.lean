/-
  Texts We Sc.
-/
import Derived.Test.YtheefojaplnnoaaGreatDoorY00
import Derived.Test.YtheefojaplnnoaaGreatDoorY01
import Derived.Test.YtheefojaplnnoaaGreatDoorY06
import Derived.Test.YtheefojaplnnoaaGreatDoorY15
set_option linter.unusedVariables false
set_option maxRecDepth 100000
set_option maxHeartbeats 16000000
namespace Go.Proofs.YtheefojaplnnoaaGreatDoor
open Go.RowKit
theorem pH(s:ByteArray)(w:World)(hs:s.size≤1000000):Calls Tryz.prog 200 #[.string s] w fun e w'=>e=.returned (.bool (jb s))∧Below w.heap.size w w':=by
 obtain⟨c,W,hrun,hseg,hbl,hsz⟩:=nZ w s hs
 have hc:∀j,j<s.size→W.cell? ⟨w.heap.size,j,none⟩=some (.int .u8 ((bD s).getD j 0)):=by
  rcases hseg.2.2.2.2 with h0 | ⟨b,off,hb,h⟩
  ·intro j hj; omega
  ·simp at hb
   obtain⟨rfl,rfl⟩:=hb;intro j hj
   have:=h j hj
   rwa [Nat.zero_add]at this
 have hcap:=hseg.2.1;have hsl:=eu s;have HB:=hid hbl
 have HNM:Hid (jb s=((bD s).all (fun b=>decide (33≤b)&&decide (b≤126))&&!s.toList.isEmpty)):=rfl
 generalize jb s=N at *;generalize bD s=zs at *;clear hseg hbl
 go_enter Tryz.func200,Tryz.ntmps200
 go_wp2_with fail;clear hrun
 go_loopw [8] (fun i wr=>∃j:Nat,j≤s.size∧i=.int .i64 j∧wr=W∧(zs.take j).all (fun b=>decide (33≤b)&&decide (b≤126))=true) (fun i _=>s.size-(intOf i).toNat)
 case atStart=>exact⟨0,ae,rfl,rfl,ar⟩
 case round =>
  obtain⟨j,hj,rfl,rfl,hall⟩:=hrel;have HALL:=hid hall;clear hall
  by_cases hlt:j<s.size
  ·have hcj:=hc j hlt;have hjz:j<zs.length:=ae
   have hgd:zs.getD j 0=zs[j]:=by simp[List.getD,hjz]
   have HZ:=hid hgd;rw[hgd]at hcj;have HJ:=hid (List.take_succ_eq_append_getElem hjz);have HMEM:Hid (zs[j]∈zs):=List.getElem_mem hjz;generalize zs[j]=b at *;clear hgd hc
   by_cases h33:b<33
   ·have d1:decide (b<33)=true:=by simp[h33]
    exact IR
   ·have d1:decide (b<33)=false:=aI
    by_cases h126:126<b
    ·have d2:decide (126<b)=true:=by simp[h126]
     exact IR
    ·have d2:decide (126<b)=false:=aI;go_wp2_with fail
     go_roundw
     ·refine⟨j+1,ae,rfl,?_,?_⟩
      ·first | rfl | trivial
      rw[HJ.out,List.all_append,HALL.out]
      simp; omega
     ·simp[intOf]; omega
  ·obtain rfl:j=s.size:=ae;have ht:zs.take s.size=zs:=List.take_of_length_le ae;rw[ht]at HALL;go_wp2_with fail;go_ret;refine⟨?_,HB.out⟩;rw[HNM.out,HALL.out]
   simp
section
variable (s:ByteArray) (p:Int) (A:Nat) (aa:Option Addr) (an ac:Nat) (ys:List Ex) (w:World)
theorem ub(hs:s.size≤1000000)(hn:jb s=false):Calls Tryz.prog 199 #[.string s,.int .i64 p,.pointer (some ⟨A,0,none⟩)] w (jU 23 w):=by
 have HI:=hid (pH s w hs);rw[hn]at HI
 go_enter Tryz.func199,Tryz.ntmps199
 go_wp2_with fail;refine HI.out.mono ?_;rintro e w1⟨rfl,hb⟩;have HB:=hid hb;clear hb HI;go_wp2_with fail;refine(dZ rfl).mono ?_;rintro e w1⟨rfl,rfl⟩;exact⟨rfl,⟨_,rfl⟩,HB.out⟩
theorem tU(hl:ys.length=an)(hrow:w.ownsRow 0 83 2 (.slice aa an ac) an (ys.flatMap fM))(h0:0<an):∃B y,aa=some ⟨B,0,none⟩∧ys.getLast? =some y∧w.cell? ⟨B,(an-1)*2,none⟩=some (.string y.1):=by
 obtain⟨y,hy⟩:∃y,ys[an-1]? =some y:=⟨_,aO ae⟩
 obtain⟨B,hB,hc⟩:=jF (oc:=fM) (t:=0) (u:=.string y.1) (fun _=>rfl) hrow hy rfl
 refine⟨B,y,hB,?_,hc⟩;rw[List.getLast?_eq_getElem?,hl];exact hy
theorem nD(hs:s.size≤1000000)(hn:jb s=true)(hl:ys.length=an)(han:an≤100000)(hrow:w.ownsRow 0 83 2 (.slice aa an ac) an (ys.flatMap fM))(ho:gg ys s=false)(hA:w.cell? ⟨A,0,none⟩=some (.slice aa an ac)) :
  Calls Tryz.prog 199 #[.string s,.int .i64 p,.pointer (some ⟨A,0,none⟩)] w (kX w):=by
 have HI:=hid (pH s w hs);rw[hn]at HI;have hAl:=block_lt_of_cell hA;have HA:=hid hA;have HR:=hid hrow;clear hA hrow
 go_enter Tryz.func199,Tryz.ntmps199
 go_wp2_with fail;refine HI.out.mono ?_;rintro e w1⟨rfl,hb⟩;have HB:=hid hb
 have hA1:=(hb.cell (by exact hAl)).trans HA.out
 have R1:=hid (aA HR.out (fun B hB=>hb.block B (ay HR.out hB)))
 clear hb HI
 by_cases h0:an=0
 ·subst h0;go_wp2_with fail;refine(cG rfl).mono ?_;rintro e w1⟨rfl,rfl⟩;go_wp2_with fail;refine(cG rfl).mono ?_;rintro e w1⟨rfl,rfl⟩;go_wp2_with fail;go_end0;exact⟨rfl,HB.out⟩
 ·obtain⟨B,y,rfl,hy,hcell⟩:=tU aa an ac ys w1 hl R1.out ae
  have hg:(!Op.bytesLess s.toList y.1.toList&&!s.toList==y.1.toList)=true:=by
   have:=ho
   unfold gg at this;rw[hy]at this
   simpa[sGt] using this
  have hz:((an:Int)==0)=false:=aI;go_wp2_with fail;refine(cG rfl).mono ?_;rintro e w1⟨rfl,rfl⟩;go_wp2_with fail
  refine(cG (by first | rfl | exact hg)).mono ?_
  rintro e w1⟨rfl,rfl⟩;go_wp2_with fail;go_end0;exact⟨rfl,HB.out⟩
theorem uq(hs:s.size≤1000000)(hn:jb s=true)(hl:ys.length=an)(han:an≤100000)(hrow:w.ownsRow 0 83 2 (.slice aa an ac) an (ys.flatMap fM))(ho:gg ys s=true)(hA:w.cell? ⟨A,0,none⟩=some (.slice aa an ac)) :
  Calls Tryz.prog 199 #[.string s,.int .i64 p,.pointer (some ⟨A,0,none⟩)] w (jU 18 w):=by
 have HI:=hid (pH s w hs);rw[hn]at HI;have hAl:=block_lt_of_cell hA;have HA:=hid hA;have HR:=hid hrow;clear hA hrow
 go_enter Tryz.func199,Tryz.ntmps199
 go_wp2_with fail;refine HI.out.mono ?_;rintro e w1⟨rfl,hb⟩;have HB:=hid hb
 have hA1:=(hb.cell (by exact hAl)).trans HA.out
 have R1:=hid (aA HR.out (fun B hB=>hb.block B (ay HR.out hB)))
 clear hb HI
 have h0:0<an:=by
  rcases Nat.eq_zero_or_pos an with h | h
  ·have:ys=[]:=List.eq_nil_of_length_eq_zero ae;subst this
   simp[gg]at ho
  ·exact h
 obtain⟨B,y,rfl,hy,hcell⟩:=tU aa an ac ys w1 hl R1.out h0
 have hg:(!Op.bytesLess s.toList y.1.toList&&!s.toList==y.1.toList)=false:=by
  have:=ho
  unfold gg at this;rw[hy]at this
  cases hq:(!Op.bytesLess s.toList y.1.toList&&!s.toList==y.1.toList)
  ·rfl
  ·simp[sGt,hq]at this
 have hz:((an:Int)==0)=false:=aI;go_wp2_with fail;refine(cG rfl).mono ?_;rintro e w1⟨rfl,rfl⟩;go_wp2_with fail
 refine(dZ (by first | rfl | exact hg)).mono ?_
 rintro e w1⟨rfl,rfl⟩;exact⟨rfl,⟨_,rfl⟩,HB.out⟩
end
def oN(w:World)(nm:ByteArray)(fn:Int)(aa:Option Addr)(an ac:Nat):World :=
 ((w.alloc (bj nm fn)).alloc (.cells #[.slice aa an ac] 27)).alloc (bj ⟨#[]⟩ 0)
theorem j5(w:World)(nm:ByteArray)(fn:Int)(aa:Option Addr)(an ac:Nat):Below w.heap.size w (oN w nm fn aa an ac)∧(oN w nm fn aa an ac).heap.size=w.heap.size+1+1+1 ∧
  (oN w nm fn aa an ac).heap[w.heap.size]? =some (bj nm fn)∧(oN w nm fn aa an ac).cell? ⟨w.heap.size+1,0,none⟩=some (.slice aa an ac)∧(oN w nm fn aa an ac).heap[w.heap.size+1+1]? =some (bj ⟨#[]⟩ 0):=by
 unfold oN;refine⟨(((Below.refl _ w).alloc (Nat.le_refl _) _).alloc ar _).alloc bu _,ar,?_,cg,?_⟩
 ·rw[(ag ((w.alloc (bj nm fn)).alloc (.cells #[.slice aa an ac] 27)) _).block w.heap.size bu,(ag (w.alloc (bj nm fn)) _).block w.heap.size ar];exact(MapKept.heap_alloc w _).1
 ·have:=(MapKept.heap_alloc ((w.alloc (bj nm fn)).alloc (.cells #[.slice aa an ac] 27)) (bj ⟨#[]⟩ 0)).1
  exact bJ
section
variable (R g cap:Nat) (bs:List Int) (nm:ByteArray) (fn nf:Int) (aa:Option Addr) (an ac:Nat) (ys:List Ex) (w:World)
theorem rQ(h:Wr w R g cap bs)(x:Int)(hrow:w.ownsRow 0 83 2 (.slice aa an ac) an (ys.flatMap fM))
  (ht:∀W,Wr W R g cap bs→W.ownsRow 0 83 2 (.slice aa an ac) an (ys.flatMap fM)→W.cell? ⟨w.heap.size+1,0,none⟩=some (.slice aa an ac)→Calls Tryz.prog 323 #[.pointer (some ⟨R,0,none⟩),.string nm,.int .i64 32,.func (.func 199) #[] #[.pointer (some ⟨w.heap.size+1,0,none⟩)]] W (aT R g x W)) :
  Calls Tryz.prog 149 #[cW R,.agg #[.string nm,.int .i64 fn],.slice aa an ac,.int .i64 nf] w (aT R g x w):=by
 have hmt:=dQ;have hct:=eZ;obtain⟨B0,z0,x0,x1,x2⟩:=j5 w nm fn aa an ac;obtain⟨a0,a1,_,_⟩:=bi x0;have HW:((w.alloc (bj nm fn)).alloc (.cells #[.slice aa an ac] 27)).alloc (bj ⟨#[]⟩ 0)=oN w nm fn aa an ac:=rfl;generalize oN w nm fn aa an ac=W1 at *
 have HT:=hid (ht W1 (h.later B0) (aA hrow (fun B hB=>B0.block B (ay hrow hB))) x1)
 have BW:=hid B0;clear ht h B0 hrow
 go_enter Tryz.func149,Tryz.ntmps149
 exact CK
theorem Af(h:Wr w R g cap bs)(hb:bs.length+200≤1099511627776)(hl:ys.length=an)(han:an≤100000)(hrow:w.ownsRow 0 83 2 (.slice aa an ac) an (ys.flatMap fM))(hne:∀b,aa=some b→b.block≠R∧b.block≠g)
  (hf0:-9223372036854775808≤fn) (hf1:fn<9223372036854775808) (hnf0:0≤nf) (hnf:nf<9223372036854775808) (hx:fk nf ys (nm,fn)=0) :
  Calls Tryz.prog 149 #[cW R,.agg #[.string nm,.int .i64 fn],.slice aa an ac,.int .i64 nf] w (pA R g bs (eA (nm,fn)) (.agg #[.string nm,.int .i64 fn]) w):=by
 have hx':nm.size≤32∧jb nm=true∧gg ys nm=false∧0≤fn∧fn<nf:=by
  unfold fk dw at hx
  simp only at hx
  split at hx
  ·cases hx
  ·split at hx
   ·cases hx
   ·split at hx
    ·cases hx
    ·split at hx
     ·cases hx
     ·refine⟨ae,by simp_all,by simp_all,ae,ae⟩
 obtain⟨s1,n1,o1,f0,f1⟩:=hx';clear hx;have hmt:=dQ;have hct:=eZ;obtain⟨B0,z0,x0,x1,x2⟩:=j5 w nm fn aa an ac;obtain⟨a0,a1,_,_⟩:=bi x0;have HW:((w.alloc (bj nm fn)).alloc (.cells #[.slice aa an ac] 27)).alloc (bj ⟨#[]⟩ 0)=oN w nm fn aa an ac:=rfl;have hRl:=h.lt;have hgl:=h.g_lt;have u1:=fU nm 32 s1;generalize oN w nm fn aa an ac=W1 at *
 have HT:=hid (dU R g cap bs nm 32 199 #[.pointer (some ⟨w.heap.size+1,0,none⟩)] W1 (h.later B0) ae ae ae (fun _ _=>rfl) (nD nm _ (w.heap.size+1) aa an ac ys W1 ae n1 hl han (aA hrow (fun B hB=>B0.block B (ay hrow hB))) o1 x1))
 have BW:=hid B0;clear h B0 hrow
 go_enter Tryz.func149,Tryz.ntmps149
 go_wp2_with fail;refine HT.out.mono ?_;rintro e w2⟨rfl,g1,cap1,hw2,hs2⟩;have y0:=(hs2.block (b:=w.heap.size) ae ae ae).trans x0;have y2:=(hs2.block (b:=w.heap.size+1+1) ae ae ae).trans x2;have n2:w.heap.size+1+1≠g1:=hs2.ne ae ae;obtain⟨b0,b1,_,_⟩:=bi y0;have S2:=hid ((Stp.of_below BW.out).trans hs2);have z2:=hs2.size;have HX:=hid (gI R g1 cap1 (bs++ia nm) fn nf w2 hw2 aI f0 f1 hnf);clear hs2 HT hw2 x0 x1 x2 a0 a1 hmt hct HW;go_wp2_with fail;refine HX.out.mono ?_;rintro e w3⟨rfl,g2,cap2,hw3,hs3⟩;have q2:=(hs3.block (b:=w.heap.size+1+1) ae ae n2).trans y2;have n3:w.heap.size+1+1≠g2:=hs3.ne ae n2;obtain⟨c0,c1,c2,c3⟩:=bi q2;have W3:=hid hw3;have S3:=hid (S2.out.trans hs3);clear hw3 hs3 HX y0 y2 b0 b1;go_wp2_with fail;refine bodyPost_ret (v:=.agg #[.string nm,.int .i64 fn]) ?_ rfl ⟨rfl,g2,cap2,?_,?_⟩
 ·exact cu
 ·have:=(W3.out.set (b:=w.heap.size+1+1) (o:=0) (v:=.string nm) ae n3).set (b:=w.heap.size+1+1) (o:=1) (v:=.int .i64 fn) ae n3
  simpa[eA,List.append_assoc] using this
 ·exact(S3.out.set ae).set ae
theorem FI(h:Wr w R g cap bs)(hb:bs.length+200≤1099511627776)(hl:ys.length=an)(han:an≤100000)(hrow:w.ownsRow 0 83 2 (.slice aa an ac) an (ys.flatMap fM))
  (hf0:-9223372036854775808≤fn) (hf1:fn<9223372036854775808) (hnf0:0≤nf) (hnf:nf<9223372036854775808) (s1:nm.size≤32) (n1:jb nm=true) (o1:gg ys nm=false) (hbad:fn<0∨nf≤fn) :
  Calls Tryz.prog 149 #[cW R,.agg #[.string nm,.int .i64 fn],.slice aa an ac,.int .i64 nf] w (aT R g 30 w):=by
 have hmt:=dQ;have hct:=eZ;obtain⟨B0,z0,x0,x1,x2⟩:=j5 w nm fn aa an ac;obtain⟨a0,a1,_,_⟩:=bi x0;have HW:((w.alloc (bj nm fn)).alloc (.cells #[.slice aa an ac] 27)).alloc (bj ⟨#[]⟩ 0)=oN w nm fn aa an ac:=rfl;have hRl:=h.lt;have hgl:=h.g_lt;generalize oN w nm fn aa an ac=W1 at *
 have HT:=hid (dU R g cap bs nm 32 199 #[.pointer (some ⟨w.heap.size+1,0,none⟩)] W1 (h.later B0) ae ae ae (fun _ _=>rfl) (nD nm _ (w.heap.size+1) aa an ac ys W1 ae n1 hl han (aA hrow (fun B hB=>B0.block B (ay hrow hB))) o1 x1))
 have BW:=hid B0;clear h B0 hrow
 go_enter Tryz.func149,Tryz.ntmps149
 go_wp2_with fail;refine HT.out.mono ?_;rintro e w2⟨rfl,g1,cap1,hw2,hs2⟩;have y0:=(hs2.block (b:=w.heap.size) ae ae ae).trans x0;obtain⟨b0,b1,_,_⟩:=bi y0;have S2:=hid ((Stp.of_below BW.out).trans hs2);have HX:=hid (lj R g1 cap1 _ fn nf w2 hw2 hf0 hf1 hbad hnf0 hnf);clear hs2 HT hw2 x0 x1 x2 a0 a1 hmt hct HW;exact Dl
theorem Ey(h:Wr w R g cap bs)(hb:bs.length+200≤1099511627776)(hs:nm.size≤1000000∨32<nm.size)(hl:ys.length=an)(han:an≤100000)(hrow:w.ownsRow 0 83 2 (.slice aa an ac) an (ys.flatMap fM))
  (hf0:-9223372036854775808≤fn) (hf1:fn<9223372036854775808) (hnf0:0≤nf) (hnf:nf<9223372036854775808) (hx:fk nf ys (nm,fn)≠0) :
  Calls Tryz.prog 149 #[cW R,.agg #[.string nm,.int .i64 fn],.slice aa an ac,.int .i64 nf] w (aT R g (fk nf ys (nm,fn)) w):=by
 unfold fk dw at hx ⊢
 simp only at hx ⊢
 by_cases s1:32<nm.size
 ·rw[if_pos s1]
  exact rQ R g cap bs nm fn nf aa an ac ys w h 13 hrow (fun W hW _ _=>gz R g cap bs nm 32 _ W hW ae)
 rw[if_neg s1]at hx ⊢
 by_cases n1:jb nm=false
 ·rw[if_pos n1]
  exact rQ R g cap bs nm fn nf aa an ac ys w h 23 hrow (fun W hW _ _=>gh R g cap bs nm 32 199 _ 23 W hW ae (fun _ _=>rfl) (ub nm _ _ W ae n1))
 rw[if_neg n1]at hx ⊢
 have n1':jb nm=true:=by simpa using n1
 by_cases o1:gg ys nm=true
 ·rw[if_pos o1]
  exact rQ R g cap bs nm fn nf aa an ac ys w h 18 hrow (fun W hW hr hc=>gh R g cap bs nm 32 199 _ 18 W hW ae (fun _ _=>rfl) (uq nm _ _ aa an ac ys W ae n1' hl han hr o1 hc))
 rw[if_neg o1]at hx ⊢
 have o1':gg ys nm=false:=by simpa using o1
 by_cases f1:fn<0∨nf≤fn
 ·rw[if_pos f1];exact FI R g cap bs nm fn nf aa an ac ys w h hb hl han hrow hf0 hf1 hnf0 hnf ae n1' o1' f1
 ·rw[if_neg f1]at hx; exact absurd rfl hx
end
def iO(ah:List DaM)(v:Int):Bool:=match ah.getLast? with | none=>false | some y=>decide (v≤y.1+(y.2.2.length:Int))
def cX(room:Int)(ah:List DaM)(x:DaM):Int :=
 if x.1<0∨room<x.1 then 17 else if iO ah x.1=true then 18 else if room-x.1<(x.2.2.length:Int) then 13 else if x.2.2.length=0 then 17 else 0
def cN(x:DaM):List Int:=ax x.1++(ax x.2.2.length++x.2.2)
theorem mq{room:Int}{ah:List DaM}{x:DaM}(hr:room≤262144)(h:cX room ah x=0):(cN x).length≤300000:=by
 unfold cX at h
 split at h
 ·cases h
 ·split at h
  ·cases h
  ·split at h
   ·cases h
   ·have a:=aG x.1;have b:=aG x.2.2.length
    simp only[cN,List.length_append]
    omega
theorem x8{xs:List DaM}{ys:List (Int×SL)}{j:Nat}(hj:j≤xs.length)(hl:ys.length=j)(h:∀(i:Nat)y,ys[i]? =some y→∃x,xs[i]? =some x∧AP x y)(v:Int):eU ys v=iO (xs.take j) v:=by
 unfold eU iO
 rcases Nat.eq_zero_or_pos j with h0 | h0
 ·subst h0;have:ys=[]:=List.eq_nil_of_length_eq_zero hl;subst this
  simp
 ·obtain⟨y,hy⟩:∃y,ys[j-1]? =some y:=⟨_,aO ae⟩;obtain⟨x,hx,hok⟩:=h (j-1) y hy
  have e1:ys.getLast? =some y:=by rw[List.getLast?_eq_getElem?,hl]; exact hy
  have e2:(xs.take j).getLast? =some x:=by
   rw[List.getLast?_eq_getElem?,List.length_take];have e:min j xs.length-1=j-1:=ae;rw[e,List.getElem?_take_of_lt ae];exact hx
  rw[e1,e2]
  simp only[hok.1,hok.2]
structure La(w:World)(R g:Nat)(x:DaM):Prop where
 r0:-9223372036854775808≤x.1
 r1:x.1<9223372036854775808
 seg:Seg w x.2.1.1 x.2.1.2.1 x.2.1.2.2 x.2.2
 ne:∀b off c,nz x.2.1.2.1 x.2.1.1=some ⟨b,off,c⟩→b≠R∧b≠g
 lt:∀b off c,nz x.2.1.2.1 x.2.1.1=some ⟨b,off,c⟩→b<w.heap.size
theorem nS(R g cap:Nat)(bs:List Int)(n:Nat)(A:Nat)(w:World)(O:Nat)(fa:Option Addr)(fn fc:Nat)(xs:List Ex)(h:Wr w R g cap bs)(hb:bs.length+300000000000≤1099511627776)(hn:n≤1000)(hA:w.cell? ⟨A,0,none⟩=some (cW R))(hAR:A≠R)(hAg:A≠g)(hO:w.cell? ⟨O,5,none⟩=some (.slice fa fn fc))(hOR:O≠R)(hOg:O≠g)(hfn:fn≤100000)(hr:∀(j:Nat)x,xs[j]? =some x→-9223372036854775808≤x.2∧x.2<9223372036854775808)(hl:xs.length=n)(e:Ex→List Int)(k:Nat)(he:∀(i:Nat)y,xs[i]? =some y→i<k→e y=(eA) y)(hall:∀(i:Nat)y,xs[i]? =some y→i<k→(fun(ah:List Ex) x=>fk fn ah x) (xs.take i) y=0)
  (j:Nat) (x:Ex) (hx:xs[j]? =some x) (hjk:j<k):QN R g w 148 #[.pointer (some ⟨A,0,none⟩),.pointer (some ⟨O,0,none⟩)] bs n xs e (fun x y=>y=x) j x:=by
 intro ys W g1 cap1 aa ac hyl hys hst hwr hrow hab;have hlt:=aK hx;have hchk:=hall j x hx hjk
 try simp only at hchk
 have henc:=he j x hx hjk
 have hlen:((xs.take j).flatMap e).length≤j*100:=by
  have:=dI e 100 (xs.take j) (fun i y hi=>by
   have hij:i<j:=mL;rw[List.getElem?_take_of_lt hij]at hi;rw[he i y hi ae];have hc:=hall i y hi ae
   have hs32:(y).1.size≤32:=by
    exact wS
   have a1:=fU (y).1 32 hs32;have a2:=aG (y).2
   simp only[eA,List.length_append]
   omega)
  exact oZ
 have hu:=aG (n:Int)
 have hbb:(bs++ax n++(xs.take j).flatMap e).length≤bs.length+10+1000*100:=by
  rw[List.length_append,List.length_append];have:j*100≤1000*100:=Nat.mul_le_mul_right _ ae;omega
 have hrx:=hr j x hx;have hye:=ok_eq ae hys;rw[hyl]at hye
 refine(Ba R g1 cap1 _ x aa j ac A O fa fn fc W hwr (hst.cell hA hAR hAg) (hst.cell hO hOR hOg) (fun y=>y=x) (bs++ax n++(xs.take j).flatMap e++e x) (fun W2 hb2=>?_)).mono ?_
 ·refine(Af R g1 cap1 _ x.1 x.2 fn aa j ac ys W2 (hwr.later hb2) ae hyl ae (aA hrow (fun B hB=>hb2.block B (ay hrow hB))) (fun b hb'=>⟨by have q1:=(hab b hb').1; have q2:=h.lt; omega,(hab b hb').2⟩) hrx.1 hrx.2 ae ae (by rw[hye]; exact hchk)).mono ?_
  exact wY
 ·exact uY
theorem xV(R g cap:Nat)(bs:List Int)(ha:Option Addr)(n hc:Nat)(A:Nat)(w:World)(O:Nat)(fa:Option Addr)(fn fc:Nat)(xs:List Ex)(h:Wr w R g cap bs)(hb:bs.length+300000000000≤1099511627776)(hA:w.cell? ⟨A,0,none⟩=some (cW R))(hAR:A≠R)(hAg:A≠g)(hO:w.cell? ⟨O,5,none⟩=some (.slice fa fn fc))(hOR:O≠R)(hOg:O≠g)(hfn:fn≤100000)(hr:∀(j:Nat)x,xs[j]? =some x→-9223372036854775808≤x.2∧x.2<9223372036854775808)(hmem:pB w ha n xs)(hne:∀b off c,ha=some ⟨b,off,c⟩→b≠R∧b≠g)(hx:bB (fun(ah:List Ex) x=>fk fn ah x) 64 xs=0) :
  Calls Tryz.prog 147 #[cW R,.slice ha n hc,.int .i64 64,.func (.func 148) #[] #[.pointer (some ⟨A,0,none⟩),.pointer (some ⟨O,0,none⟩)]] w fun e w'=>∃(aa:Option Addr)(ac:Nat)(ys:List Ex),e=.returned (.slice aa n ac)∧ys.length=n∧(∀(i:Nat)y,ys[i]? =some y→∃x,xs[i]? =some x∧(fun x y=>y=x) x y)∧∃g' cap',Wr w' R g' cap' (bs++(ax n++xs.flatMap (eA)))∧Stp R g g' w w':=by
 have hl:=hmem.1;unfold bB at hx
 split at hx
 ·cases hx
 rename_i hm
 have hall:=bp (fun(ah:List Ex) x=>fk fn ah x) xs [] hx
 have hall':∀(i:Nat)y,xs[i]? =some y→(fun(ah:List Ex) x=>fk fn ah x) (xs.take i) y=0:=fun i y hi=>hall i y hi
 refine(yw R g cap bs ha n hc 64 148 _ w xs (eA) (fun x y=>y=x) 100 h ae ae hmem hne (fun _ _=>rfl) (fun j x hj=>by
   have hc:=hall' j x hj
   have hs32:(x).1.size≤32:=by
    exact wS
   have a1:=fU (x).1 32 hs32;have a2:=aG (x).2
   simp only[eA,List.length_append]
   omega) ae ae
  (fun j x hj=>nS R g cap bs n A w O fa fn fc xs h hb ae hA hAR hAg hO hOR hOg hfn hr hl (eA) (j+1) (fun _ _ _ _=>rfl) (fun i y hi _=>hall' i y hi) j x hj ae)).mono ?_
 exact qB
theorem zY(R g cap:Nat)(bs:List Int)(ha:Option Addr)(n hc:Nat)(A:Nat)(w:World)(O:Nat)(fa:Option Addr)(fn fc:Nat)(xs:List Ex)(h:Wr w R g cap bs)(hb:bs.length+300000000000≤1099511627776)(hA:w.cell? ⟨A,0,none⟩=some (cW R))(hAR:A≠R)(hAg:A≠g)(hO:w.cell? ⟨O,5,none⟩=some (.slice fa fn fc))(hOR:O≠R)(hOg:O≠g)(hfn:fn≤100000)(hr:∀(j:Nat)x,xs[j]? =some x→-9223372036854775808≤x.2∧x.2<9223372036854775808)(hmem:pB w ha n xs)(hne:∀b off c,ha=some ⟨b,off,c⟩→b≠R∧b≠g)(hx:bB (fun(ah:List Ex) x=>fk fn ah x) 64 xs≠0) :
  Calls Tryz.prog 147 #[cW R,.slice ha n hc,.int .i64 64,.func (.func 148) #[] #[.pointer (some ⟨A,0,none⟩),.pointer (some ⟨O,0,none⟩)]] w (aT R g (bB (fun(ah:List Ex) x=>fk fn ah x) 64 xs) w):=by
 have hl:=hmem.1;unfold bB at hx ⊢
 by_cases hm:(64:Int)<xs.length
 ·rw[if_pos hm];exact uK R g cap bs ha n hc 64 _ w h ae
 rw[if_neg hm]at hx ⊢
 obtain⟨k,x,h1,h2,h3,h4⟩:=dW (fun(ah:List Ex) x=>fk fn ah x) xs [] hx
 have hall:=bp (fun(ah:List Ex) x=>fk fn ah x) (xs.take k) [] h2
 have hall':∀(i:Nat)y,xs[i]? =some y→i<k→(fun(ah:List Ex) x=>fk fn ah x) (xs.take i) y=0:=fun i y hi hik=>by
  exact wh
 rw[h4];try simp only[List.nil_append]at h3 ⊢
 obtain⟨E,hE⟩:∃E:Ex→List Int,E=fun y=>if ((eA) y).length≤100 then (eA) y else []:=⟨_,rfl⟩
 have hEl:∀y,(E y).length≤100:=fun y=>by
  rw[hE]
  show(if ((eA) y).length≤100 then (eA) y else []).length≤100
  split
  ·assumption
  ·simp
 have hEe:∀(i:Nat)z,xs[i]? =some z→i<k→E z=(eA) z:=fun i z hi hik=>by
  have hc:=hall' i z hi hik
  have hq:((eA) z).length≤100:=by
   have hs32:(z).1.size≤32:=by
    exact wS
   have a1:=fU (z).1 32 hs32;have a2:=aG (z).2
   simp only[eA,List.length_append]
   omega
  rw[hE];exact if_pos hq
 refine Ap R g cap bs ha n hc 64 148 _ w xs E (fun x y=>y=x) 100 h ae ae hmem hne (fun _ _=>rfl) (fun j y hj=>hEl y) ae ae k x _ h1
  (fun j y hj hjk=>nS R g cap bs n A w O fa fn fc xs h hb ae hA hAR hAg hO hOR hOg hfn hr hl E k hEe hall' j y hj hjk) ?_
 intro ys W g1 cap1 aa ac hyl hys hst hwr hrow hab;have hlt:=aK h1;have hu:=aG (n:Int)
 have hbb:(bs++ax n++(xs.take k).flatMap E).length≤bs.length+10+1000*100:=by
  have hf:=dI E 100 (xs.take k) (fun i y _=>hEl y)
  rw[List.length_take]at hf;have e1:min k xs.length=k:=ae;rw[e1]at hf;rw[List.length_append,List.length_append];have:k*100≤1000*100:=Nat.mul_le_mul_right _ ae;omega
 have hrx:=hr k x h1;have hye:=ok_eq ae hys;rw[hyl]at hye
 refine Fj R g1 cap1 _ x aa k ac A O fa fn fc W hwr (hst.cell hA hAR hAg) (hst.cell hO hOR hOg) _ (fun W2 hb2=>?_)
 rw[← hye]at h3 ⊢
 exact Ey R g1 cap1 _ x.1 x.2 fn aa k ac ys W2 (hwr.later hb2) ae ae hyl ae (aA hrow (fun B hB=>hb2.block B (ay hrow hB))) hrx.1 hrx.2 ae ae h3
theorem ul(R g cap:Nat)(bs:List Int)(n:Nat)(A:Nat)(w:World)(O:Nat)(fi:Int)(xs:List DaM)(h:Wr w R g cap bs)(hb:bs.length+300000000000≤1099511627776)(hn:n≤1000)(hA:w.cell? ⟨A,0,none⟩=some (cW R))(hAR:A≠R)(hAg:A≠g)(hO:w.cell? ⟨O,3,none⟩=some (.int .i64 fi))(hOR:O≠R)(hOg:O≠g)(hf0:0≤fi)(hf1:fi≤64)(hr:∀(j:Nat)x,xs[j]? =some x→La w R g x)(hl:xs.length=n)(e:DaM→List Int)(k:Nat)(he:∀(i:Nat)y,xs[i]? =some y→i<k→e y=(cN) y)(hall:∀(i:Nat)y,xs[i]? =some y→i<k→(fun(ah:List DaM) x=>cX (fi*4096) ah x) (xs.take i) y=0)
  (j:Nat) (x:DaM) (hx:xs[j]? =some x) (hjk:j<k):QZ R g w 145 #[.pointer (some ⟨A,0,none⟩),.pointer (some ⟨O,0,none⟩)] bs n xs e (AP) j x:=by
 intro ys W g1 cap1 aa ac hyl hys hst hwr hrow hab;have hlt:=aK hx;have hchk:=hall j x hx hjk
 try simp only at hchk
 have henc:=he j x hx hjk
 have hlen:((xs.take j).flatMap e).length≤j*300000:=by
  have:=dI e 300000 (xs.take j) (fun i y hi=>by
   have hij:i<j:=mL;rw[List.getElem?_take_of_lt hij]at hi;rw[he i y hi ae];have hc:=hall i y hi ae;exact mq ae hc)
  exact oZ
 have hu:=aG (n:Int)
 have hbb:(bs++ax n++(xs.take j).flatMap e).length≤bs.length+10+1000*300000:=by
  rw[List.length_append,List.length_append];have:j*300000≤1000*300000:=Nat.mul_le_mul_right _ ae;omega
 have hrx:=hr j x hx;have hti:=x8 ae hyl hys
 have hys':∀y∈ys,0≤y.1∧y.1≤1099511627776∧y.2.2.1≤1099511627776:=fun y hy=>by
  obtain⟨i,hi,rfl⟩:=List.getElem_of_mem hy;obtain⟨x',hx',hok⟩:=hys i _ (aO hi);have hcx:=hall i x' hx' ae;exact Df
 have hc2:(0≤x.1∧x.1≤fi*4096)∧iO (xs.take j) x.1=false∧(x.2.2.length:Int)≤fi*4096-x.1∧x.2.2.length≠0:=by
  unfold cX at hchk
  split at hchk
  ·cases hchk
  ·split at hchk
   ·cases hchk
   ·split at hchk
    ·cases hchk
    ·split at hchk
     ·cases hchk
     ·rename_i q1 q2 q3 q4
      exact⟨⟨ae,ae⟩,by simpa using q2,ae,q4⟩
 refine(zt R g1 cap1 _ x aa j ac A O fi W hwr (hst.cell hA hAR hAg) (hst.cell hO hOR hOg) hf0 hf1 (fun y=>AP x y) (bs++ax n++(xs.take j).flatMap e++e x) (fun W2 hb2=>?_)).mono ?_
 ·refine(xN R g1 cap1 _ x.1 (fi*4096) x.2.1.1 x.2.1.2.1 x.2.1.2.2 x.2.2 aa j ac ys W2 (hwr.later hb2) ae ae ae hc2.1.1 hc2.1.2 hyl ae hys' (aA hrow (fun B hB=>hb2.block B (ay hrow hB))) (by rw[hti]; exact hc2.2.1)
   ((hrx.seg.kept' hst.k (fun b off c hb'=>by have:=hrx.ne b off c hb'; simp; omega)).later hb2 (Nat.le_refl _)) (fun b off c hb'=>⟨(hrx.ne b off c hb').1,hst.ne (hrx.lt b off c hb') (hrx.ne b off c hb').2⟩) hc2.2.2.1 hc2.2.2.2).mono ?_
  rintro e' w' ⟨y,he',hy,g',cap',hw',hs'⟩;refine⟨y,he',hy,g',cap',?_,hs'⟩;rw[henc];exact hw'
 ·exact uY
theorem Jn(R g cap:Nat)(bs:List Int)(ha:Option Addr)(n hc:Nat)(A:Nat)(w:World)(O:Nat)(fi:Int)(xs:List DaM)(h:Wr w R g cap bs)(hb:bs.length+300000000000≤1099511627776)(hA:w.cell? ⟨A,0,none⟩=some (cW R))(hAR:A≠R)(hAg:A≠g)(hO:w.cell? ⟨O,3,none⟩=some (.int .i64 fi))(hOR:O≠R)(hOg:O≠g)(hf0:0≤fi)(hf1:fi≤64)(hr:∀(j:Nat)x,xs[j]? =some x→La w R g x)(hmem:pF w ha n xs)(hne:∀b off c,ha=some ⟨b,off,c⟩→b≠R∧b≠g)(hx:bB (fun(ah:List DaM) x=>cX (fi*4096) ah x) 64 xs=0) :
  Calls Tryz.prog 144 #[cW R,.slice ha n hc,.int .i64 64,.func (.func 145) #[] #[.pointer (some ⟨A,0,none⟩),.pointer (some ⟨O,0,none⟩)]] w fun e w'=>∃(aa:Option Addr)(ac:Nat)(ys:List (Int×SL)),e=.returned (.slice aa n ac)∧ys.length=n∧(∀(i:Nat)y,ys[i]? =some y→∃x,xs[i]? =some x∧(AP) x y)∧∃g' cap',Wr w' R g' cap' (bs++(ax n++xs.flatMap (cN)))∧Stp R g g' w w':=by
 have hl:=hmem.1;unfold bB at hx
 split at hx
 ·cases hx
 rename_i hm
 have hall:=bp (fun(ah:List DaM) x=>cX (fi*4096) ah x) xs [] hx
 have hall':∀(i:Nat)y,xs[i]? =some y→(fun(ah:List DaM) x=>cX (fi*4096) ah x) (xs.take i) y=0:=fun i y hi=>hall i y hi
 refine(yh R g cap bs ha n hc 64 145 _ w xs (cN) (AP) 300000 h ae ae hmem hne (fun _ _=>rfl) (fun j x hj=>by
   have hc:=hall' j x hj;exact mq ae hc) ae ae
  (fun j x hj=>ul R g cap bs n A w O fi xs h hb ae hA hAR hAg hO hOR hOg hf0 hf1 hr hl (cN) (j+1) (fun _ _ _ _=>rfl) (fun i y hi _=>hall' i y hi) j x hj ae)).mono ?_
 exact qB
theorem Mw(R g cap:Nat)(bs:List Int)(ha:Option Addr)(n hc:Nat)(A:Nat)(w:World)(O:Nat)(fi:Int)(xs:List DaM)(h:Wr w R g cap bs)(hb:bs.length+300000000000≤1099511627776)(hA:w.cell? ⟨A,0,none⟩=some (cW R))(hAR:A≠R)(hAg:A≠g)(hO:w.cell? ⟨O,3,none⟩=some (.int .i64 fi))(hOR:O≠R)(hOg:O≠g)(hf0:0≤fi)(hf1:fi≤64)(hr:∀(j:Nat)x,xs[j]? =some x→La w R g x)(hmem:pF w ha n xs)(hne:∀b off c,ha=some ⟨b,off,c⟩→b≠R∧b≠g)(hx:bB (fun(ah:List DaM) x=>cX (fi*4096) ah x) 64 xs≠0) :
  Calls Tryz.prog 144 #[cW R,.slice ha n hc,.int .i64 64,.func (.func 145) #[] #[.pointer (some ⟨A,0,none⟩),.pointer (some ⟨O,0,none⟩)]] w (aT R g (bB (fun(ah:List DaM) x=>cX (fi*4096) ah x) 64 xs) w):=by
 have hl:=hmem.1;unfold bB at hx ⊢
 by_cases hm:(64:Int)<xs.length
 ·rw[if_pos hm];exact vK R g cap bs ha n hc 64 _ w h ae
 rw[if_neg hm]at hx ⊢
 obtain⟨k,x,h1,h2,h3,h4⟩:=dW (fun(ah:List DaM) x=>cX (fi*4096) ah x) xs [] hx
 have hall:=bp (fun(ah:List DaM) x=>cX (fi*4096) ah x) (xs.take k) [] h2
 have hall':∀(i:Nat)y,xs[i]? =some y→i<k→(fun(ah:List DaM) x=>cX (fi*4096) ah x) (xs.take i) y=0:=fun i y hi hik=>by
  exact wh
 rw[h4];try simp only[List.nil_append]at h3 ⊢
 obtain⟨E,hE⟩:∃E:DaM→List Int,E=fun y=>if ((cN) y).length≤300000 then (cN) y else []:=⟨_,rfl⟩
 have hEl:∀y,(E y).length≤300000:=fun y=>by
  rw[hE]
  show(if ((cN) y).length≤300000 then (cN) y else []).length≤300000
  split
  ·assumption
  ·simp
 have hEe:∀(i:Nat)z,xs[i]? =some z→i<k→E z=(cN) z:=fun i z hi hik=>by
  have hc:=hall' i z hi hik
  have hq:((cN) z).length≤300000:=by
   exact mq ae hc
  rw[hE];exact if_pos hq
 refine zK R g cap bs ha n hc 64 145 _ w xs E (AP) 300000 h ae ae hmem hne (fun _ _=>rfl) (fun j y hj=>hEl y) ae ae k x _ h1
  (fun j y hj hjk=>ul R g cap bs n A w O fi xs h hb ae hA hAR hAg hO hOR hOg hf0 hf1 hr hl E k hEe hall' j y hj hjk) ?_
 intro ys W g1 cap1 aa ac hyl hys hst hwr hrow hab;have hlt:=aK h1;have hu:=aG (n:Int)
 have hbb:(bs++ax n++(xs.take k).flatMap E).length≤bs.length+10+1000*300000:=by
  have hf:=dI E 300000 (xs.take k) (fun i y _=>hEl y)
  rw[List.length_take]at hf;have e1:min k xs.length=k:=ae;rw[e1]at hf;rw[List.length_append,List.length_append];have:k*300000≤1000*300000:=Nat.mul_le_mul_right _ ae;omega
 have hrx:=hr k x h1;have hti:=x8 ae hyl hys
 have hys':∀y∈ys,0≤y.1∧y.1≤1099511627776∧y.2.2.1≤1099511627776:=fun y hy=>by
  obtain⟨i,hi,rfl⟩:=List.getElem_of_mem hy;obtain⟨x',hx',hok⟩:=hys i _ (aO hi);have hcx:=hall' i x' hx' ae;exact Df
 have heq:cX (fi*4096) (xs.take k) x=jz (fi*4096) ys x.1 x.2.2.length:=by
  unfold cX jz;rw[hti]
 rw[heq]at h3 ⊢
 refine EO R g1 cap1 _ x aa k ac A O fi W hwr (hst.cell hA hAR hAg) (hst.cell hO hOR hOg) hf0 hf1 _ (fun W2 hb2=>?_)
 exact zF R g1 cap1 _ x.1 (fi*4096) x.2.1.1 x.2.1.2.1 x.2.1.2.2 x.2.2 aa k ac ys W2 (hwr.later hb2) ae ae ae hrx.r0 hrx.r1 hyl ae hys' (aA hrow (fun B hB=>hb2.block B (ay hrow hB)))
   ((hrx.seg.kept' hst.k (fun b off c hb'=>by have:=hrx.ne b off c hb'; simp; omega)).later hb2 (Nat.le_refl _)) (fun b off c hb'=>⟨(hrx.ne b off c hb').1,hst.ne (hrx.lt b off c hb') (hrx.ne b off c hb').2⟩) h3
end Go.Proofs.YtheefojaplnnoaaGreatDoor
