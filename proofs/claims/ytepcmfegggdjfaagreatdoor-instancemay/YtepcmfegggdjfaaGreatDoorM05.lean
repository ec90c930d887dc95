/-
  Texts Lex We Sc Wl Lfl Wk Sd.
-/
import Derived.Test.YtepcmfegggdjfaaGreatDoorM00
import Derived.Test.YtepcmfegggdjfaaGreatDoorM01
import Derived.Test.YtepcmfegggdjfaaGreatDoorM03
import Derived.Test.YtepcmfegggdjfaaGreatDoorM04
set_option linter.unusedVariables false
set_option maxRecDepth 100000
set_option maxHeartbeats 16000000
namespace Go.Proofs.YtepcmfegggdjfaaGreatDoor
open Go.Proofs.Tryz
open Go.RowKit
theorem QS:∃i,prog.info? 64=some i/\i.zero=some (.agg #[.string ⟨#[]⟩,.int .i64 0])/\i.size=2/\i.bytes=24:=Co ar
def jw(y:Ex):List Value:=[.string y.1,.int .i64 y.2]
abbrev SY(x:Ex):Value:=.agg #[.string x.1,.int .i64 x.2]
abbrev SQ(y:Ex):Value:=.agg #[.string y.1,.int .i64 y.2]
def qJ(w:World)(a:OAz)(n:Nat)(xs:List Ex):Prop :=
 xs.length=n/\(n=0\/∃b off,a=some ⟨b,off,none⟩/\∀(j:Nat)x,xs[j]? =some x->w.cell? ⟨b,off+j*2,none⟩=some (.string x.1)/\w.cell? ⟨b,off+j*2+1,none⟩=some (.int .i64 x.2))
variable {w w':World}{a:OAz}{n:Nat}
theorem qJ.kept{S:Nat->Prop}{xs:List Ex}(h:qJ w a n xs)(hk:Kept S w w')(hS:∀b off c,a=some ⟨b,off,c⟩->¬S b):qJ w' a n xs:=by
 exact BI
theorem yX(w:World)(y:Ex):∀j u,(jw y)[j]? =some u->(w.alloc (di y.1 y.2)).cell? ((⟨w.heap.size,0,none⟩:Addr).add j)=some u:=by
 intro j u hj;have hlt:=az hj;have hl:(jw y).length=2:=rfl;rw[hl]at hlt;have hadd:(⟨w.heap.size,0,none⟩:Addr).add j=⟨w.heap.size,j,none⟩:=eJ;rw[hadd];have hb:=(MapKept.heap_alloc w (di y.1 y.2)).1;simp only[World.cell?,hb]
 simpa[jw] using hj
theorem Ab(y:Ex):∀u∈jw y,u.oneCell'=true:=by
 intro u hu;simp[jw]at hu
 rcases hu with rfl | rfl <;> rfl
abbrev SA:=@qf Ex Ex jw SY SQ 64 2
namespace LEx
abbrev oC0:=jw
abbrev cL(x:Ex):Obj:=.cells #[.string x.1,.int .i64 x.2] 64
abbrev cM(y:Ex):Obj:=.cells #[.string y.1,.int .i64 y.2] 64
theorem nC(w:World)(y:Ex):∀j u,(jw y)[j]? =some u->(w.alloc (cM y)).cell? ((⟨w.heap.size,0,none⟩:Addr).add j)=some u:=yX w y
theorem oC(y:Ex):∀u∈jw y,u.oneCell'=true:=Ab y
theorem uN:Tryz.prog.underlying 27=some (.slice 64):=Tryz.underlying27
end LEx
open LEx in
theorem zW:oI 115 jw SY SQ qJ 64 2:=by
 intro R g cap bs ha n hc most K cs w xs enc Ok M h hn hm hmem hne hK hlen hM hb heach;have hmc:=bG;have hcc:=cy;have HC:=hid (bU R g cap bs n most w h hm ae ae);have hRl:=h.lt;have hgl:=h.g_lt;have hxl:=hmem.1;have HM:=hid hmem;have HNE:=hid hne;have HE:=hid heach;obtain⟨i0,hi,hz0,hz1,hz2⟩:=QS;clear h hmem heach hne;go_enter Tryz.func115,Tryz.ntmps115
 go_wp2_with fail;refine HC.out.mono ?_;rintro e w2⟨rfl,g1,cap1,hw2,hs2⟩;have W2:=hid hw2;have S2:=hid hs2;clear hw2 hs2 HC hmc hcc;go_wp2_with fail
 go_loopw [9,17] (fun o i wr=>qC oC0 64 2 R g w bs n xs enc Ok n o i wr) (fun _ i _=>n-(intOf i).toNat)
 case atStart=>exact⟨0,[],none,0,g1,cap1,ae,rfl,rfl,rfl,(fun i y h=>fZ),World.ownsRow_nil _ _ _ _,(fun b h=>cm),gJ,S2.out⟩
 case round =>
  exact Ns
open LEx in
theorem Cx:sJ 115 jw SY SQ qJ 64 2:=by
 intro R g cap bs ha n hc most K cs w xs enc Ok M h hn hm hmem hne hK hlen hM hb k xk er hk heach hno;have hkn:=az hk;have hmc:=bG;have hcc:=cy;have HC:=hid (bU R g cap bs n most w h hm ae ae);have hRl:=h.lt;have hgl:=h.g_lt;have hxl:=hmem.1;have HM:=hid hmem;have HNE:=hid hne;have HE:=hid heach;have HN:=hid hno;obtain⟨i0,hi,hz0,hz1,hz2⟩:=QS;clear h hmem heach hne hno;go_enter Tryz.func115,Tryz.ntmps115
 go_wp2_with fail;refine HC.out.mono ?_;rintro e w2⟨rfl,g1,cap1,hw2,hs2⟩;have W2:=hid hw2;have S2:=hid hs2;clear hw2 hs2 HC hmc hcc;go_wp2_with fail
 go_loopw [9,17] (fun o i wr=>qC oC0 64 2 R g w bs n xs enc Ok k o i wr) (fun _ i _=>n-(intOf i).toNat)
 case atStart=>exact⟨0,[],none,0,g1,cap1,ae,rfl,rfl,rfl,(fun i y h=>fZ),World.ownsRow_nil _ _ _ _,(fun b h=>cm),gJ,S2.out⟩
 case round =>
  exact NL
theorem xE(R g cap:Nat)(bs:LIz)(ha:OAz)(n hc:Nat)(most:Int)(f:Value)(w:World)(h:Wr w R g cap bs)(hm:most<(n:Int)) :
  Calls Tryz.prog 115 #[cW R,.slice ha n hc,.int .i64 most,f] w (bo R g 20 w):=by
 have hmc:=bG;have hcc:=cy;have HC:=hid (eZ R g cap bs n most w h hm);clear h;go_enter Tryz.func115,Tryz.ntmps115;exact jO
theorem pE(s:BAz)(w:World)(hs:s.size<=1000000):Calls Tryz.prog 147 #[.string s] w fun e w'=>e=.returned (.bool (jX s))/\Below w.heap.size w w':=by
 obtain⟨c,W,hrun,hseg,hbl,hsz⟩:=eD w s hs
 have hc:∀j,j<s.size->W.cell? ⟨w.heap.size,j,none⟩=some (.int .u8 ((aC s).getD j 0)):=by
  rcases hseg.2.2.2.2 with h0 | ⟨b,off,hb,h⟩
  ·intro j hj; omega
  simp at hb;obtain⟨rfl,rfl⟩:=hb;intro j hj;have:=h j hj
  rwa [Nat.zero_add]at this
 have hcap:=hseg.2.1;have hsl:=dz s;have HB:=hid hbl;have HNM:Hid (jX s=((aC s).all (fun b=>decide (33<=b)&&decide (b<=126))&&!s.toList.isEmpty)):=rfl;generalize jX s=N at *;generalize aC s=zs at *;clear hseg hbl;go_enter Tryz.func147,Tryz.ntmps147
 go_wp2_with fail;clear hrun
 go_loopw [8] (fun i wr=>∃j:Nat,j<=s.size/\i=.int .i64 j/\wr=W/\(zs.take j).all (fun b=>decide (33<=b)&&decide (b<=126))=true) (fun i _=>s.size-(intOf i).toNat)
 case atStart=>exact⟨0,ae,rfl,rfl,aw⟩
 case round =>
  obtain⟨j,hj,rfl,rfl,hall⟩:=hrel;have HALL:=hid hall;clear hall
  by_cases hlt:j<s.size
  ·have hcj:=hc j hlt;have hjz:j<zs.length:=ae
   have hgd:zs.getD j 0=zs[j]:=by simp[List.getD,hjz]
   have HZ:=hid hgd;rw[hgd]at hcj;have HJ:=hid (List.take_succ_eq_append_getElem hjz);have HMEM:Hid (zs[j]∈zs):=List.getElem_mem hjz;generalize zs[j]=b at *;clear hgd hc
   by_cases h33:b<33
   ·have d1:decide (b<33)=true:=by simp[h33]
    exact Oz
   have d1:decide (b<33)=false:=aK
   by_cases h126:126<b
   ·have d2:decide (126<b)=true:=by simp[h126]
    exact Oz
   have d2:decide (126<b)=false:=aK;go_wp2_with fail
   go_roundw
   ·refine⟨j+1,ae,rfl,?_,?_⟩
    ·first | rfl | trivial
    rw[HJ.out,List.all_append,HALL.out];simp; omega
   simp[intOf]; omega
  obtain rfl:j=s.size:=ae;have ht:zs.take s.size=zs:=List.take_of_length_le ae;rw[ht]at HALL;go_wp2_with fail;go_ret;refine⟨?_,HB.out⟩;rw[HNM.out,HALL.out];simp
section
variable (s:BAz) (p:Int) (A:Nat) (aa:OAz) (an ac:Nat) (ys:List Ex) (w:World)
theorem Jn(hs:s.size<=1000000)(hn:jX s=false):Calls Tryz.prog 146 #[.string s,.int .i64 p,.pointer (some ⟨A,0,none⟩)] w (mi 23 w):=by
 have HI:=hid (pE s w hs);rw[hn]at HI;go_enter Tryz.func146,Tryz.ntmps146
 go_wp2_with fail;refine HI.out.mono ?_;rintro e w1⟨rfl,hb⟩;have HB:=hid hb;clear hb HI;go_wp2_with fail;refine(fx rfl).mono ?_;rintro e w1⟨rfl,rfl⟩;exact⟨rfl,⟨_,rfl⟩,HB.out⟩
theorem uF(hl:ys.length=an)(hrow:w.ownsRow 0 64 2 (.slice aa an ac) an (ys.flatMap jw))(h0:0<an):∃B y,aa=some ⟨B,0,none⟩/\ys.getLast? =some y/\w.cell? ⟨B,(an-1)*2,none⟩=some (.string y.1):=by
 obtain⟨y,hy⟩:∃y,ys[an-1]? =some y:=⟨_,aY ae⟩;obtain⟨B,hB,hc⟩:=jt (oc:=jw) (t:=0) (u:=.string y.1) (fun _=>rfl) hrow hy rfl;refine⟨B,y,hB,?_,hc⟩;rw[List.getLast?_eq_getElem?,hl];exact hy
theorem tN(hs:s.size<=1000000)(hn:jX s=true)(hl:ys.length=an)(han:an<=100000)(hrow:w.ownsRow 0 64 2 (.slice aa an ac) an (ys.flatMap jw))(ho:gT ys s=false)(hA:w.cell? ⟨A,0,none⟩=some (.slice aa an ac)) :
  Calls Tryz.prog 146 #[.string s,.int .i64 p,.pointer (some ⟨A,0,none⟩)] w (mh w):=by
 have HI:=hid (pE s w hs);rw[hn]at HI;have hAl:=block_lt_of_cell hA;have HA:=hid hA;have HR:=hid hrow;clear hA hrow;go_enter Tryz.func146,Tryz.ntmps146
 go_wp2_with fail;refine HI.out.mono ?_;rintro e w1⟨rfl,hb⟩;have HB:=hid hb
 have hA1:=(hb.cell (by exact hAl)).trans HA.out;have R1:=hid (br HR.out (fun B hB=>hb.block B (aW HR.out hB)));clear hb HI
 by_cases h0:an=0
 ·subst h0;go_wp2_with fail;refine(cS rfl).mono ?_;rintro e w1⟨rfl,rfl⟩;go_wp2_with fail;refine(cS rfl).mono ?_;rintro e w1⟨rfl,rfl⟩;go_wp2_with fail;go_end0;exact⟨rfl,HB.out⟩
 obtain⟨B,y,rfl,hy,hcell⟩:=uF aa an ac ys w1 hl R1.out ae
 have hg:(!Op.bytesLess s.toList y.1.toList&&!s.toList==y.1.toList)=true:=by
  have:=ho;unfold gT at this;rw[hy]at this
  simpa[sGt] using this
 have hz:((an:Int)==0)=false:=aK;go_wp2_with fail;refine(cS rfl).mono ?_;rintro e w1⟨rfl,rfl⟩;go_wp2_with fail
 refine(cS (by first | rfl | exact hg)).mono ?_
 rintro e w1⟨rfl,rfl⟩;go_wp2_with fail;go_end0;exact⟨rfl,HB.out⟩
theorem Ju(hs:s.size<=1000000)(hn:jX s=true)(hl:ys.length=an)(han:an<=100000)(hrow:w.ownsRow 0 64 2 (.slice aa an ac) an (ys.flatMap jw))(ho:gT ys s=true)(hA:w.cell? ⟨A,0,none⟩=some (.slice aa an ac)) :
  Calls Tryz.prog 146 #[.string s,.int .i64 p,.pointer (some ⟨A,0,none⟩)] w (mi 18 w):=by
 have HI:=hid (pE s w hs);rw[hn]at HI;have hAl:=block_lt_of_cell hA;have HA:=hid hA;have HR:=hid hrow;clear hA hrow;go_enter Tryz.func146,Tryz.ntmps146
 go_wp2_with fail;refine HI.out.mono ?_;rintro e w1⟨rfl,hb⟩;have HB:=hid hb
 have hA1:=(hb.cell (by exact hAl)).trans HA.out;have R1:=hid (br HR.out (fun B hB=>hb.block B (aW HR.out hB)));clear hb HI
 have h0:0<an:=by
  rcases Nat.eq_zero_or_pos an with h | h
  ·have:ys=[]:=List.eq_nil_of_length_eq_zero ae;subst this
   simp[gT]at ho
  exact h
 obtain⟨B,y,rfl,hy,hcell⟩:=uF aa an ac ys w1 hl R1.out h0
 have hg:(!Op.bytesLess s.toList y.1.toList&&!s.toList==y.1.toList)=false:=by
  have:=ho;unfold gT at this;rw[hy]at this
  cases hq:(!Op.bytesLess s.toList y.1.toList&&!s.toList==y.1.toList)
  ·rfl
  simp[sGt,hq]at this
 have hz:((an:Int)==0)=false:=aK;go_wp2_with fail;refine(cS rfl).mono ?_;rintro e w1⟨rfl,rfl⟩;go_wp2_with fail
 refine(fx (by first | rfl | exact hg)).mono ?_
 rintro e w1⟨rfl,rfl⟩;exact⟨rfl,⟨_,rfl⟩,HB.out⟩
end
def qA(w:World)(nm:BAz)(fn:Int)(aa:OAz)(an ac:Nat):World :=
 ((w.alloc (di nm fn)).alloc (.cells #[.slice aa an ac] 27)).alloc (di ⟨#[]⟩ 0)
theorem mC(w:World)(nm:BAz)(fn:Int)(aa:OAz)(an ac:Nat):Below w.heap.size w (qA w nm fn aa an ac)/\(qA w nm fn aa an ac).heap.size=w.heap.size+1+1+1 /\
  (qA w nm fn aa an ac).heap[w.heap.size]? =some (di nm fn)/\(qA w nm fn aa an ac).cell? ⟨w.heap.size+1,0,none⟩=some (.slice aa an ac)/\(qA w nm fn aa an ac).heap[w.heap.size+1+1]? =some (di ⟨#[]⟩ 0):=by
 unfold qA;refine⟨(((Below.refl _ w).alloc lRn _).alloc aw _).alloc dC _,aw,?_,aG,?_⟩
 ·rw[(aj ((w.alloc (di nm fn)).alloc (.cells #[.slice aa an ac] 27)) _).block w.heap.size dC,(aj (w.alloc (di nm fn)) _).block w.heap.size aw];exact(MapKept.heap_alloc w _).1
 have:=(MapKept.heap_alloc ((w.alloc (di nm fn)).alloc (.cells #[.slice aa an ac] 27)) (di ⟨#[]⟩ 0)).1;exact cF
section
variable (R g cap:Nat) (bs:LIz) (nm:BAz) (fn nf:Int) (aa:OAz) (an ac:Nat) (ys:List Ex) (w:World)
theorem sY(h:Wr w R g cap bs)(x:Int)(hrow:w.ownsRow 0 64 2 (.slice aa an ac) an (ys.flatMap jw))
  (ht:∀W,Wr W R g cap bs->W.ownsRow 0 64 2 (.slice aa an ac) an (ys.flatMap jw)->W.cell? ⟨w.heap.size+1,0,none⟩=some (.slice aa an ac)->Calls Tryz.prog 207 #[.pointer (some ⟨R,0,none⟩),.string nm,.int .i64 32,.func (.func 146) #[] #[.pointer (some ⟨w.heap.size+1,0,none⟩)]] W (bo R g x W)) :
  Calls Tryz.prog 117 #[cW R,.agg #[.string nm,.int .i64 fn],.slice aa an ac,.int .i64 nf] w (bo R g x w):=by
 have hmt:=dX;have hct:=eN;obtain⟨B0,z0,x0,x1,x2⟩:=mC w nm fn aa an ac;obtain⟨a0,a1,_,_⟩:=cE x0;have HW:((w.alloc (di nm fn)).alloc (.cells #[.slice aa an ac] 27)).alloc (di ⟨#[]⟩ 0)=qA w nm fn aa an ac:=rfl;generalize qA w nm fn aa an ac=W1 at *;have HT:=hid (ht W1 (h.later B0) (br hrow (fun B hB=>B0.block B (aW hrow hB))) x1);have BW:=hid B0;clear ht h B0 hrow;go_enter Tryz.func117,Tryz.ntmps117;exact Fh
theorem Cy(h:Wr w R g cap bs)(hb:bs.length+200<=1099511627776)(hl:ys.length=an)(han:an<=100000)(hrow:w.ownsRow 0 64 2 (.slice aa an ac) an (ys.flatMap jw))(hne:∀b,aa=some b->b.block≠R/\b.block≠g)
  (hf0:-9223372036854775808<=fn) (hf1:fn<9223372036854775808) (hnf0:0<=nf) (hnf:nf<9223372036854775808) (hx:dO nf ys (nm,fn)=0) :
  Calls Tryz.prog 117 #[cW R,.agg #[.string nm,.int .i64 fn],.slice aa an ac,.int .i64 nf] w (pH R g bs (dP (nm,fn)) (.agg #[.string nm,.int .i64 fn]) w):=by
 have hx':nm.size<=32/\jX nm=true/\gT ys nm=false/\0<=fn/\fn<nf:=by
  unfold dO bD at hx;simp only at hx
  split at hx
  ·cases hx
  split at hx
  ·cases hx
  split at hx
  ·cases hx
  split at hx
  ·cases hx
  refine⟨ae,by simp_all,by simp_all,ae,ae⟩
 obtain⟨s1,n1,o1,f0,f1⟩:=hx';clear hx;have hmt:=dX;have hct:=eN;obtain⟨B0,z0,x0,x1,x2⟩:=mC w nm fn aa an ac;obtain⟨a0,a1,_,_⟩:=cE x0;have HW:((w.alloc (di nm fn)).alloc (.cells #[.slice aa an ac] 27)).alloc (di ⟨#[]⟩ 0)=qA w nm fn aa an ac:=rfl;have hRl:=h.lt;have hgl:=h.g_lt;have u1:=dD nm 32 s1;generalize qA w nm fn aa an ac=W1 at *;have HT:=hid (ek R g cap bs nm 32 146 #[.pointer (some ⟨w.heap.size+1,0,none⟩)] W1 (h.later B0) ae ae ae (fun _ _=>rfl) (tN nm _ (w.heap.size+1) aa an ac ys W1 ae n1 hl han (br hrow (fun B hB=>B0.block B (aW hrow hB))) o1 x1));have BW:=hid B0;clear h B0 hrow;go_enter Tryz.func117,Tryz.ntmps117
 go_wp2_with fail;refine HT.out.mono ?_;rintro e w2⟨rfl,g1,cap1,hw2,hs2⟩;have y0:=(hs2.block (b:=w.heap.size) ae ae ae).trans x0;have y2:=(hs2.block (b:=w.heap.size+1+1) ae ae ae).trans x2;have n2:w.heap.size+1+1≠g1:=hs2.ne ae ae;obtain⟨b0,b1,_,_⟩:=cE y0;have S2:=hid ((Stp.of_below BW.out).trans hs2);have z2:=hs2.size;have HX:=hid (gN R g1 cap1 (bs++fK nm) fn nf w2 hw2 aK f0 f1 hnf);clear hs2 HT hw2 x0 x1 x2 a0 a1 hmt hct HW;go_wp2_with fail;refine HX.out.mono ?_;rintro e w3⟨rfl,g2,cap2,hw3,hs3⟩;have q2:=(hs3.block (b:=w.heap.size+1+1) ae ae n2).trans y2;have n3:w.heap.size+1+1≠g2:=hs3.ne ae n2;obtain⟨c0,c1,c2,c3⟩:=cE q2;have W3:=hid hw3;have S3:=hid (S2.out.trans hs3);clear hw3 hs3 HX y0 y2 b0 b1;go_wp2_with fail;refine bodyPost_ret (v:=.agg #[.string nm,.int .i64 fn]) ?_ rfl ⟨rfl,g2,cap2,?_,?_⟩
 ·exact dF
 ·have:=(W3.out.set (b:=w.heap.size+1+1) (o:=0) (v:=.string nm) ae n3).set (b:=w.heap.size+1+1) (o:=1) (v:=.int .i64 fn) ae n3
  simpa[dP,List.append_assoc] using this
 exact(S3.out.set ae).set ae
theorem Ji(h:Wr w R g cap bs)(hb:bs.length+200<=1099511627776)(hl:ys.length=an)(han:an<=100000)(hrow:w.ownsRow 0 64 2 (.slice aa an ac) an (ys.flatMap jw))
  (hf0:-9223372036854775808<=fn) (hf1:fn<9223372036854775808) (hnf0:0<=nf) (hnf:nf<9223372036854775808) (s1:nm.size<=32) (n1:jX nm=true) (o1:gT ys nm=false) (hbad:fn<0\/nf<=fn) :
  Calls Tryz.prog 117 #[cW R,.agg #[.string nm,.int .i64 fn],.slice aa an ac,.int .i64 nf] w (bo R g 30 w):=by
 have hmt:=dX;have hct:=eN;obtain⟨B0,z0,x0,x1,x2⟩:=mC w nm fn aa an ac;obtain⟨a0,a1,_,_⟩:=cE x0;have HW:((w.alloc (di nm fn)).alloc (.cells #[.slice aa an ac] 27)).alloc (di ⟨#[]⟩ 0)=qA w nm fn aa an ac:=rfl;have hRl:=h.lt;have hgl:=h.g_lt;generalize qA w nm fn aa an ac=W1 at *;have HT:=hid (ek R g cap bs nm 32 146 #[.pointer (some ⟨w.heap.size+1,0,none⟩)] W1 (h.later B0) ae ae ae (fun _ _=>rfl) (tN nm _ (w.heap.size+1) aa an ac ys W1 ae n1 hl han (br hrow (fun B hB=>B0.block B (aW hrow hB))) o1 x1));have BW:=hid B0;clear h B0 hrow;go_enter Tryz.func117,Tryz.ntmps117
 go_wp2_with fail;refine HT.out.mono ?_;rintro e w2⟨rfl,g1,cap1,hw2,hs2⟩;have y0:=(hs2.block (b:=w.heap.size) ae ae ae).trans x0;obtain⟨b0,b1,_,_⟩:=cE y0;have S2:=hid ((Stp.of_below BW.out).trans hs2);have HX:=hid (ly R g1 cap1 _ fn nf w2 hw2 hf0 hf1 hbad hnf0 hnf);clear hs2 HT hw2 x0 x1 x2 a0 a1 hmt hct HW;exact FY
theorem Hv(h:Wr w R g cap bs)(hb:bs.length+200<=1099511627776)(hs:nm.size<=1000000\/32<nm.size)(hl:ys.length=an)(han:an<=100000)(hrow:w.ownsRow 0 64 2 (.slice aa an ac) an (ys.flatMap jw))
  (hf0:-9223372036854775808<=fn) (hf1:fn<9223372036854775808) (hnf0:0<=nf) (hnf:nf<9223372036854775808) (hx:dO nf ys (nm,fn)≠0) :
  Calls Tryz.prog 117 #[cW R,.agg #[.string nm,.int .i64 fn],.slice aa an ac,.int .i64 nf] w (bo R g (dO nf ys (nm,fn)) w):=by
 unfold dO bD at hx ⊢;simp only at hx ⊢
 by_cases s1:32<nm.size
 ·rw[if_pos s1]
  exact sY R g cap bs nm fn nf aa an ac ys w h 13 hrow (fun W hW _ _=>gM R g cap bs nm 32 _ W hW ae)
 rw[if_neg s1]at hx ⊢
 by_cases n1:jX nm=false
 ·rw[if_pos n1]
  exact sY R g cap bs nm fn nf aa an ac ys w h 23 hrow (fun W hW _ _=>gj R g cap bs nm 32 146 _ 23 W hW ae (fun _ _=>rfl) (Jn nm _ _ W ae n1))
 rw[if_neg n1]at hx ⊢
 have n1':jX nm=true:=by simpa using n1
 by_cases o1:gT ys nm=true
 ·rw[if_pos o1]
  exact sY R g cap bs nm fn nf aa an ac ys w h 18 hrow (fun W hW hr hc=>gj R g cap bs nm 32 146 _ 18 W hW ae (fun _ _=>rfl) (Ju nm _ _ aa an ac ys W ae n1' hl han hr o1 hc))
 rw[if_neg o1]at hx ⊢
 have o1':gT ys nm=false:=by simpa using o1
 by_cases f1:fn<0\/nf<=fn
 ·rw[if_pos f1];exact Ji R g cap bs nm fn nf aa an ac ys w h hb hl han hrow hf0 hf1 hnf0 hnf ae n1' o1' f1
 rw[if_neg f1]at hx; exact absurd rfl hx
end
def fJ(ah:List DaM)(v:Int):Bool:=match ah.getLast? with | none=>false | some y=>decide (v<=y.1+(y.2.2.length:Int))
def cD(room:Int)(ah:List DaM)(x:DaM):Int :=
 if x.1<0\/room<x.1 then 17 else if fJ ah x.1=true then 18 else if room-x.1<(x.2.2.length:Int) then 13 else if x.2.2.length=0 then 17 else 0
def cU(x:DaM):List Int:=ay x.1++(ay x.2.2.length++x.2.2)
variable {room:Int}{x:DaM}
theorem iO{ah:List DaM}(hr:room<=262144)(h:cD room ah x=0):(cU x).length<=300000:=by
 unfold cD at h
 split at h
 ·cases h
 split at h
 ·cases h
 split at h
 ·cases h
 have a:=aF x.1;have b:=aF x.2.2.length;simp only[cU,List.length_append];omega
variable {j:Nat}
theorem Ad{xs:List DaM}{ys:List (Int×SL)}(hj:j<=xs.length)(hl:ys.length=j)(h:∀(i:Nat)y,ys[i]? =some y->∃x,xs[i]? =some x/\BP x y)(v:Int):iG ys v=fJ (xs.take j) v:=by
 unfold iG fJ
 rcases Nat.eq_zero_or_pos j with h0 | h0
 ·subst h0;have:ys=[]:=List.eq_nil_of_length_eq_zero hl;subst this
  simp
 obtain⟨y,hy⟩:∃y,ys[j-1]? =some y:=⟨_,aY ae⟩;obtain⟨x,hx,hok⟩:=h (j-1) y hy
 have e1:ys.getLast? =some y:=by rw[List.getLast?_eq_getElem?,hl]; exact hy
 have e2:(xs.take j).getLast? =some x:=by
  rw[List.getLast?_eq_getElem?,List.length_take];have e:min j xs.length-1=j-1:=ae;rw[e,List.getElem?_take_of_lt ae];exact hx
 rw[e1,e2];simp only[hok.1,hok.2]
structure PL(w:World)(R g:Nat)(x:DaM):Prop where
 r0:-9223372036854775808<=x.1
 r1:x.1<9223372036854775808
 seg:Seg w x.2.1.1 x.2.1.2.1 x.2.1.2.2 x.2.2
 ne:∀b off c,nz x.2.1.2.1 x.2.1.1=some ⟨b,off,c⟩->b≠R/\b≠g
 lt:∀b off c,nz x.2.1.2.1 x.2.1.1=some ⟨b,off,c⟩->b<w.heap.size
theorem oh(R g cap:Nat)(bs:LIz)(n:Nat)(A:Nat)(w:World)(O:Nat)(fa:OAz)(fn fc:Nat)(xs:List Ex)(h:Wr w R g cap bs)(hb:bs.length+300000000000<=1099511627776)(hn:n<=1000)(hA:w.cell? ⟨A,0,none⟩=some (cW R))(hAR:A≠R)(hAg:A≠g)(hO:w.cell? ⟨O,5,none⟩=some (.slice fa fn fc))(hOR:O≠R)(hOg:O≠g)(hfn:fn<=100000)(hr:∀(j:Nat)x,xs[j]? =some x->-9223372036854775808<=x.2/\x.2<9223372036854775808)(hl:xs.length=n)(e:Ex->List Int)(k:Nat)(he:∀(i:Nat)y,xs[i]? =some y->i<k->e y=(dP) y)(hall:∀(i:Nat)y,xs[i]? =some y->i<k->(fun(ah:List Ex) x=>dO fn ah x) (xs.take i) y=0)
  (j:Nat) (x:Ex) (hx:xs[j]? =some x) (hjk:j<k):SA R g w 116 #[.pointer (some ⟨A,0,none⟩),.pointer (some ⟨O,0,none⟩)] bs n xs e (fun x y=>y=x) j x:=by
 intro ys W g1 cap1 aa ac hyl hys hst hwr hrow hab;have hlt:=az hx;have hchk:=hall j x hx hjk
 try simp only at hchk
 have henc:=he j x hx hjk
 have hlen:((xs.take j).flatMap e).length<=j*100:=by
  have:=cH e 100 (xs.take j) (fun i y hi=>by
   have hij:i<j:=mB;rw[List.getElem?_take_of_lt hij]at hi;rw[he i y hi ae];have hc:=hall i y hi ae
   have hs32:(y).1.size<=32:=by
    exact vO
   have a1:=dD (y).1 32 hs32;have a2:=aF (y).2;simp only[dP,List.length_append]
   omega)
  exact oG
 have hu:=aF (n:Int)
 have hbb:(bs++ay n++(xs.take j).flatMap e).length<=bs.length+10+1000*100:=by
  rw[List.length_append,List.length_append];have:j*100<=1000*100:=Nat.mul_le_mul_right _ ae;omega
 have hrx:=hr j x hx;have hye:=ok_eq ae hys;rw[hyl]at hye;refine(CQ R g1 cap1 _ x aa j ac A O fa fn fc W hwr (hst.cell hA hAR hAg) (hst.cell hO hOR hOg) (fun y=>y=x) (bs++ay n++(xs.take j).flatMap e++e x) (fun W2 hb2=>?_)).mono ?_
 ·refine(Cy R g1 cap1 _ x.1 x.2 fn aa j ac ys W2 (hwr.later hb2) ae hyl ae (br hrow (fun B hB=>hb2.block B (aW hrow hB))) (fun b hb'=>⟨by have q1:=(hab b hb').1; have q2:=h.lt; omega,(hab b hb').2⟩) hrx.1 hrx.2 ae ae (by rw[hye]; exact hchk)).mono ?_
  exact vv
 exact xe
theorem Af(R g cap:Nat)(bs:LIz)(ha:OAz)(n hc:Nat)(A:Nat)(w:World)(O:Nat)(fa:OAz)(fn fc:Nat)(xs:List Ex)(h:Wr w R g cap bs)(hb:bs.length+300000000000<=1099511627776)(hA:w.cell? ⟨A,0,none⟩=some (cW R))(hAR:A≠R)(hAg:A≠g)(hO:w.cell? ⟨O,5,none⟩=some (.slice fa fn fc))(hOR:O≠R)(hOg:O≠g)(hfn:fn<=100000)(hr:∀(j:Nat)x,xs[j]? =some x->-9223372036854775808<=x.2/\x.2<9223372036854775808)(hmem:qJ w ha n xs)(hne:∀b off c,ha=some ⟨b,off,c⟩->b≠R/\b≠g)(hx:bK (fun(ah:List Ex) x=>dO fn ah x) 64 xs=0) :
  Calls Tryz.prog 115 #[cW R,.slice ha n hc,.int .i64 64,.func (.func 116) #[] #[.pointer (some ⟨A,0,none⟩),.pointer (some ⟨O,0,none⟩)]] w fun e w'=>∃(aa:OAz)(ac:Nat)(ys:List Ex),e=.returned (.slice aa n ac)/\ys.length=n/\(∀(i:Nat)y,ys[i]? =some y->∃x,xs[i]? =some x/\(fun x y=>y=x) x y)/\∃g' cap',Wr w' R g' cap' (bs++(ay n++xs.flatMap (dP)))/\Stp R g g' w w':=by
 have hl:=hmem.1;unfold bK at hx
 split at hx
 ·cases hx
 rename_i hm;have hall:=bC (fun(ah:List Ex) x=>dO fn ah x) xs [] hx;have hall':∀(i:Nat)y,xs[i]? =some y->(fun(ah:List Ex) x=>dO fn ah x) (xs.take i) y=0:=fun i y hi=>hall i y hi
 refine(zW R g cap bs ha n hc 64 116 _ w xs (dP) (fun x y=>y=x) 100 h ae ae hmem hne (fun _ _=>rfl) (fun j x hj=>by
   have hc:=hall' j x hj
   have hs32:(x).1.size<=32:=by
    exact vO
   have a1:=dD (x).1 32 hs32;have a2:=aF (x).2;simp only[dP,List.length_append]
   omega) ae ae
  (fun j x hj=>oh R g cap bs n A w O fa fn fc xs h hb ae hA hAR hAg hO hOR hOg hfn hr hl (dP) (j+1) (fun _ _ _ _=>rfl) (fun i y hi _=>hall' i y hi) j x hj ae)).mono ?_
 exact qU
theorem BV(R g cap:Nat)(bs:LIz)(ha:OAz)(n hc:Nat)(A:Nat)(w:World)(O:Nat)(fa:OAz)(fn fc:Nat)(xs:List Ex)(h:Wr w R g cap bs)(hb:bs.length+300000000000<=1099511627776)(hA:w.cell? ⟨A,0,none⟩=some (cW R))(hAR:A≠R)(hAg:A≠g)(hO:w.cell? ⟨O,5,none⟩=some (.slice fa fn fc))(hOR:O≠R)(hOg:O≠g)(hfn:fn<=100000)(hr:∀(j:Nat)x,xs[j]? =some x->-9223372036854775808<=x.2/\x.2<9223372036854775808)(hmem:qJ w ha n xs)(hne:∀b off c,ha=some ⟨b,off,c⟩->b≠R/\b≠g)(hx:bK (fun(ah:List Ex) x=>dO fn ah x) 64 xs≠0) :
  Calls Tryz.prog 115 #[cW R,.slice ha n hc,.int .i64 64,.func (.func 116) #[] #[.pointer (some ⟨A,0,none⟩),.pointer (some ⟨O,0,none⟩)]] w (bo R g (bK (fun(ah:List Ex) x=>dO fn ah x) 64 xs) w):=by
 have hl:=hmem.1;unfold bK at hx ⊢
 by_cases hm:(64:Int)<xs.length
 ·rw[if_pos hm];exact xE R g cap bs ha n hc 64 _ w h ae
 rw[if_neg hm]at hx ⊢;obtain⟨k,x,h1,h2,h3,h4⟩:=ej (fun(ah:List Ex) x=>dO fn ah x) xs [] hx;have hall:=bC (fun(ah:List Ex) x=>dO fn ah x) (xs.take k) [] h2
 have hall':∀(i:Nat)y,xs[i]? =some y->i<k->(fun(ah:List Ex) x=>dO fn ah x) (xs.take i) y=0:=fun i y hi hik=>by
  exact uU
 rw[h4];try simp only[List.nil_append]at h3 ⊢
 obtain⟨E,hE⟩:∃E:Ex->List Int,E=fun y=>if ((dP) y).length<=100 then (dP) y else []:=⟨_,rfl⟩
 have hEl:∀y,(E y).length<=100:=fun y=>by
  rw[hE];show(if ((dP) y).length<=100 then (dP) y else []).length<=100
  split
  ·assumption
  simp
 have hEe:∀(i:Nat)z,xs[i]? =some z->i<k->E z=(dP) z:=fun i z hi hik=>by
  have hc:=hall' i z hi hik
  have hq:((dP) z).length<=100:=by
   have hs32:(z).1.size<=32:=by
    exact vO
   have a1:=dD (z).1 32 hs32;have a2:=aF (z).2;simp only[dP,List.length_append];omega
  rw[hE];exact if_pos hq
 refine Cx R g cap bs ha n hc 64 116 _ w xs E (fun x y=>y=x) 100 h ae ae hmem hne (fun _ _=>rfl) (fun j y hj=>hEl y) ae ae k x _ h1
  (fun j y hj hjk=>oh R g cap bs n A w O fa fn fc xs h hb ae hA hAR hAg hO hOR hOg hfn hr hl E k hEe hall' j y hj hjk) ?_
 intro ys W g1 cap1 aa ac hyl hys hst hwr hrow hab;have hlt:=az h1;have hu:=aF (n:Int)
 have hbb:(bs++ay n++(xs.take k).flatMap E).length<=bs.length+10+1000*100:=by
  have hf:=cH E 100 (xs.take k) (fun i y _=>hEl y);rw[List.length_take]at hf;have e1:min k xs.length=k:=ae;rw[e1]at hf;rw[List.length_append,List.length_append];have:k*100<=1000*100:=Nat.mul_le_mul_right _ ae;omega
 have hrx:=hr k x h1;have hye:=ok_eq ae hys;rw[hyl]at hye;refine JU R g1 cap1 _ x aa k ac A O fa fn fc W hwr (hst.cell hA hAR hAg) (hst.cell hO hOR hOg) _ (fun W2 hb2=>?_);rw[<- hye]at h3 ⊢;exact Hv R g1 cap1 _ x.1 x.2 fn aa k ac ys W2 (hwr.later hb2) ae ae hyl ae (br hrow (fun B hB=>hb2.block B (aW hrow hB))) hrx.1 hrx.2 ae ae h3
theorem uE(R g cap:Nat)(bs:LIz)(n:Nat)(A:Nat)(w:World)(O:Nat)(fi:Int)(xs:List DaM)(h:Wr w R g cap bs)(hb:bs.length+300000000000<=1099511627776)(hn:n<=1000)(hA:w.cell? ⟨A,0,none⟩=some (cW R))(hAR:A≠R)(hAg:A≠g)(hO:w.cell? ⟨O,3,none⟩=some (.int .i64 fi))(hOR:O≠R)(hOg:O≠g)(hf0:0<=fi)(hf1:fi<=64)(hr:∀(j:Nat)x,xs[j]? =some x->PL w R g x)(hl:xs.length=n)(e:DaM->List Int)(k:Nat)(he:∀(i:Nat)y,xs[i]? =some y->i<k->e y=(cU) y)(hall:∀(i:Nat)y,xs[i]? =some y->i<k->(fun(ah:List DaM) x=>cD (fi*4096) ah x) (xs.take i) y=0)
  (j:Nat) (x:DaM) (hx:xs[j]? =some x) (hjk:j<k):SD R g w 113 #[.pointer (some ⟨A,0,none⟩),.pointer (some ⟨O,0,none⟩)] bs n xs e (BP) j x:=by
 intro ys W g1 cap1 aa ac hyl hys hst hwr hrow hab;have hlt:=az hx;have hchk:=hall j x hx hjk
 try simp only at hchk
 have henc:=he j x hx hjk
 have hlen:((xs.take j).flatMap e).length<=j*300000:=by
  have:=cH e 300000 (xs.take j) (fun i y hi=>by
   have hij:i<j:=mB;rw[List.getElem?_take_of_lt hij]at hi;rw[he i y hi ae];have hc:=hall i y hi ae;exact iO ae hc)
  exact oG
 have hu:=aF (n:Int)
 have hbb:(bs++ay n++(xs.take j).flatMap e).length<=bs.length+10+1000*300000:=by
  rw[List.length_append,List.length_append];have:j*300000<=1000*300000:=Nat.mul_le_mul_right _ ae;omega
 have hrx:=hr j x hx;have hti:=Ad ae hyl hys
 have hys':∀y∈ys,0<=y.1/\y.1<=1099511627776/\y.2.2.1<=1099511627776:=fun y hy=>by
  obtain⟨i,hi,rfl⟩:=List.getElem_of_mem hy;obtain⟨x',hx',hok⟩:=hys i _ (aY hi);have hcx:=hall i x' hx' ae;exact GJ
 have hc2:(0<=x.1/\x.1<=fi*4096)/\fJ (xs.take j) x.1=false/\(x.2.2.length:Int)<=fi*4096-x.1/\x.2.2.length≠0:=by
  unfold cD at hchk
  split at hchk
  ·cases hchk
  split at hchk
  ·cases hchk
  split at hchk
  ·cases hchk
  split at hchk
  ·cases hchk
  rename_i q1 q2 q3 q4;exact⟨⟨ae,ae⟩,by simpa using q2,ae,q4⟩
 refine(Ct R g1 cap1 _ x aa j ac A O fi W hwr (hst.cell hA hAR hAg) (hst.cell hO hOR hOg) hf0 hf1 (fun y=>BP x y) (bs++ay n++(xs.take j).flatMap e++e x) (fun W2 hb2=>?_)).mono ?_
 ·refine(yR R g1 cap1 _ x.1 (fi*4096) x.2.1.1 x.2.1.2.1 x.2.1.2.2 x.2.2 aa j ac ys W2 (hwr.later hb2) ae ae ae hc2.1.1 hc2.1.2 hyl ae hys' (br hrow (fun B hB=>hb2.block B (aW hrow hB))) (by rw[hti]; exact hc2.2.1)
   ((hrx.seg.kept' hst.k (fun b off c hb'=>by have:=hrx.ne b off c hb'; simp; omega)).later hb2 lRn) (fun b off c hb'=>⟨(hrx.ne b off c hb').1,hst.ne (hrx.lt b off c hb') (hrx.ne b off c hb').2⟩) hc2.2.2.1 hc2.2.2.2).mono ?_
  rintro e' w' ⟨y,he',hy,g',cap',hw',hs'⟩;refine⟨y,he',hy,g',cap',?_,hs'⟩;rw[henc];exact hw'
 exact xe
theorem KU(R g cap:Nat)(bs:LIz)(ha:OAz)(n hc:Nat)(A:Nat)(w:World)(O:Nat)(fi:Int)(xs:List DaM)(h:Wr w R g cap bs)(hb:bs.length+300000000000<=1099511627776)(hA:w.cell? ⟨A,0,none⟩=some (cW R))(hAR:A≠R)(hAg:A≠g)(hO:w.cell? ⟨O,3,none⟩=some (.int .i64 fi))(hOR:O≠R)(hOg:O≠g)(hf0:0<=fi)(hf1:fi<=64)(hr:∀(j:Nat)x,xs[j]? =some x->PL w R g x)(hmem:pS w ha n xs)(hne:∀b off c,ha=some ⟨b,off,c⟩->b≠R/\b≠g)(hx:bK (fun(ah:List DaM) x=>cD (fi*4096) ah x) 64 xs=0) :
  Calls Tryz.prog 112 #[cW R,.slice ha n hc,.int .i64 64,.func (.func 113) #[] #[.pointer (some ⟨A,0,none⟩),.pointer (some ⟨O,0,none⟩)]] w fun e w'=>∃(aa:OAz)(ac:Nat)(ys:List (Int×SL)),e=.returned (.slice aa n ac)/\ys.length=n/\(∀(i:Nat)y,ys[i]? =some y->∃x,xs[i]? =some x/\(BP) x y)/\∃g' cap',Wr w' R g' cap' (bs++(ay n++xs.flatMap (cU)))/\Stp R g g' w w':=by
 have hl:=hmem.1;unfold bK at hx
 split at hx
 ·cases hx
 rename_i hm;have hall:=bC (fun(ah:List DaM) x=>cD (fi*4096) ah x) xs [] hx;have hall':∀(i:Nat)y,xs[i]? =some y->(fun(ah:List DaM) x=>cD (fi*4096) ah x) (xs.take i) y=0:=fun i y hi=>hall i y hi
 refine(Aw R g cap bs ha n hc 64 113 _ w xs (cU) (BP) 300000 h ae ae hmem hne (fun _ _=>rfl) (fun j x hj=>by
   have hc:=hall' j x hj;exact iO ae hc) ae ae
  (fun j x hj=>uE R g cap bs n A w O fi xs h hb ae hA hAR hAg hO hOR hOg hf0 hf1 hr hl (cU) (j+1) (fun _ _ _ _=>rfl) (fun i y hi _=>hall' i y hi) j x hj ae)).mono ?_
 exact qU
theorem O9(R g cap:Nat)(bs:LIz)(ha:OAz)(n hc:Nat)(A:Nat)(w:World)(O:Nat)(fi:Int)(xs:List DaM)(h:Wr w R g cap bs)(hb:bs.length+300000000000<=1099511627776)(hA:w.cell? ⟨A,0,none⟩=some (cW R))(hAR:A≠R)(hAg:A≠g)(hO:w.cell? ⟨O,3,none⟩=some (.int .i64 fi))(hOR:O≠R)(hOg:O≠g)(hf0:0<=fi)(hf1:fi<=64)(hr:∀(j:Nat)x,xs[j]? =some x->PL w R g x)(hmem:pS w ha n xs)(hne:∀b off c,ha=some ⟨b,off,c⟩->b≠R/\b≠g)(hx:bK (fun(ah:List DaM) x=>cD (fi*4096) ah x) 64 xs≠0) :
  Calls Tryz.prog 112 #[cW R,.slice ha n hc,.int .i64 64,.func (.func 113) #[] #[.pointer (some ⟨A,0,none⟩),.pointer (some ⟨O,0,none⟩)]] w (bo R g (bK (fun(ah:List DaM) x=>cD (fi*4096) ah x) 64 xs) w):=by
 have hl:=hmem.1;unfold bK at hx ⊢
 by_cases hm:(64:Int)<xs.length
 ·rw[if_pos hm];exact wj R g cap bs ha n hc 64 _ w h ae
 rw[if_neg hm]at hx ⊢;obtain⟨k,x,h1,h2,h3,h4⟩:=ej (fun(ah:List DaM) x=>cD (fi*4096) ah x) xs [] hx;have hall:=bC (fun(ah:List DaM) x=>cD (fi*4096) ah x) (xs.take k) [] h2
 have hall':∀(i:Nat)y,xs[i]? =some y->i<k->(fun(ah:List DaM) x=>cD (fi*4096) ah x) (xs.take i) y=0:=fun i y hi hik=>by
  exact uU
 rw[h4];try simp only[List.nil_append]at h3 ⊢
 obtain⟨E,hE⟩:∃E:DaM->List Int,E=fun y=>if ((cU) y).length<=300000 then (cU) y else []:=⟨_,rfl⟩
 have hEl:∀y,(E y).length<=300000:=fun y=>by
  rw[hE];show(if ((cU) y).length<=300000 then (cU) y else []).length<=300000
  split
  ·assumption
  simp
 have hEe:∀(i:Nat)z,xs[i]? =some z->i<k->E z=(cU) z:=fun i z hi hik=>by
  have hc:=hall' i z hi hik
  have hq:((cU) z).length<=300000:=by
   exact iO ae hc
  rw[hE];exact if_pos hq
 refine DJ R g cap bs ha n hc 64 113 _ w xs E (BP) 300000 h ae ae hmem hne (fun _ _=>rfl) (fun j y hj=>hEl y) ae ae k x _ h1
  (fun j y hj hjk=>uE R g cap bs n A w O fi xs h hb ae hA hAR hAg hO hOR hOg hf0 hf1 hr hl E k hEe hall' j y hj hjk) ?_
 intro ys W g1 cap1 aa ac hyl hys hst hwr hrow hab;have hlt:=az h1;have hu:=aF (n:Int)
 have hbb:(bs++ay n++(xs.take k).flatMap E).length<=bs.length+10+1000*300000:=by
  have hf:=cH E 300000 (xs.take k) (fun i y _=>hEl y);rw[List.length_take]at hf;have e1:min k xs.length=k:=ae;rw[e1]at hf;rw[List.length_append,List.length_append];have:k*300000<=1000*300000:=Nat.mul_le_mul_right _ ae;omega
 have hrx:=hr k x h1;have hti:=Ad ae hyl hys
 have hys':∀y∈ys,0<=y.1/\y.1<=1099511627776/\y.2.2.1<=1099511627776:=fun y hy=>by
  obtain⟨i,hi,rfl⟩:=List.getElem_of_mem hy;obtain⟨x',hx',hok⟩:=hys i _ (aY hi);have hcx:=hall' i x' hx' ae;exact GJ
 have heq:cD (fi*4096) (xs.take k) x=tH (fi*4096) ys x.1 x.2.2.length:=by
  unfold cD tH;rw[hti]
 rw[heq]at h3 ⊢;refine Iz R g1 cap1 _ x aa k ac A O fi W hwr (hst.cell hA hAR hAg) (hst.cell hO hOR hOg) hf0 hf1 _ (fun W2 hb2=>?_)
 exact CX R g1 cap1 _ x.1 (fi*4096) x.2.1.1 x.2.1.2.1 x.2.1.2.2 x.2.2 aa k ac ys W2 (hwr.later hb2) ae ae ae hrx.r0 hrx.r1 hyl ae hys' (br hrow (fun B hB=>hb2.block B (aW hrow hB)))
   ((hrx.seg.kept' hst.k (fun b off c hb'=>by have:=hrx.ne b off c hb'; simp; omega)).later hb2 lRn) (fun b off c hb'=>⟨(hrx.ne b off c hb').1,hst.ne (hrx.lt b off c hb') (hrx.ne b off c hb').2⟩) h3
structure fG(R L g g':Nat)(w w':World):Prop where
 k:Kept (fun k=>k=R\/k=g\/k=L) w w'
 m:g'=g\/w.heap.size<=g'
variable {R L g g':Nat}
theorem Stp.toL(h:Stp R g g' w w'):fG R L g g' w w':=⟨h.k.mono (fun k hk=>ae),h.m⟩
variable {g'':Nat}{w1 w2:World}
theorem fG.trans(h:fG R L g g' w w1)(h':fG R L g' g'' w1 w2):fG R L g g'' w w2:=by
 refine⟨h.k.then h'.k (fun k hk ht=>?_),?_⟩
 ·rcases ht with rfl | rfl | rfl
  ·exact .inl rfl
  ·rcases h.m with h | h
   ·exact .inr (.inl h)
   omega
  exact .inr (.inr rfl)
 exact vp
theorem fG.of_below(h:Below w.heap.size w w'):fG R L g g w w':=(Stp.of_below h).toL
theorem fG.size(h:fG R L g g' w w'):w.heap.size<=w'.heap.size:=h.k.size
variable {b:Nat}
theorem fG.block(h:fG R L g g' w w')(hb:b<w.heap.size)(h1:b≠R)(h2:b≠g)(h3:b≠L):w'.heap[b]? =w.heap[b]?:=h.k.block b hb (by simp[h1,h2,h3])
variable {o:Nat}{v:Value}
theorem fG.cell(h:fG R L g g' w w')(hc:w.cell? ⟨b,o,none⟩=some v)(h1:b≠R)(h2:b≠g)(h3:b≠L):w'.cell? ⟨b,o,none⟩=some v:=h.k.cell hc (by simp[h1,h2,h3])
theorem fG.ne(h:fG R L g g' w w')(hb:b<w.heap.size)(hn:b≠g):b≠g':=by
 rcases h.m with rfl | h
 ·exact hn
 omega
variable {g1:Nat}{W w5:World}
theorem fG.throw(h:fG R L g g1 w W)(hk:Kept (fun k=>k=R\/k=g1) W w5):Kept (fun k=>k=R\/k=g\/k=L) w w5:=by
 refine h.k.then hk (fun k hkl hh=>?_)
 rcases hh with rfl | rfl
 ·exact .inl rfl
 rcases h.m with h | h
 ·exact .inr (.inl h)
 omega
section
variable (R g cap:Nat) (bs:LIz) (ty:Int) (lo:BAz) (ca:OAz) (cn cc:Nat) (aa:OAz) (an ac:Nat) (A O L:Nat) (ta:OAz) (tn tc:Nat) (left:Int) (w:World)
theorem I5(h:Wr w R g cap bs)(hA:w.cell? ⟨A,0,none⟩=some (cW R))(hO:w.cell? ⟨O,0,none⟩=some (.slice ta tn tc))(hL:w.cell? ⟨L,0,none⟩=some (.int .i64 left))(er:Int)
  (hcall:∀W,Below w.heap.size w W->Calls Tryz.prog 111 #[cW R,.agg #[.int .i64 ty,.string lo,.slice ca cn cc],.slice ta tn tc,.int .i64 left] W (bo R g er W)) :
  Calls Tryz.prog 110 #[.agg #[.int .i64 ty,.string lo,.slice ca cn cc],.slice aa an ac,.pointer (some ⟨A,0,none⟩),.pointer (some ⟨O,0,none⟩),.pointer (some ⟨L,0,none⟩)] w (bo R g er w):=by
 obtain⟨B0,z0,x0,x1⟩:=im w (bk ty lo ca cn cc) (bk 0 ⟨#[]⟩ none 0 0);have hRl:=h.lt;have hgl:=h.g_lt;have hA1:=(B0.cell iA).trans hA;have hO1:=(B0.cell (p:=⟨O,0,none⟩) pj).trans hO;have hL1:=(B0.cell (p:=⟨L,0,none⟩) (by exact block_lt_of_cell hL)).trans hL;have HC:=hid (hcall _ B0);obtain⟨W1,hW1⟩:∃W1,(w.alloc (bk ty lo ca cn cc)).alloc (bk 0 ⟨#[]⟩ none 0 0)=W1:=⟨_,rfl⟩;rw[hW1]at B0 z0 x0 x1 hA1 HC hO1 hL1;have BW:=hid B0;obtain⟨a0,a1,a2,_,_,_⟩:=aS x0;clear h B0 hA hcall hO hL;go_enter Tryz.func110,Tryz.ntmps110;exact nQ
theorem Br(h:Wr w R g cap bs)(hA:w.cell? ⟨A,0,none⟩=some (cW R))(hO:w.cell? ⟨O,0,none⟩=some (.slice ta tn tc))(hL:w.cell? ⟨L,0,none⟩=some (.int .i64 left))(hLf:w.frozen? ⟨L,0,none⟩=false)(hLR:L≠R)(hLg:L≠g)(hl0:(cn:Int)<=left)(hl1:left<=100000)(new:LIz)
  (hcall:∀W,Below w.heap.size w W->Calls Tryz.prog 111 #[cW R,.agg #[.int .i64 ty,.string lo,.slice ca cn cc],.slice ta tn tc,.int .i64 left] W (fun e w'=>∃(fa:OAz)(fc:Nat),e=.returned (.agg #[.int .i64 ty,.string lo,.slice fa cn fc])/\∃g' cap',Wr w' R g' cap' new/\Stp R g g' W w')) :
  Calls Tryz.prog 110 #[.agg #[.int .i64 ty,.string lo,.slice ca cn cc],.slice aa an ac,.pointer (some ⟨A,0,none⟩),.pointer (some ⟨O,0,none⟩),.pointer (some ⟨L,0,none⟩)] w
   (fun e w'=>∃(fa:OAz)(fc:Nat),e=.returned (.agg #[.int .i64 ty,.string lo,.slice fa cn fc])/\w'.cell? ⟨L,0,none⟩=some (.int .i64 (left-cn))/\w'.frozen? ⟨L,0,none⟩=false/\∃g' cap',Wr w' R g' cap' new/\Kept (fun k=>k=R\/k=g\/k=L) w w'/\(g'=g\/w.heap.size<=g')):=by
 obtain⟨B0,z0,x0,x1⟩:=im w (bk ty lo ca cn cc) (bk 0 ⟨#[]⟩ none 0 0);have hRl:=h.lt;have hgl:=h.g_lt;have hLl:=block_lt_of_cell hL;have hA1:=(B0.cell iA).trans hA;have hO1:=(B0.cell (p:=⟨O,0,none⟩) pj).trans hO;have hL1:=(B0.cell (p:=⟨L,0,none⟩) (by exact hLl)).trans hL;have hLf1:=(B0.frozen (p:=⟨L,0,none⟩) (by exact hLl)).trans hLf;have HC:=hid (hcall _ B0);obtain⟨W1,hW1⟩:∃W1,(w.alloc (bk ty lo ca cn cc)).alloc (bk 0 ⟨#[]⟩ none 0 0)=W1:=⟨_,rfl⟩;rw[hW1]at B0 z0 x0 x1 hA1 HC hO1 hL1 hLf1;have BW:=hid B0;obtain⟨a0,a1,a2,_,_,_⟩:=aS x0;have hsub:wrap64 (left-(cn:Int))=left-cn:=eP;clear h B0 hA hcall hO hL hLf;go_enter Tryz.func110,Tryz.ntmps110
 go_wp2_with fail;refine HC.out.mono ?_;rintro e w5⟨fa,fc,rfl,g',cap',hw5,hs5⟩;have q1:=(hs5.block (b:=w.heap.size+1) ae ae ae).trans x1;have n1:w.heap.size+1≠g':=hs5.ne ae ae;have nL:L≠g':=hs5.ne ae hLg;have l1:=hs5.cell (b:=L) hL1 hLR hLg;have l2:=(cA (hs5.block (b:=L) ae hLR hLg) 0).trans hLf1;have z5:=hs5.size;have W5:=hid hw5;have S5:=hid ((Stp.of_below BW.out).trans hs5);have BN:=hid (aj w5 (bk ty lo fa cn fc));have q2:=(BN.out.block (w.heap.size+1) ae).trans q1
 have l3:=(BN.out.cell (p:=⟨L,0,none⟩) (by exact block_lt_of_cell l1)).trans l1;have l4:=(BN.out.frozen (p:=⟨L,0,none⟩) (by exact block_lt_of_cell l1)).trans l2;have nb:=(MapKept.heap_alloc w5 (bk ty lo fa cn fc)).1;obtain⟨k0,k1,k2,k3,k4,k5⟩:=aS q2;obtain⟨j0,j1,j2,_,_,_⟩:=aS nb;clear hw5 hs5 x0 x1 q1 HC hL1 hLf1 l1 l2;have hz6:(w5.alloc (bk ty lo fa cn fc)).heap.size=w5.heap.size+1:=aw;go_wp2_with fail;refine bodyPost_ret (v:=.agg #[.int .i64 ty,.string lo,.slice fa cn fc]) ?_ rfl ⟨fa,fc,rfl,?_,?_,g',cap',?_,?_,S5.out.m⟩
 ·exact dF
 ·rw[World.cell?_setCell_other _ _ _ _ aw,World.cell?_setCell_other _ _ _ _ aw,World.cell?_setCell_other _ _ _ _ aw];exact World.cell?_setCell_same _ _ _ l3
 ·simp only[World.frozen?_setCell]
  exact l4
 ·exact((((W5.out.later BN.out).set (b:=L) hLR nL).set (b:=w.heap.size+1) ae n1).set (b:=w.heap.size+1) ae n1).set (b:=w.heap.size+1) ae n1
 have hk:=(S5.out.k.mono (T:=fun k=>k=R\/k=g\/k=L) (fun k hk=>ae)).trans (aP BN.out);have hk2:=hk.then (ax _ L 0 (.int .i64 (left-cn))) (fun k _ h=>ae);exact((hk2.then (ax _ (w.heap.size+1) 0 _) (fun k _ h=>ae)).then (ax _ (w.heap.size+1) 1 _) (fun k _ h=>ae)).then (ax _ (w.heap.size+1) 2 _) (fun k _ h=>ae)
end
structure LAt(w:World)(L:Nat)(v:Int):Prop where
 c:w.cell? ⟨L,0,none⟩=some (.int .i64 v)
 f:w.frozen? ⟨L,0,none⟩=false
variable {v:Int}
theorem LAt.lt(h:LAt w L v):L<w.heap.size:=block_lt_of_cell h.c
theorem LAt.kept{S:Nat->Prop}(h:LAt w L v)(hk:Kept S w w')(hs:¬S L):LAt w' L v:=⟨hk.cell h.c hs,(cA (hk.block L h.lt hs) 0).trans h.f⟩
theorem LAt.later(h:LAt w L v)(hb:Below w.heap.size w w'):LAt w' L v:=h.kept (S:=fun _=>False) (aP hb) id
abbrev Fp(R L g:Nat)(x:Int)(w:World):Ending->World->Prop:=fun e w'=>(∃p,e=thr x p)/\Kept (fun k=>k=R\/k=g\/k=L) w w'
def Bz(R g L:Nat)(lv:NIz)(w:World)(K:Nat)(cs:AVz)(bs:LIz)(n:Nat)(xs:List (Int×ByteArray×(Option Addr×Nat×Nat)×List (Int×Int×(Option Addr×Nat×Nat)×List Int)))(enc:(Int×ByteArray×(Option Addr×Nat×Nat)×List (Int×Int×(Option Addr×Nat×Nat)×List Int))->List Int)(Ok:(Int×ByteArray×(Option Addr×Nat×Nat)×List (Int×Int×(Option Addr×Nat×Nat)×List Int))->(Int×ByteArray×(Option Addr×Nat×Nat))->Prop)(j:Nat)(x:(Int×ByteArray×(Option Addr×Nat×Nat)×List (Int×Int×(Option Addr×Nat×Nat)×List Int))):Prop :=
 ∀(ys:List (Int×ByteArray×(Option Addr×Nat×Nat))) (W:World) (g1 cap1:Nat) (aa:OAz) (ac:Nat),ys.length=j->(∀(i:Nat)y,ys[i]? =some y->∃x',xs[i]? =some x'/\Ok x' y)->fG R L g g1 w W->LAt W L (lv j)->L≠g1->Wr W R g1 cap1 (bs++ay n++(xs.take j).flatMap enc) ->
  W.ownsRow 0 61 3 (.slice aa j ac) j (ys.flatMap mZ)->(∀b,aa=some b->w.heap.size<=b.block/\b.block≠g1) ->
  Calls Tryz.prog K (#[UW x,.slice aa j ac]++cs) W (fun e w'=>∃y,e=.returned (UZ y)/\Ok x y/\∃g' cap',Wr w' R g' cap' (bs++ay n++(xs.take j).flatMap enc++enc x)/\fG R L g1 g' W w'/\LAt w' L (lv (j+1)))
def LY(R g L:Nat)(lv:NIz)(w:World)(K:Nat)(cs:AVz)(bs:LIz)(n:Nat)(xs:List (Int×ByteArray×(Option Addr×Nat×Nat)×List (Int×Int×(Option Addr×Nat×Nat)×List Int)))(enc:(Int×ByteArray×(Option Addr×Nat×Nat)×List (Int×Int×(Option Addr×Nat×Nat)×List Int))->List Int)(Ok:(Int×ByteArray×(Option Addr×Nat×Nat)×List (Int×Int×(Option Addr×Nat×Nat)×List Int))->(Int×ByteArray×(Option Addr×Nat×Nat))->Prop)(j:Nat)(x:(Int×ByteArray×(Option Addr×Nat×Nat)×List (Int×Int×(Option Addr×Nat×Nat)×List Int)))(er:Int):Prop :=
 ∀(ys:List (Int×ByteArray×(Option Addr×Nat×Nat))) (W:World) (g1 cap1:Nat) (aa:OAz) (ac:Nat),ys.length=j->(∀(i:Nat)y,ys[i]? =some y->∃x',xs[i]? =some x'/\Ok x' y)->fG R L g g1 w W->LAt W L (lv j)->L≠g1->Wr W R g1 cap1 (bs++ay n++(xs.take j).flatMap enc) ->
  W.ownsRow 0 61 3 (.slice aa j ac) j (ys.flatMap mZ)->(∀b,aa=some b->w.heap.size<=b.block/\b.block≠g1) ->
  Calls Tryz.prog K (#[UW x,.slice aa j ac]++cs) W (bo R g1 er W)
theorem xG(R g cap:Nat)(bs:LIz)(ha:OAz)(n hc:Nat)(most:Int)(K:Nat)(cs:AVz)(w:World)(xs:List (Int×ByteArray×(Option Addr×Nat×Nat)×List (Int×Int×(Option Addr×Nat×Nat)×List Int)))(enc:(Int×ByteArray×(Option Addr×Nat×Nat)×List (Int×Int×(Option Addr×Nat×Nat)×List Int))->List Int)(Ok:(Int×ByteArray×(Option Addr×Nat×Nat)×List (Int×Int×(Option Addr×Nat×Nat)×List Int))->(Int×ByteArray×(Option Addr×Nat×Nat))->Prop)(M:Nat)
  (L:Nat) (lv:NIz) (hL:LAt w L (lv 0)) (hLR:L≠R) (hLg:L≠g) (h:Wr w R g cap bs) (hn:n<=100000) (hm:(n:Int)<=most) (hmem:od w ha n xs) (hne:∀b off c,ha=some ⟨b,off,c⟩->b≠R/\b≠g/\b≠L)
  (hK:∀args w,(callFunc K args).run Tryz.prog w=.ok (.enter K args) w) (hlen:∀(j:Nat)x,xs[j]? =some x->(enc x).length<=M) (hM:M<=1000000) (hb:bs.length+200000000000<=1099511627776)
  (heach:∀(j:Nat)x,xs[j]? =some x->Bz R g L lv w K cs bs n xs enc Ok j x) :
  Calls Tryz.prog 109 #[cW R,.slice ha n hc,.int .i64 most,.func (.func K) #[] cs] w fun e w'=>∃(aa:OAz)(ac:Nat)(ys:List (Int×ByteArray×(Option Addr×Nat×Nat))),e=.returned (.slice aa n ac)/\ys.length=n/\(∀(i:Nat)y,ys[i]? =some y->∃x,xs[i]? =some x/\Ok x y) /\
   w'.ownsRow 0 61 3 (.slice aa n ac) n (ys.flatMap mZ)/\∃g' cap',(∀b,aa=some b->w.heap.size<=b.block/\b.block≠g')/\Wr w' R g' cap' (bs++ay n++xs.flatMap enc)/\fG R L g g' w w'/\LAt w' L (lv n)/\L≠g':=by
 have hmc:=bG;have hcc:=cy;have HC:=hid (bU R g cap bs n most w h hm ae ae);have hRl:=h.lt;have hLl:=hL.lt;have hgl:=h.g_lt;have hxl:=hmem.1;have HM:=hid hmem;have HNE:=hid hne;have HE:=hid heach;obtain⟨i0,hi,hz0,hz1,hz2⟩:=Qy;clear h hmem heach hne;go_enter Tryz.func109,Tryz.ntmps109
 go_wp2_with fail;refine HC.out.mono ?_;rintro e w2⟨rfl,g1,cap1,hw2,hs2⟩;have L2:=hid (hL.kept hs2.k aK);have NL2:L≠g1:=hs2.ne hLl hLg;have W2:=hid hw2;have S2:=hid hs2;clear hw2 hs2 HC hmc hcc;go_wp2_with fail
 go_loopw [9,17] (fun o i wr=>∃(j:Nat)(ys:List (Int×ByteArray×(Option Addr×Nat×Nat))) (aa:OAz) (ac g1 cap1:Nat),j<=n/\i=.int .i64 j/\o=.slice aa j ac/\ys.length=j/\(∀(i:Nat)y,ys[i]? =some y->∃x,xs[i]? =some x/\Ok x y) /\
   wr.ownsRow 0 61 3 (.slice aa j ac) j (ys.flatMap mZ)/\(∀b,aa=some b->w.heap.size<=b.block/\b.block≠g1)/\Wr wr R g1 cap1 (bs++ay n++(xs.take j).flatMap enc)/\fG R L g g1 w wr/\LAt wr L (lv j)/\L≠g1) (fun _ i _=>n-(intOf i).toNat)
 case atStart=>exact⟨0,[],none,0,g1,cap1,ae,rfl,rfl,rfl,(fun i y h=>fZ),World.ownsRow_nil _ _ _ _,(fun b h=>cm),gJ,S2.out.toL,L2.out,NL2⟩
 case round =>
  obtain⟨j,ys,aa,ac,g3,cap3,hj,rfl,rfl,hyl,hys,hrow,hab,hwr,hst,hla,hlg⟩:=hrel;have HLA:=hid hla;clear hla L2 NL2;have HY:=hid hys;have HRW:=hid hrow;have HAB:=hid hab;have HWR:=hid hwr;have HST:=hid hst;clear hys hrow hab hwr hst W2 S2
  by_cases hlt:j<n
  ·obtain⟨x,hx⟩:∃x,xs[j]? =some x:=⟨_,aY ae⟩
   obtain⟨b,off,rfl,hcell⟩:∃b off,ha=some ⟨b,off,none⟩/\∀(j:Nat)x,xs[j]? =some x->wr.cell? ⟨b,off+j*3,none⟩=some (.int .i64 x.1)/\wr.cell? ⟨b,off+j*3+1,none⟩=some (.string x.2.1)/\wr.cell? ⟨b,off+j*3+2,none⟩=some (.slice x.2.2.1.1 x.2.2.1.2.1 x.2.2.1.2.2):=by
    exact Gz
   have hcj:=hcell j x hx;have hbl:=block_lt_of_cell hcj.1;clear hcell;obtain⟨v0,v1,v2⟩:=hcj;have BN:=hid (aj wr (bk x.1 x.2.1 x.2.2.1.1 x.2.2.1.2.1 x.2.2.1.2.2));have HC1:=hid (HE.out j x hx ys (wr.alloc (bk x.1 x.2.1 x.2.2.1.1 x.2.2.1.2.1 x.2.2.1.2.2)) g3 cap3 aa ac hyl HY.out (HST.out.trans (fG.of_below BN.out)) (HLA.out.later BN.out) hlg (HWR.out.later BN.out) (br HRW.out (fun B hB=>BN.out.block B (aW HRW.out hB))) HAB.out);exact Q3
  obtain rfl:j=n:=ae;have hxs:xs.take j=xs:=List.take_of_length_le ae;go_wp2_with fail;go_ret;refine⟨aa,ac,ys,rfl,hyl,HY.out,HRW.out,g3,cap3,HAB.out,?_,HST.out,HLA.out,hlg⟩;rw[<- hxs];exact HWR.out
theorem yY(R g cap:Nat)(bs:LIz)(ha:OAz)(n hc:Nat)(most:Int)(K:Nat)(cs:AVz)(w:World)(xs:List (Int×ByteArray×(Option Addr×Nat×Nat)×List (Int×Int×(Option Addr×Nat×Nat)×List Int)))(enc:(Int×ByteArray×(Option Addr×Nat×Nat)×List (Int×Int×(Option Addr×Nat×Nat)×List Int))->List Int)(Ok:(Int×ByteArray×(Option Addr×Nat×Nat)×List (Int×Int×(Option Addr×Nat×Nat)×List Int))->(Int×ByteArray×(Option Addr×Nat×Nat))->Prop)(M:Nat)
  (L:Nat) (lv:NIz) (hL:LAt w L (lv 0)) (hLR:L≠R) (hLg:L≠g) (h:Wr w R g cap bs) (hn:n<=100000) (hm:(n:Int)<=most) (hmem:od w ha n xs) (hne:∀b off c,ha=some ⟨b,off,c⟩->b≠R/\b≠g/\b≠L)
  (hK:∀args w,(callFunc K args).run Tryz.prog w=.ok (.enter K args) w) (hlen:∀(j:Nat)x,xs[j]? =some x->(enc x).length<=M) (hM:M<=1000000) (hb:bs.length+200000000000<=1099511627776)
  (k:Nat) (xk:(Int×ByteArray×(Option Addr×Nat×Nat)×List (Int×Int×(Option Addr×Nat×Nat)×List Int))) (er:Int) (hk:xs[k]? =some xk) (heach:∀(j:Nat)x,xs[j]? =some x->j<k->Bz R g L lv w K cs bs n xs enc Ok j x) (hno:LY R g L lv w K cs bs n xs enc Ok k xk er) :
  Calls Tryz.prog 109 #[cW R,.slice ha n hc,.int .i64 most,.func (.func K) #[] cs] w (Fp R L g er w):=by
 have hkn:=az hk;have hmc:=bG;have hcc:=cy;have HC:=hid (bU R g cap bs n most w h hm ae ae);have hRl:=h.lt;have hLl:=hL.lt;have hgl:=h.g_lt;have hxl:=hmem.1;have HM:=hid hmem;have HNE:=hid hne;have HE:=hid heach;have HN:=hid hno;obtain⟨i0,hi,hz0,hz1,hz2⟩:=Qy;clear h hmem heach hne hno;go_enter Tryz.func109,Tryz.ntmps109
 go_wp2_with fail;refine HC.out.mono ?_;rintro e w2⟨rfl,g1,cap1,hw2,hs2⟩;have L2:=hid (hL.kept hs2.k aK);have NL2:L≠g1:=hs2.ne hLl hLg;have W2:=hid hw2;have S2:=hid hs2;clear hw2 hs2 HC hmc hcc;go_wp2_with fail
 go_loopw [9,17] (fun o i wr=>∃(j:Nat)(ys:List (Int×ByteArray×(Option Addr×Nat×Nat))) (aa:OAz) (ac g1 cap1:Nat),j<=k/\i=.int .i64 j/\o=.slice aa j ac/\ys.length=j/\(∀(i:Nat)y,ys[i]? =some y->∃x,xs[i]? =some x/\Ok x y) /\
   wr.ownsRow 0 61 3 (.slice aa j ac) j (ys.flatMap mZ)/\(∀b,aa=some b->w.heap.size<=b.block/\b.block≠g1)/\Wr wr R g1 cap1 (bs++ay n++(xs.take j).flatMap enc)/\fG R L g g1 w wr/\LAt wr L (lv j)/\L≠g1) (fun _ i _=>n-(intOf i).toNat)
 case atStart=>exact⟨0,[],none,0,g1,cap1,ae,rfl,rfl,rfl,(fun i y h=>fZ),World.ownsRow_nil _ _ _ _,(fun b h=>cm),gJ,S2.out.toL,L2.out,NL2⟩
 case round =>
  obtain⟨j,ys,aa,ac,g3,cap3,hj,rfl,rfl,hyl,hys,hrow,hab,hwr,hst,hla,hlg⟩:=hrel;have HLA:=hid hla;clear hla L2 NL2;have HY:=hid hys;have HRW:=hid hrow;have HAB:=hid hab;have HWR:=hid hwr;have HST:=hid hst;clear hys hrow hab hwr hst W2 S2;have hlt:j<n:=ae;obtain⟨x,hx⟩:∃x,xs[j]? =some x:=⟨_,aY ae⟩
  obtain⟨b,off,rfl,hcell⟩:∃b off,ha=some ⟨b,off,none⟩/\∀(j:Nat)x,xs[j]? =some x->wr.cell? ⟨b,off+j*3,none⟩=some (.int .i64 x.1)/\wr.cell? ⟨b,off+j*3+1,none⟩=some (.string x.2.1)/\wr.cell? ⟨b,off+j*3+2,none⟩=some (.slice x.2.2.1.1 x.2.2.1.2.1 x.2.2.1.2.2):=by
   exact Gz
  have hcj:=hcell j x hx;have hbl:=block_lt_of_cell hcj.1;clear hcell;obtain⟨v0,v1,v2⟩:=hcj;have BN:=hid (aj wr (bk x.1 x.2.1 x.2.2.1.1 x.2.2.1.2.1 x.2.2.1.2.2))
  by_cases hjk:j<k
  ·skip
   have HC1:=hid (HE.out j x hx hjk ys (wr.alloc (bk x.1 x.2.1 x.2.2.1.1 x.2.2.1.2.1 x.2.2.1.2.2)) g3 cap3 aa ac hyl HY.out (HST.out.trans (fG.of_below BN.out)) (HLA.out.later BN.out) hlg (HWR.out.later BN.out) (br HRW.out (fun B hB=>BN.out.block B (aW HRW.out hB))) HAB.out);exact Q3
  obtain rfl:j=k:=ae;obtain rfl:x=xk:=vr;have HC1:=hid (HN.out ys (wr.alloc (bk x.1 x.2.1 x.2.2.1.1 x.2.2.1.2.1 x.2.2.1.2.2)) g3 cap3 aa ac hyl HY.out (HST.out.trans (fG.of_below BN.out)) (HLA.out.later BN.out) hlg (HWR.out.later BN.out) (br HRW.out (fun B hB=>BN.out.block B (aW HRW.out hB))) HAB.out)
  go_wp2_with fail;refine HC1.out.mono ?_;rintro e w5⟨⟨p,rfl⟩,hk5⟩;exact⟨rfl,⟨p,rfl⟩,(HST.out.trans (fG.of_below BN.out)).throw hk5⟩
abbrev FuM:=Int×ByteArray×SLv×List InM
def mL(sg:List Sg)(ty:Int):ByteArray:=(sg.getD ty.toNat (⟨#[]⟩,⟨#[]⟩)).1
def gH(sg:List Sg)(left:Int)(ty:Int)(lo:BAz)(xs:List InM):Int :=
 if ty<0\/(sg.length:Int)<=ty then 30 else if 64<lo.size+(mL sg ty).size then 13 else if cC lo 64=false then 15 else if min 2048 left<(xs.length:Int) then 20 else bB (fun _ x=>dH x) [] xs
def xV(ty:Int)(lo:BAz)(xs:List InM):List Int:=ay ty++fK lo++(ay xs.length++xs.flatMap dG)
variable {t:Nat}{p r:BAz}
theorem pQ{sg:List Sg}(h:sg[t]? =some (p,r)):mL sg (t:Int)=p:=by
 simp[mL,List.getD,h]
section
variable (R g cap:Nat) (bs:LIz) (ty left:Int) (lo:BAz) (ca:OAz) (cn cc:Nat) (sa:OAz) (sn sc:Nat) (sg:List Sg) (xs:List InM) (w:World)
variable {g2:Nat}
theorem Ff(hmem:AtIn w ca cn xs)(hne:∀b off c,nz cn ca=some ⟨b,off,c⟩->b≠R/\b≠g)(hbl:∀b off c,nz cn ca=some ⟨b,off,c⟩->b<w.heap.size)(hok:∀(j:Nat)x,xs[j]? =some x->tT w R g x)(hil:∀(j:Nat)x,xs[j]? =some x->∀b off c,nz x.2.2.1.2.1 x.2.2.1.1=some ⟨b,off,c⟩->b<w.heap.size)(hst:Stp R g g2 w W) :
  AtIn W ca cn xs/\(∀b off c,nz cn ca=some ⟨b,off,c⟩->b≠R/\b≠g2)/\(∀(j:Nat)x,xs[j]? =some x->tT W R g2 x):=by
 refine⟨hmem.kept hst.k (fun b off c h=>vT),fun b off c h=>⟨(hne b off c h).1,hst.ne (hbl b off c h) (hne b off c h).2⟩,fun j x hj=>?_⟩;have h:=hok j x hj;exact⟨h.r0,h.r1,h.seg' hst,fun b off c hb=>⟨(h.ne b off c hb).1,hst.ne (hil j x hj b off c hb) (h.ne b off c hb).2⟩⟩
theorem IB(h:Wr w R g cap bs)(hb:bs.length+400000000000<=1099511627776)(hs:sn<=100000)(hR0:R≠0)(hg0:g≠0)(hk:bg w)(hsg:cO w sa sn sg)(hne:∀b off c,sa=some ⟨b,off,c⟩->b≠R/\b≠g)(hp8:∀(t:Nat)p r,sg[t]? =some (p,r)->p.size<=8)(hcn:cn<=100000\/2048<cn)(hmem:AtIn w ca cn xs)(hcne:∀b off c,nz cn ca=some ⟨b,off,c⟩->b≠R/\b≠g)(hcbl:∀b off c,nz cn ca=some ⟨b,off,c⟩->b<w.heap.size)(hok:∀(j:Nat)x,xs[j]? =some x->tT w R g x)(hil:∀(j:Nat)x,xs[j]? =some x->∀b off c,nz x.2.2.1.2.1 x.2.2.1.1=some ⟨b,off,c⟩->b<w.heap.size)(hx:gH sg left ty lo xs=0) :
  Calls Tryz.prog 111 #[cW R,.agg #[.int .i64 ty,.string lo,.slice ca cn cc],.slice sa sn sc,.int .i64 left] w (fun e w'=>∃(aa:OAz)(ac:Nat),e=.returned (.agg #[.int .i64 ty,.string lo,.slice aa cn ac])/\∃g' cap',Wr w' R g' cap' (bs++xV ty lo xs)/\Stp R g g' w w'):=by
 have hxl:=hmem.1;have hsl:=hsg.1;unfold gH at hx
 split at hx
 ·cases hx
 rename_i c1
 split at hx
 ·cases hx
 rename_i c2
 split at hx
 ·cases hx
 rename_i c3
 split at hx
 ·cases hx
 rename_i c4;obtain⟨t,rfl⟩:∃t:Nat,ty=t:=⟨ty.toNat,ae⟩
 have hlt:cC lo 64=true:=by simpa using c3
 refine(Cw R g cap bs t left lo ca cn cc sa sn sc sg w h ae hs ae hsg hne (fun p r hp=>hp8 t p r hp) (fun p r hp=>wK) hlt (ay cn++xs.flatMap dG)
  (fun W g2 cap2 hW hst hA hAg=>?_)).mono ?_
 ·obtain⟨m1,m2,m3⟩:=Ff R g ca cn xs w hmem hcne hcbl hok hil hst;have hg2:g2≠0:=Ne.symm (hst.ne wD (Ne.symm hg0));have hu:=aF (t:Int);have hlo:=dD lo 64 ae;exact zn R g2 cap2 _ ca cn cc (min 2048 left) w.heap.size xs W hW sV ae ae hR0 hg2 (hk.kept hst.k aK) hA wD hAg m1 m2 m3 hx
 rintro e w' ⟨aa,ac,he,g',cap',hw',hs'⟩;refine⟨aa,ac,he,g',cap',?_,hs'⟩;rw[<- hxl]at hw'
 simpa[xV,List.append_assoc] using hw'
theorem I9(h:Wr w R g cap bs)(hb:bs.length+400000000000<=1099511627776)(hs:sn<=100000)(hR0:R≠0)(hg0:g≠0)(hk:bg w)(hsg:cO w sa sn sg)(hne:∀b off c,sa=some ⟨b,off,c⟩->b≠R/\b≠g)(hp8:∀(t:Nat)p r,sg[t]? =some (p,r)->p.size<=8)(hcn:cn<=100000\/2048<cn)(hmem:AtIn w ca cn xs)(hcne:∀b off c,nz cn ca=some ⟨b,off,c⟩->b≠R/\b≠g)(hcbl:∀b off c,nz cn ca=some ⟨b,off,c⟩->b<w.heap.size)(hok:∀(j:Nat)x,xs[j]? =some x->tT w R g x)(hil:∀(j:Nat)x,xs[j]? =some x->∀b off c,nz x.2.2.1.2.1 x.2.2.1.1=some ⟨b,off,c⟩->b<w.heap.size)(hty:-9223372036854775808<=ty)(hty1:ty<9223372036854775808)(hlo:lo.size<=1073741824\/64<lo.size)(hx:gH sg left ty lo xs≠0) :
  Calls Tryz.prog 111 #[cW R,.agg #[.int .i64 ty,.string lo,.slice ca cn cc],.slice sa sn sc,.int .i64 left] w (bo R g (gH sg left ty lo xs) w):=by
 have hxl:=hmem.1;have hsl:=hsg.1;have hRl:=h.lt;unfold gH at hx ⊢
 by_cases c1:ty<0\/(sg.length:Int)<=ty
 ·rw[if_pos c1];exact Iy R g cap bs left lo ca cn cc sa sn sc w ty h hty hty1 ae hs
 rw[if_neg c1]at hx ⊢;obtain⟨t,rfl⟩:∃t:Nat,ty=t:=⟨ty.toNat,ae⟩
 by_cases c2:64<lo.size+(mL sg t).size
 ·rw[if_pos c2]
  exact zN R g cap bs t left lo ca cn cc sa sn sc sg w h ae hs ae hsg hne (fun p r hp=>hp8 t p r hp) 13 (fun W g1 cap1 p r hp hps hW=>gM R g1 cap1 _ lo _ _ W hW wK)
 rw[if_neg c2]at hx ⊢
 by_cases c3:cC lo 64=false
 ·rw[if_pos c3]
  exact zN R g cap bs t left lo ca cn cc sa sn sc sg w h ae hs ae hsg hne (fun p r hp=>hp8 t p r hp) 15 (fun W g1 cap1 p r hp hps hW=>gj R g1 cap1 _ lo _ 131 #[] 15 W hW wK (fun _ _=>rfl) (jn lo _ W ae (by rw[eW lo 256 64 ae ae]; exact c3)))
 rw[if_neg c3]at hx ⊢
 have c3':cC lo 64=true:=by simpa using c3
 have hlo8:∀p r,sg[t]? =some (p,r)->lo.size+p.size<=64:=fun p r hp=>wK;have hu:=aF (t:Int);have hle:=dD lo 64 ae
 by_cases c4:min 2048 left<(xs.length:Int)
 ·rw[if_pos c4]
  exact Ay R g cap bs t left lo ca cn cc sa sn sc sg w h ae hs ae hsg hne (fun p r hp=>hp8 t p r hp) hlo8 c3' 20 (fun W g2 cap2 hW hst hA hAg=>uT R g2 cap2 _ ca cn cc _ _ W hW ae)
 rw[if_neg c4]at hx ⊢;refine Ay R g cap bs t left lo ca cn cc sa sn sc sg w h ae hs ae hsg hne (fun p r hp=>hp8 t p r hp) hlo8 c3' _ (fun W g2 cap2 hW hst hA hAg=>?_);obtain⟨m1,m2,m3⟩:=Ff R g ca cn xs w hmem hcne hcbl hok hil hst;have hg2:g2≠0:=Ne.symm (hst.ne ae (Ne.symm hg0));exact AX R g2 cap2 _ ca cn cc (min 2048 left) w.heap.size xs W hW sV ae ae hR0 hg2 (hk.kept hst.k aK) hA ae hAg m1 m2 m3 hx
end
def cJ(xs:List FuM):Nat:=(xs.map fun x=>x.2.2.2.length).sum
variable {x:FuM}
theorem nN{xs:List FuM}(hx:xs[j]? =some x):cJ (xs.take (j+1))=cJ (xs.take j)+x.2.2.2.length:=by
 have hj:=az hx;rw[List.take_succ_eq_append_getElem hj];rw[aY hj]at hx;simp at hx;simp[cJ,hx]
def dY(sg:List Sg)(ah:List FuM)(x:FuM):Int:=gH sg (16384-cJ ah) x.1 x.2.1 x.2.2.2
def cQ(x:FuM):List Int:=xV x.1 x.2.1 x.2.2.2
structure OE(w:World)(R g L:Nat)(x:FuM):Prop where
 r0:-9223372036854775808<=x.1
 r1:x.1<9223372036854775808
 mem:AtIn w x.2.2.1.1 x.2.2.1.2.1 x.2.2.2
 ne:∀b off c,nz x.2.2.1.2.1 x.2.2.1.1=some ⟨b,off,c⟩->b≠R/\b≠g/\b≠L
 lt:∀b off c,nz x.2.2.1.2.1 x.2.2.1.1=some ⟨b,off,c⟩->b<w.heap.size
 ins:∀(j:Nat)y,x.2.2.2[j]? =some y->tT w R g y
 inl:∀(j:Nat)y,x.2.2.2[j]? =some y->∀b off c,nz y.2.2.1.2.1 y.2.2.1.1=some ⟨b,off,c⟩->b<w.heap.size/\b≠L
variable {left:Int}
theorem pO{sg:List Sg}{ty:Int}{lo:BAz}{xs:List InM}(h:gH sg left ty lo xs=0):lo.size<=64/\(xs.length:Int)<=left/\xs.length<=2048/\bB (fun _ x=>dH x) [] xs=0:=by
 unfold gH at h
 split at h
 ·cases h
 split at h
 ·cases h
 split at h
 ·cases h
 split at h
 ·cases h
 refine⟨ae,ae,ae,h⟩
theorem iP{sg:List Sg}(h:gH sg left x.1 x.2.1 x.2.2.2=0):(cQ x).length<=400000:=by
 obtain⟨h1,h2,h3,h4⟩:=pO h;have a:=aF x.1;have b:=dD x.2.1 64 h1;have c:=aF x.2.2.2.length;have d:=cH dG 171 x.2.2.2 (fun j y hj=>iQ (bC (fun _ x=>dH x) x.2.2.2 [] h4 j y hj));simp only[cQ,xV,List.length_append];have:x.2.2.2.length*171<=2048*171:=Nat.mul_le_mul_right _ h3;omega
section
variable (R g cap:Nat) (bs:LIz) (n:Nat) (A O L:Nat) (ta:OAz) (tn tc:Nat) (sg:List Sg) (w:World) (xs:List FuM)
theorem LJ(hok:∀(j:Nat)x,xs[j]? =some x->OE w R g L x)(hst:fG R L g g1 w W)(j:Nat)(x:FuM)(hx:xs[j]? =some x) :
  AtIn W x.2.2.1.1 x.2.2.1.2.1 x.2.2.2/\(∀b off c,nz x.2.2.1.2.1 x.2.2.1.1=some ⟨b,off,c⟩->b≠R/\b≠g1)/\(∀b off c,nz x.2.2.1.2.1 x.2.2.1.1=some ⟨b,off,c⟩->b<W.heap.size)/\(∀(i:Nat)y,x.2.2.2[i]? =some y->tT W R g1 y)/\(∀(i:Nat)y,x.2.2.2[i]? =some y->∀b off c,nz y.2.2.1.2.1 y.2.2.1.1=some ⟨b,off,c⟩->b<W.heap.size):=by
 have h:=hok j x hx;have hz:=hst.size;refine⟨h.mem.kept hst.k (fun b off c hb=>by have:=h.ne b off c hb; simp; omega),fun b off c hb=>⟨(h.ne b off c hb).1,hst.ne (h.lt b off c hb) (h.ne b off c hb).2.1⟩,fun b off c hb=>Nat.lt_of_lt_of_le (h.lt b off c hb) hz,fun i y hi=>?_,fun i y hi b off c hb=>Nat.lt_of_lt_of_le (h.inl i y hi b off c hb).1 hz⟩;have q:=h.ins i y hi;exact⟨q.r0,q.r1,q.seg.kept' hst.k (fun b off c hb=>by have:=q.ne b off c hb; have:=(h.inl i y hi b off c hb).2; simp; omega),fun b off c hb=>⟨(q.ne b off c hb).1,hst.ne (h.inl i y hi b off c hb).1 (q.ne b off c hb).2⟩⟩
theorem yI(h:Wr w R g cap bs)(hb:bs.length+500000000000<=1099511627776)(hn:n<=1000)(hR0:R≠0)(hg0:g≠0)(hk:bg w)(hL0:L≠0)(hA:w.cell? ⟨A,0,none⟩=some (cW R))(hAR:A≠R)(hAg:A≠g)(hAL:A≠L)(hO:w.cell? ⟨O,0,none⟩=some (.slice ta tn tc))(hOR:O≠R)(hOg:O≠g)(hOL:O≠L)(htn:tn<=100000)(hsg:cO w ta tn sg)(hsn:∀b off c,ta=some ⟨b,off,c⟩->b≠R/\b≠g/\b≠L)(hsl:∀b off c,ta=some ⟨b,off,c⟩->b<w.heap.size)(hp8:∀(t:Nat)p r,sg[t]? =some (p,r)->p.size<=8)(hLR:L≠R)(hLg:L≠g)(hok:∀(j:Nat)x,xs[j]? =some x->OE w R g L x)(hl:xs.length=n)(e:FuM->List Int)(k:Nat)(he:∀(i:Nat)y,xs[i]? =some y->i<k->e y=cQ y)(hall:∀(i:Nat)y,xs[i]? =some y->i<k->dY sg (xs.take i) y=0)(j:Nat)(x:FuM)(hx:xs[j]? =some x)(hjk:j<k) :
  Bz R g L (fun j=>16384-(cJ (xs.take j):Int)) w 110 #[.pointer (some ⟨A,0,none⟩),.pointer (some ⟨O,0,none⟩),.pointer (some ⟨L,0,none⟩)] bs n xs e (fun _ _=>True) j x:=by
 intro ys W g1 cap1 aa ac hyl hys hst hla hlg hwr hrow hab;have hlt:=az hx;have hchk:=hall j x hx hjk;have henc:=he j x hx hjk
 have hlen:((xs.take j).flatMap e).length<=j*400000:=by
  have:=cH e 400000 (xs.take j) (fun i y hi=>by
   have hij:i<j:=mB;rw[List.getElem?_take_of_lt hij]at hi;rw[he i y hi ae];exact iP (hall i y hi ae))
  exact oG
 have hu:=aF (n:Int)
 have hbb:(bs++ay n++(xs.take j).flatMap e).length<=bs.length+10+1000*400000:=by
  rw[List.length_append,List.length_append];have:j*400000<=1000*400000:=Nat.mul_le_mul_right _ ae;omega
 obtain⟨m1,m2,m3,m4,m5⟩:=LJ R g L w xs hok hst j x hx;have hkk:=pO hchk;have hxl:=(hok j x hx).mem.1;have hg1:g1≠0:=Ne.symm (hst.ne wD (Ne.symm hg0));have hkW:bg W:=hk.kept hst.k aK;have hsgW:=hsg.kept hst.k (fun b off c hb'=>by have:=hsn b off c hb'; simp; omega);have hcell:=hla.c;refine(Br R g1 cap1 _ x.1 x.2.1 x.2.2.1.1 x.2.2.1.2.1 x.2.2.1.2.2 aa j ac A O L ta tn tc (16384-(cJ (xs.take j):Int)) W hwr (hst.cell hA hAR hAg hAL) (hst.cell hO hOR hOg hOL) hla.c hla.f hLR hlg ae ae (bs++ay n++(xs.take j).flatMap e++e x) (fun W2 hb2=>?_)).mono ?_
 ·have hst2:=hst.trans (fG.of_below (L:=L) (R:=R) (g:=g1) hb2);obtain⟨p1,p2,p3,p4,p5⟩:=LJ R g L w xs hok hst2 j x hx
  refine(IB R g1 cap1 _ x.1 (16384-(cJ (xs.take j):Int)) x.2.1 x.2.2.1.1 x.2.2.1.2.1 x.2.2.1.2.2 ta tn tc sg x.2.2.2 W2 (hwr.later hb2) ae htn hR0 hg1 (hkW.later hb2 hkW.pos) (hsgW.later hb2) (fun b off c hb'=>⟨(hsn b off c hb').1,hst.ne (hsl b off c hb') (hsn b off c hb').2.1⟩) hp8 ae p1 p2 p3 p4 p5 hchk).mono ?_;rintro e' w' ⟨fa,fc,he',g',cap',hw',hs'⟩;refine⟨fa,fc,he',g',cap',?_,hs'⟩;rw[henc];exact hw'
 rintro e' w' ⟨fa,fc,he',hlc,hlf,g',cap',hw',hk',hm'⟩;refine⟨(x.1,x.2.1,(fa,x.2.2.1.2.1,fc)),he',trivial,g',cap',hw',⟨hk',hm'⟩,⟨?_,hlf⟩⟩;rw[hlc];show some (Value.int IntKind.i64 (16384-(cJ (xs.take j):Int)-(x.2.2.1.2.1:Int)))=some (Value.int IntKind.i64 (16384-(cJ (xs.take (j+1)):Int)));rw[nN hx]
 congr 2
 omega
theorem Pw(h:Wr w R g cap bs)(hb:bs.length+500000000000<=1099511627776)(hn:n<=1000)(hR0:R≠0)(hg0:g≠0)(hk:bg w)(hL0:L≠0)(hA:w.cell? ⟨A,0,none⟩=some (cW R))(hAR:A≠R)(hAg:A≠g)(hAL:A≠L)(hO:w.cell? ⟨O,0,none⟩=some (.slice ta tn tc))(hOR:O≠R)(hOg:O≠g)(hOL:O≠L)(htn:tn<=100000)(hsg:cO w ta tn sg)(hsn:∀b off c,ta=some ⟨b,off,c⟩->b≠R/\b≠g/\b≠L)(hsl:∀b off c,ta=some ⟨b,off,c⟩->b<w.heap.size)(hp8:∀(t:Nat)p r,sg[t]? =some (p,r)->p.size<=8)(hLR:L≠R)(hLg:L≠g)(hok:∀(j:Nat)x,xs[j]? =some x->OE w R g L x)(hl:xs.length=n)(ha:OAz)(hc:Nat)(hL:LAt w L 16384)(hmem:od w ha n xs)(hne:∀b off c,ha=some ⟨b,off,c⟩->b≠R/\b≠g/\b≠L)(hx:bK (dY sg) 128 xs=0) :
  Calls Tryz.prog 109 #[cW R,.slice ha n hc,.int .i64 128,.func (.func 110) #[] #[.pointer (some ⟨A,0,none⟩),.pointer (some ⟨O,0,none⟩),.pointer (some ⟨L,0,none⟩)]] w fun e w'=>∃(aa:OAz)(ac:Nat),e=.returned (.slice aa n ac)/\∃g' cap',Wr w' R g' cap' (bs++(ay n++xs.flatMap cQ))/\fG R L g g' w w':=by
 unfold bK at hx
 split at hx
 ·cases hx
 rename_i hm;have hall:=bC (dY sg) xs [] hx;have hall':∀(i:Nat)y,xs[i]? =some y->dY sg (xs.take i) y=0:=fun i y hi=>hall i y hi
 refine(xG R g cap bs ha n hc 128 110 _ w xs cQ (fun _ _=>True) 400000 L (fun j=>16384-(cJ (xs.take j):Int)) (by simpa[cJ] using hL) hLR hLg h ae ae hmem hne (fun _ _=>rfl) (fun j x hj=>iP (hall' j x hj)) ae ae
  (fun j x hj=>yI R g cap bs n A O L ta tn tc sg w xs h hb hn hR0 hg0 hk hL0 hA hAR hAg hAL hO hOR hOg hOL htn hsg hsn hsl hp8 hLR hLg hok hl cQ (j+1) (fun _ _ _ _=>rfl) (fun i y hi _=>hall' i y hi) j x hj ae)).mono ?_
 rintro e w' ⟨aa,ac,ys,he,hyl,hys,hrow,g',cap',hab,hw',hs',_⟩;exact⟨aa,ac,he,g',cap',wE,hs'⟩
theorem R9(h:Wr w R g cap bs)(hb:bs.length+500000000000<=1099511627776)(hn:n<=1000)(hR0:R≠0)(hg0:g≠0)(hk:bg w)(hL0:L≠0)(hA:w.cell? ⟨A,0,none⟩=some (cW R))(hAR:A≠R)(hAg:A≠g)(hAL:A≠L)(hO:w.cell? ⟨O,0,none⟩=some (.slice ta tn tc))(hOR:O≠R)(hOg:O≠g)(hOL:O≠L)(htn:tn<=100000)(hsg:cO w ta tn sg)(hsn:∀b off c,ta=some ⟨b,off,c⟩->b≠R/\b≠g/\b≠L)(hsl:∀b off c,ta=some ⟨b,off,c⟩->b<w.heap.size)(hp8:∀(t:Nat)p r,sg[t]? =some (p,r)->p.size<=8)(hLR:L≠R)(hLg:L≠g)(hok:∀(j:Nat)x,xs[j]? =some x->OE w R g L x)(hl:xs.length=n)(ha:OAz)(hc:Nat)(hL:LAt w L 16384)(hmem:od w ha n xs)(hne:∀b off c,ha=some ⟨b,off,c⟩->b≠R/\b≠g/\b≠L)(hx:bK (dY sg) 128 xs≠0) :
  Calls Tryz.prog 109 #[cW R,.slice ha n hc,.int .i64 128,.func (.func 110) #[] #[.pointer (some ⟨A,0,none⟩),.pointer (some ⟨O,0,none⟩),.pointer (some ⟨L,0,none⟩)]] w (Fp R L g (bK (dY sg) 128 xs) w):=by
 unfold bK at hx ⊢
 by_cases hm:(128:Int)<xs.length
 ·rw[if_pos hm];refine(nX R g cap bs ha n hc 128 _ w h ae).mono ?_;rintro e w' ⟨hp,hk'⟩
  exact⟨hp,hk'.mono (fun k hk=>ae)⟩
 rw[if_neg hm]at hx ⊢;obtain⟨k,x,h1,h2,h3,h4⟩:=ej (dY sg) xs [] hx;have hall:=bC (dY sg) (xs.take k) [] h2
 have hall':∀(i:Nat)y,xs[i]? =some y->i<k->dY sg (xs.take i) y=0:=fun i y hi hik=>by
  have hh:=hall i y vU
  have e:(xs.take k).take i=xs.take i:=by rw[List.take_take]; congr 1; omega
  simp only[List.nil_append,e]at hh;exact hh
 rw[h4];simp only[List.nil_append]at h3 ⊢
 obtain⟨E,hE⟩:∃E:FuM->List Int,E=fun y=>if (cQ y).length<=400000 then cQ y else []:=⟨_,rfl⟩
 have hEl:∀y,(E y).length<=400000:=fun y=>by
  rw[hE];show(if (cQ y).length<=400000 then cQ y else []).length<=400000
  split
  ·assumption
  simp
 have hEe:∀(i:Nat)z,xs[i]? =some z->i<k->E z=cQ z:=fun i z hi hik=>by
  rw[hE];exact if_pos (iP (hall' i z hi hik))
 refine yY R g cap bs ha n hc 128 110 _ w xs E (fun _ _=>True) 400000 L (fun j=>16384-(cJ (xs.take j):Int)) (by simpa[cJ] using hL) hLR hLg h ae ae hmem hne (fun _ _=>rfl) (fun j y hj=>hEl y) ae ae k x _ h1
  (fun j y hj hjk=>yI R g cap bs n A O L ta tn tc sg w xs h hb hn hR0 hg0 hk hL0 hA hAR hAg hAL hO hOR hOg hOL htn hsg hsn hsl hp8 hLR hLg hok hl E k hEe hall' j y hj hjk) ?_
 intro ys W g1 cap1 aa ac hyl hys hst hla hlg hwr hrow hab;have hlt:=az h1;have hu:=aF (n:Int)
 have hbb:(bs++ay n++(xs.take k).flatMap E).length<=bs.length+10+1000*400000:=by
  have hf:=cH E 400000 (xs.take k) (fun i y _=>hEl y);rw[List.length_take]at hf;have e1:min k xs.length=k:=ae;rw[e1]at hf;rw[List.length_append,List.length_append];have:k*400000<=1000*400000:=Nat.mul_le_mul_right _ ae;omega
 have hg1:g1≠0:=Ne.symm (hst.ne wD (Ne.symm hg0));have hkW:bg W:=hk.kept hst.k aK;have hsgW:=hsg.kept hst.k (fun b off c hb'=>by have:=hsn b off c hb'; simp; omega);refine I5 R g1 cap1 _ x.1 x.2.1 x.2.2.1.1 x.2.2.1.2.1 x.2.2.1.2.2 aa k ac A O L ta tn tc (16384-(cJ (xs.take k):Int)) W hwr (hst.cell hA hAR hAg hAL) (hst.cell hO hOR hOg hOL) hla.c _ (fun W2 hb2=>?_);have hst2:=hst.trans (fG.of_below (L:=L) (R:=R) (g:=g1) hb2);obtain⟨p1,p2,p3,p4,p5⟩:=LJ R g L w xs hok hst2 k x h1;exact I9 R g1 cap1 _ x.1 (16384-(cJ (xs.take k):Int)) x.2.1 x.2.2.1.1 x.2.2.1.2.1 x.2.2.1.2.2 ta tn tc sg x.2.2.2 W2 (hwr.later hb2) ae htn hR0 hg1 (hkW.later hb2 hkW.pos) (hsgW.later hb2) (fun b off c hb'=>⟨(hsn b off c hb').1,hst.ne (hsl b off c hb') (hsn b off c hb').2.1⟩) hp8 ae p1 p2 p3 p4 p5 (hok k x h1).r0 (hok k x h1).r1 ae h3
end
end Go.Proofs.YtepcmfegggdjfaaGreatDoor
