/-
  Texts Sd.
-/
import Derived.Test.YtheefojaplnnoaaGreatDoorY00
import Derived.Test.YtheefojaplnnoaaGreatDoorY15
import Derived.Test.YtheefojaplnnoaaGreatDoorY17
set_option linter.unusedVariables false
set_option maxRecDepth 100000
set_option maxHeartbeats 16000000
namespace Go.Proofs.YtheefojaplnnoaaGreatDoor
open Go.RowKit
def bG(xs:List FuM):Nat:=(xs.map fun x=>x.2.2.2.length).sum
theorem og{xs:List FuM}{j:Nat}{x:FuM}(hx:xs[j]? =some x):bG (xs.take (j+1))=bG (xs.take j)+x.2.2.2.length:=by
 have hj:=aK hx;rw[List.take_succ_eq_append_getElem hj];rw[aO hj]at hx
 simp at hx
 simp[bG,hx]
def fH(sg:List Sg)(ah:List FuM)(x:FuM):Int:=fp sg (16384-bG ah) x.1 x.2.1 x.2.2.2
def cK(x:FuM):List Int:=iI x.1 x.2.1 x.2.2.2
structure IM(w:World)(R g L:Nat)(x:FuM):Prop where
 r0:-9223372036854775808≤x.1
 r1:x.1<9223372036854775808
 mem:AtIn w x.2.2.1.1 x.2.2.1.2.1 x.2.2.2
 ne:∀b off c,nz x.2.2.1.2.1 x.2.2.1.1=some ⟨b,off,c⟩→b≠R∧b≠g∧b≠L
 lt:∀b off c,nz x.2.2.1.2.1 x.2.2.1.1=some ⟨b,off,c⟩→b<w.heap.size
 ins:∀(j:Nat)y,x.2.2.2[j]? =some y→qQ w R g y
 inl:∀(j:Nat)y,x.2.2.2[j]? =some y→∀b off c,nz y.2.2.1.2.1 y.2.2.1.1=some ⟨b,off,c⟩→b<w.heap.size∧b≠L
theorem pQ{sg:List Sg}{left:Int}{ty:Int}{lo:ByteArray}{xs:List InM}(h:fp sg left ty lo xs=0):lo.size≤64∧(xs.length:Int)≤left∧xs.length≤2048∧aU (fun _ x=>dV x) [] xs=0:=by
 unfold fp at h
 split at h
 ·cases h
 ·split at h
  ·cases h
  ·split at h
   ·cases h
   ·split at h
    ·cases h
    ·refine⟨ae,ae,ae,h⟩
theorem ml{sg:List Sg}{left:Int}{x:FuM}(h:fp sg left x.1 x.2.1 x.2.2.2=0):(cK x).length≤400000:=by
 obtain⟨h1,h2,h3,h4⟩:=pQ h;have a:=aG x.1;have b:=fU x.2.1 64 h1;have c:=aG x.2.2.2.length
 have d:=dI fF 171 x.2.2.2 (fun j y hj=>oO (bp (fun _ x=>dV x) x.2.2.2 [] h4 j y hj))
 simp only[cK,iI,List.length_append]
 have:x.2.2.2.length*171≤2048*171:=Nat.mul_le_mul_right _ h3;omega
section
variable (R g cap:Nat) (bs:List Int) (n:Nat) (A O L:Nat) (ta:Option Addr) (tn tc:Nat) (sg:List Sg) (w:World) (xs:List FuM)
theorem Iq(hok:∀(j:Nat)x,xs[j]? =some x→IM w R g L x){W:World}{g1:Nat}(hst:fy R L g g1 w W)(j:Nat)(x:FuM)(hx:xs[j]? =some x) :
  AtIn W x.2.2.1.1 x.2.2.1.2.1 x.2.2.2∧(∀b off c,nz x.2.2.1.2.1 x.2.2.1.1=some ⟨b,off,c⟩→b≠R∧b≠g1)∧(∀b off c,nz x.2.2.1.2.1 x.2.2.1.1=some ⟨b,off,c⟩→b<W.heap.size)∧(∀(i:Nat)y,x.2.2.2[i]? =some y→qQ W R g1 y)∧(∀(i:Nat)y,x.2.2.2[i]? =some y→∀b off c,nz y.2.2.1.2.1 y.2.2.1.1=some ⟨b,off,c⟩→b<W.heap.size):=by
 have h:=hok j x hx;have hz:=hst.size
 refine⟨h.mem.kept hst.k (fun b off c hb=>by have:=h.ne b off c hb; simp; omega),fun b off c hb=>⟨(h.ne b off c hb).1,hst.ne (h.lt b off c hb) (h.ne b off c hb).2.1⟩,fun b off c hb=>Nat.lt_of_lt_of_le (h.lt b off c hb) hz,fun i y hi=>?_,fun i y hi b off c hb=>Nat.lt_of_lt_of_le (h.inl i y hi b off c hb).1 hz⟩
 have q:=h.ins i y hi
 exact⟨q.r0,q.r1,q.seg.kept' hst.k (fun b off c hb=>by have:=q.ne b off c hb; have:=(h.inl i y hi b off c hb).2; simp; omega),fun b off c hb=>⟨(q.ne b off c hb).1,hst.ne (h.inl i y hi b off c hb).1 (q.ne b off c hb).2⟩⟩
theorem xM(h:Wr w R g cap bs)(hb:bs.length+500000000000≤1099511627776)(hn:n≤1000)(hR0:R≠0)(hg0:g≠0)(hk:aP w)(hL0:L≠0)(hA:w.cell? ⟨A,0,none⟩=some (cW R))(hAR:A≠R)(hAg:A≠g)(hAL:A≠L)(hO:w.cell? ⟨O,0,none⟩=some (.slice ta tn tc))(hOR:O≠R)(hOg:O≠g)(hOL:O≠L)(htn:tn≤100000)(hsg:b9 w ta tn sg)(hsn:∀b off c,ta=some ⟨b,off,c⟩→b≠R∧b≠g∧b≠L)(hsl:∀b off c,ta=some ⟨b,off,c⟩→b<w.heap.size)(hp8:∀(t:Nat)p r,sg[t]? =some (p,r)→p.size≤8)(hLR:L≠R)(hLg:L≠g)(hok:∀(j:Nat)x,xs[j]? =some x→IM w R g L x)(hl:xs.length=n)(e:FuM→List Int)(k:Nat)(he:∀(i:Nat)y,xs[i]? =some y→i<k→e y=cK y)(hall:∀(i:Nat)y,xs[i]? =some y→i<k→fH sg (xs.take i) y=0)(j:Nat)(x:FuM)(hx:xs[j]? =some x)(hjk:j<k) :
  zP R g L (fun j=>16384-(bG (xs.take j):Int)) w 142 #[.pointer (some ⟨A,0,none⟩),.pointer (some ⟨O,0,none⟩),.pointer (some ⟨L,0,none⟩)] bs n xs e (fun _ _=>True) j x:=by
 intro ys W g1 cap1 aa ac hyl hys hst hla hlg hwr hrow hab;have hlt:=aK hx;have hchk:=hall j x hx hjk;have henc:=he j x hx hjk
 have hlen:((xs.take j).flatMap e).length≤j*400000:=by
  have:=dI e 400000 (xs.take j) (fun i y hi=>by
   have hij:i<j:=mL;rw[List.getElem?_take_of_lt hij]at hi;rw[he i y hi ae];exact ml (hall i y hi ae))
  exact oZ
 have hu:=aG (n:Int)
 have hbb:(bs++ax n++(xs.take j).flatMap e).length≤bs.length+10+1000*400000:=by
  rw[List.length_append,List.length_append];have:j*400000≤1000*400000:=Nat.mul_le_mul_right _ ae;omega
 obtain⟨m1,m2,m3,m4,m5⟩:=Iq R g L w xs hok hst j x hx;have hkk:=pQ hchk;have hxl:=(hok j x hx).mem.1;have hg1:g1≠0:=Ne.symm (hst.ne wF (Ne.symm hg0));have hkW:aP W:=hk.kept hst.k aI
 have hsgW:=hsg.kept hst.k (fun b off c hb'=>by have:=hsn b off c hb'; simp; omega)
 have hcell:=hla.c
 refine(zG R g1 cap1 _ x.1 x.2.1 x.2.2.1.1 x.2.2.1.2.1 x.2.2.1.2.2 aa j ac A O L ta tn tc (16384-(bG (xs.take j):Int)) W hwr (hst.cell hA hAR hAg hAL) (hst.cell hO hOR hOg hOL) hla.c hla.f hLR hlg ae ae (bs++ax n++(xs.take j).flatMap e++e x) (fun W2 hb2=>?_)).mono ?_
 ·have hst2:=hst.trans (fy.of_below (L:=L) (R:=R) (g:=g1) hb2);obtain⟨p1,p2,p3,p4,p5⟩:=Iq R g L w xs hok hst2 j x hx
  refine(Eo R g1 cap1 _ x.1 (16384-(bG (xs.take j):Int)) x.2.1 x.2.2.1.1 x.2.2.1.2.1 x.2.2.1.2.2 ta tn tc sg x.2.2.2 W2 (hwr.later hb2) ae htn hR0 hg1 (hkW.later hb2 hkW.pos) (hsgW.later hb2) (fun b off c hb'=>⟨(hsn b off c hb').1,hst.ne (hsl b off c hb') (hsn b off c hb').2.1⟩) hp8 ae p1 p2 p3 p4 p5 hchk).mono ?_
  rintro e' w' ⟨fa,fc,he',g',cap',hw',hs'⟩;refine⟨fa,fc,he',g',cap',?_,hs'⟩;rw[henc];exact hw'
 ·rintro e' w' ⟨fa,fc,he',hlc,hlf,g',cap',hw',hk',hm'⟩;refine⟨(x.1,x.2.1,(fa,x.2.2.1.2.1,fc)),he',trivial,g',cap',hw',⟨hk',hm'⟩,⟨?_,hlf⟩⟩;rw[hlc]
  show some (Value.int IntKind.i64 (16384-(bG (xs.take j):Int)-(x.2.2.1.2.1:Int)))=some (Value.int IntKind.i64 (16384-(bG (xs.take (j+1)):Int)))
  rw[og hx]
  congr 2
  omega
theorem KT(h:Wr w R g cap bs)(hb:bs.length+500000000000≤1099511627776)(hn:n≤1000)(hR0:R≠0)(hg0:g≠0)(hk:aP w)(hL0:L≠0)(hA:w.cell? ⟨A,0,none⟩=some (cW R))(hAR:A≠R)(hAg:A≠g)(hAL:A≠L)(hO:w.cell? ⟨O,0,none⟩=some (.slice ta tn tc))(hOR:O≠R)(hOg:O≠g)(hOL:O≠L)(htn:tn≤100000)(hsg:b9 w ta tn sg)(hsn:∀b off c,ta=some ⟨b,off,c⟩→b≠R∧b≠g∧b≠L)(hsl:∀b off c,ta=some ⟨b,off,c⟩→b<w.heap.size)(hp8:∀(t:Nat)p r,sg[t]? =some (p,r)→p.size≤8)(hLR:L≠R)(hLg:L≠g)(hok:∀(j:Nat)x,xs[j]? =some x→IM w R g L x)(hl:xs.length=n)(ha:Option Addr)(hc:Nat)(hL:LAt w L 16384)(hmem:oq w ha n xs)(hne:∀b off c,ha=some ⟨b,off,c⟩→b≠R∧b≠g∧b≠L)(hx:bB (fH sg) 128 xs=0) :
  Calls Tryz.prog 141 #[cW R,.slice ha n hc,.int .i64 128,.func (.func 142) #[] #[.pointer (some ⟨A,0,none⟩),.pointer (some ⟨O,0,none⟩),.pointer (some ⟨L,0,none⟩)]] w fun e w'=>∃(aa:Option Addr)(ac:Nat),e=.returned (.slice aa n ac)∧∃g' cap',Wr w' R g' cap' (bs++(ax n++xs.flatMap cK))∧fy R L g g' w w':=by
 unfold bB at hx
 split at hx
 ·cases hx
 rename_i hm
 have hall:=bp (fH sg) xs [] hx
 have hall':∀(i:Nat)y,xs[i]? =some y→fH sg (xs.take i) y=0:=fun i y hi=>hall i y hi
 refine(uL R g cap bs ha n hc 128 142 _ w xs cK (fun _ _=>True) 400000 L (fun j=>16384-(bG (xs.take j):Int)) (by simpa[bG] using hL) hLR hLg h ae ae hmem hne (fun _ _=>rfl) (fun j x hj=>ml (hall' j x hj)) ae ae
  (fun j x hj=>xM R g cap bs n A O L ta tn tc sg w xs h hb hn hR0 hg0 hk hL0 hA hAR hAg hAL hO hOR hOg hOL htn hsg hsn hsl hp8 hLR hLg hok hl cK (j+1) (fun _ _ _ _=>rfl) (fun i y hi _=>hall' i y hi) j x hj ae)).mono ?_
 rintro e w' ⟨aa,ac,ys,he,hyl,hys,hrow,g',cap',hab,hw',hs',_⟩;exact⟨aa,ac,he,g',cap',wZ,hs'⟩
theorem OB(h:Wr w R g cap bs)(hb:bs.length+500000000000≤1099511627776)(hn:n≤1000)(hR0:R≠0)(hg0:g≠0)(hk:aP w)(hL0:L≠0)(hA:w.cell? ⟨A,0,none⟩=some (cW R))(hAR:A≠R)(hAg:A≠g)(hAL:A≠L)(hO:w.cell? ⟨O,0,none⟩=some (.slice ta tn tc))(hOR:O≠R)(hOg:O≠g)(hOL:O≠L)(htn:tn≤100000)(hsg:b9 w ta tn sg)(hsn:∀b off c,ta=some ⟨b,off,c⟩→b≠R∧b≠g∧b≠L)(hsl:∀b off c,ta=some ⟨b,off,c⟩→b<w.heap.size)(hp8:∀(t:Nat)p r,sg[t]? =some (p,r)→p.size≤8)(hLR:L≠R)(hLg:L≠g)(hok:∀(j:Nat)x,xs[j]? =some x→IM w R g L x)(hl:xs.length=n)(ha:Option Addr)(hc:Nat)(hL:LAt w L 16384)(hmem:oq w ha n xs)(hne:∀b off c,ha=some ⟨b,off,c⟩→b≠R∧b≠g∧b≠L)(hx:bB (fH sg) 128 xs≠0) :
  Calls Tryz.prog 141 #[cW R,.slice ha n hc,.int .i64 128,.func (.func 142) #[] #[.pointer (some ⟨A,0,none⟩),.pointer (some ⟨O,0,none⟩),.pointer (some ⟨L,0,none⟩)]] w (Bw R L g (bB (fH sg) 128 xs) w):=by
 unfold bB at hx ⊢
 by_cases hm:(128:Int)<xs.length
 ·rw[if_pos hm];refine(nW R g cap bs ha n hc 128 _ w h ae).mono ?_;rintro e w' ⟨hp,hk'⟩
  exact⟨hp,hk'.mono (fun k hk=>ae)⟩
 rw[if_neg hm]at hx ⊢;obtain⟨k,x,h1,h2,h3,h4⟩:=dW (fH sg) xs [] hx;have hall:=bp (fH sg) (xs.take k) [] h2
 have hall':∀(i:Nat)y,xs[i]? =some y→i<k→fH sg (xs.take i) y=0:=fun i y hi hik=>by
  have hh:=hall i y A2
  have e:(xs.take k).take i=xs.take i:=by rw[List.take_take]; congr 1; omega
  simp only[List.nil_append,e]at hh
  exact hh
 rw[h4]
 simp only[List.nil_append]at h3 ⊢
 obtain⟨E,hE⟩:∃E:FuM→List Int,E=fun y=>if (cK y).length≤400000 then cK y else []:=⟨_,rfl⟩
 have hEl:∀y,(E y).length≤400000:=fun y=>by
  rw[hE]
  show(if (cK y).length≤400000 then cK y else []).length≤400000
  split
  ·assumption
  ·simp
 have hEe:∀(i:Nat)z,xs[i]? =some z→i<k→E z=cK z:=fun i z hi hik=>by
  rw[hE];exact if_pos (ml (hall' i z hi hik))
 refine xE R g cap bs ha n hc 128 142 _ w xs E (fun _ _=>True) 400000 L (fun j=>16384-(bG (xs.take j):Int)) (by simpa[bG] using hL) hLR hLg h ae ae hmem hne (fun _ _=>rfl) (fun j y hj=>hEl y) ae ae k x _ h1
  (fun j y hj hjk=>xM R g cap bs n A O L ta tn tc sg w xs h hb hn hR0 hg0 hk hL0 hA hAR hAg hAL hO hOR hOg hOL htn hsg hsn hsl hp8 hLR hLg hok hl E k hEe hall' j y hj hjk) ?_
 intro ys W g1 cap1 aa ac hyl hys hst hla hlg hwr hrow hab;have hlt:=aK h1;have hu:=aG (n:Int)
 have hbb:(bs++ax n++(xs.take k).flatMap E).length≤bs.length+10+1000*400000:=by
  have hf:=dI E 400000 (xs.take k) (fun i y _=>hEl y)
  rw[List.length_take]at hf;have e1:min k xs.length=k:=ae;rw[e1]at hf;rw[List.length_append,List.length_append];have:k*400000≤1000*400000:=Nat.mul_le_mul_right _ ae;omega
 have hg1:g1≠0:=Ne.symm (hst.ne wF (Ne.symm hg0));have hkW:aP W:=hk.kept hst.k aI
 have hsgW:=hsg.kept hst.k (fun b off c hb'=>by have:=hsn b off c hb'; simp; omega)
 refine FH R g1 cap1 _ x.1 x.2.1 x.2.2.1.1 x.2.2.1.2.1 x.2.2.1.2.2 aa k ac A O L ta tn tc (16384-(bG (xs.take k):Int)) W hwr (hst.cell hA hAR hAg hAL) (hst.cell hO hOR hOg hOL) hla.c _ (fun W2 hb2=>?_)
 have hst2:=hst.trans (fy.of_below (L:=L) (R:=R) (g:=g1) hb2);obtain⟨p1,p2,p3,p4,p5⟩:=Iq R g L w xs hok hst2 k x h1
 exact EU R g1 cap1 _ x.1 (16384-(bG (xs.take k):Int)) x.2.1 x.2.2.1.1 x.2.2.1.2.1 x.2.2.1.2.2 ta tn tc sg x.2.2.2 W2 (hwr.later hb2) ae htn hR0 hg1 (hkW.later hb2 hkW.pos) (hsgW.later hb2) (fun b off c hb'=>⟨(hsn b off c hb').1,hst.ne (hsl b off c hb') (hsn b off c hb').2.1⟩) hp8 ae p1 p2 p3 p4 p5 (hok k x h1).r0 (hok k x h1).r1 ae h3
end
end Go.Proofs.YtheefojaplnnoaaGreatDoor
