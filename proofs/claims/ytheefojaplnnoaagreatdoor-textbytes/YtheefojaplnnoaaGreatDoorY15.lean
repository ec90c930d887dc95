/-
  Texts Sa Sb Lex.
-/
import Derived.Test.YtheefojaplnnoaaGreatDoorY00
import Derived.Test.YtheefojaplnnoaaGreatDoorY05
import Derived.Test.YtheefojaplnnoaaGreatDoorY07
import Derived.Test.YtheefojaplnnoaaGreatDoorY08
import Derived.Test.YtheefojaplnnoaaGreatDoorY09
import Derived.Test.YtheefojaplnnoaaGreatDoorY14
set_option linter.unusedVariables false
set_option maxRecDepth 100000
set_option maxHeartbeats 16000000
namespace Go.Proofs.YtheefojaplnnoaaGreatDoor
open Go.RowKit
theorem ma{w:World}{b i:Nat}{cs:Array Value}{t:TypeId}{v:Value}(h:w.heap[b]? =some (.cells cs t))(hi:i<cs.size):(w.setCell ⟨b,i,none⟩ v).heap[b]? =some (.cells (cs.setIfInBounds i v) t):=by
 have hb:b<w.heap.size:=by
  rcases Nat.lt_or_ge b w.heap.size with hl | hl
  ·exact hl
  ·rw[Array.getElem?_eq_none hl]at h; cases h
 have hg:w.heap[b]=.cells cs t:=by rw[Array.getElem?_eq_getElem hb]at h; simpa using h
 simp[World.setCell,hb,Array.getElem_modify,hg]
theorem av{w:World}{b:Nat}{v0 v1 v2 v3 v4 v5 v6 v7:Value}{t:TypeId}(h:w.heap[b]? =some (.cells #[v0,v1,v2,v3,v4,v5,v6,v7] t)) :
  (w.cell? ⟨b,0,none⟩=some v0∧w.cell? ⟨b,1,none⟩=some v1∧w.cell? ⟨b,2,none⟩=some v2∧w.cell? ⟨b,3,none⟩=some v3∧w.cell? ⟨b,4,none⟩=some v4∧w.cell? ⟨b,5,none⟩=some v5∧w.cell? ⟨b,6,none⟩=some v6∧w.cell? ⟨b,7,none⟩=some v7) ∧
  (w.frozen? ⟨b,0,none⟩=false∧w.frozen? ⟨b,1,none⟩=false∧w.frozen? ⟨b,2,none⟩=false∧w.frozen? ⟨b,3,none⟩=false∧w.frozen? ⟨b,4,none⟩=false∧w.frozen? ⟨b,5,none⟩=false∧w.frozen? ⟨b,6,none⟩=false∧w.frozen? ⟨b,7,none⟩=false):=by
 simp[World.cell?,World.frozen?,h]
theorem ok_eq{α:Type}{xs ys:List α}(hl:ys.length≤xs.length)(h:∀(i:Nat)y,ys[i]? =some y→∃x,xs[i]? =some x∧y=x):ys=xs.take ys.length:=by
 apply List.ext_getElem?
 intro i
 by_cases hi:i<ys.length
 ·rw[List.getElem?_take_of_lt hi];obtain⟨x,h1,h2⟩:=h i ys[i] (aO hi);rw[aO hi,h1,h2]
 ·rw[List.getElem?_eq_none ae,List.getElem?_eq_none aI]
theorem lA{w:World}{aa:Option Addr}{j ac:Nat}{ys:List Sg}(hl:ys.length=j)(hj:j≤1099511627776)(h:w.ownsRow 0 73 2 (.slice aa j ac) j (ys.flatMap eP)):b9 w aa j ys:=by
 refine⟨hl,hj,?_⟩
 rcases Nat.eq_zero_or_pos j with h0 | h0
 ·exact .inl h0
 ·right;obtain⟨y,hy⟩:∃y,ys[0]? =some y:=⟨_,aO ae⟩
  obtain⟨B,hB,_⟩:=jF (oc:=eP) (t:=0) (u:=.string y.1) (fun _=>rfl) h hy rfl
  refine⟨B,0,hB,fun i x hi=>?_⟩
  obtain⟨B1,hB1,c1⟩:=jF (oc:=eP) (t:=0) (u:=.string x.1) (fun _=>rfl) h hi rfl
  obtain⟨B2,hB2,c2⟩:=jF (oc:=eP) (t:=1) (u:=.string x.2) (fun _=>rfl) h hi rfl
  rw[hB]at hB1 hB2
  simp at hB1 hB2
  subst hB1 hB2
  exact⟨qY,by simpa using c2⟩
section
variable (R g cap:Nat) (bs:List Int) (ha:Option Addr) (n hc:Nat) (A:Nat) (w:World)
theorem xA(xs:List Sg)(h:Wr w R g cap bs)(hb:bs.length+300000000000≤1099511627776)(hn:n≤100000)(hA:w.cell? ⟨A,0,none⟩=some (cW R))(hAR:A≠R)(hAg:A≠g)(hl:xs.length=n)(enc:Sg→List Int)(k:Nat)(henc:∀(i:Nat)y,xs[i]? =some y→i<k→enc y=bK y)(hall:∀(i:Nat)y,xs[i]? =some y→i<k→cQ (xs.take i) y=0)
  (j:Nat) (x:Sg) (hx:xs[j]? =some x) (hjk:j<k):KS R g w 132 #[.pointer (some ⟨A,0,none⟩)] bs n xs enc (fun x y=>y=x) j x:=by
 intro ys W g1 cap1 aa ac hyl hys hst hwr hrow hab;have hlt:=aK hx;have hye:=ok_eq ae hys;rw[hyl]at hye;have hchk:=hall j x hx hjk;have hok:=gp hchk
 have hlen:((xs.take j).flatMap enc).length≤j*36:=by
  have:=dI enc 36 (xs.take j) (fun i y hi=>by
   have hij:i<j:=mL;rw[List.getElem?_take_of_lt hij]at hi;rw[henc i y hi ae]
   have:=gp (hall i y hi ae)
   exact jH y this.1 this.2.2.1)
  exact Du
 have hu:=aG (n:Int);have hRs:=hst.size
 refine(AX R g1 cap1 _ x aa j ac A W hwr (hst.cell hA hAR hAg) (fun y=>y=x) (bs++ax n++(xs.take j).flatMap enc++enc x) (fun W2 hb2=>?_)).mono ?_
 ·have hsig:=(lA hyl ae hrow).later hb2;rw[hye]at hsig
  refine(zU R g1 cap1 _ x.1 x.2 aa j ac (xs.take j) W2 (hwr.later hb2) sf hsig (fun b off c hbb=>⟨?_,(hab _ hbb).2⟩) hchk).mono ?_
  ·have h1:=(hab _ hbb).1;have h2:=h.lt
   simp only at h1
   omega
  ·rintro e w' ⟨he,g',cap',hw',hs'⟩;refine⟨x,he,rfl,g',cap',?_,hs'⟩;rw[henc j x hx hjk];exact hw'
 ·rintro e w' ⟨y,he,hy,g',cap',hw',hs'⟩;exact⟨y,he,hy,g',cap',hw',hs'⟩
theorem E9(xs:List Sg)(h:Wr w R g cap bs)(hb:bs.length+300000000000≤1099511627776)(hA:w.cell? ⟨A,0,none⟩=some (cW R))(hAR:A≠R)(hAg:A≠g)(hmem:jf w ha n xs)(hne:∀b off c,ha=some ⟨b,off,c⟩→b≠R∧b≠g)(hx:bB cQ 64 xs=0) :
  Calls Tryz.prog 131 #[cW R,.slice ha n hc,.int .i64 64,.func (.func 132) #[] #[.pointer (some ⟨A,0,none⟩)]] w fun e w'=>∃(aa:Option Addr)(ac:Nat),e=.returned (.slice aa n ac)∧b9 w' aa n xs∧∃g' cap',(∀b,aa=some b→w.heap.size≤b.block∧b.block≠g'∧b.block<w'.heap.size)∧Wr w' R g' cap' (bs++(ax n++xs.flatMap bK))∧Stp R g g' w w':=by
 have hl:=hmem.1;unfold bB at hx
 split at hx
 ·cases hx
 rename_i hm
 have hall:=bp cQ xs [] hx
 have hall':∀(i:Nat)y,xs[i]? =some y→cQ (xs.take i) y=0:=fun i y hi=>by simpa using hall i y hi
 refine(xS R g cap bs ha n hc 64 132 _ w xs bK (fun x y=>y=x) 36 h ae ae hmem hne (fun _ _=>rfl) (fun j x hj=>by have:=gp (hall' j x hj); exact jH x this.1 this.2.2.1) ae ae
  (fun j x hj=>xA R g cap bs n A w xs h hb ae hA hAR hAg hl bK (j+1) (fun _ _ _ _=>rfl) (fun i y hi _=>hall' i y hi) j x hj ae)).mono ?_
 rintro e w' ⟨aa,ac,ys,he,hyl,hys,hrow,g',cap',hab,hw',hs'⟩;have hye:=ok_eq ae hys;rw[hyl,List.take_of_length_le ae]at hye;subst hye
 exact⟨aa,ac,he,lA hyl ae hrow,g',cap',fun b hb'=>⟨(hab b hb').1,(hab b hb').2,ay hrow (dM hrow hb')⟩,wZ,hs'⟩
theorem Ha(xs:List Sg)(h:Wr w R g cap bs)(hb:bs.length+300000000000≤1099511627776)(hA:w.cell? ⟨A,0,none⟩=some (cW R))(hAR:A≠R)(hAg:A≠g)(hmem:jf w ha n xs)(hne:∀b off c,ha=some ⟨b,off,c⟩→b≠R∧b≠g)(hx:bB cQ 64 xs≠0) :
  Calls Tryz.prog 131 #[cW R,.slice ha n hc,.int .i64 64,.func (.func 132) #[] #[.pointer (some ⟨A,0,none⟩)]] w (aT R g (bB cQ 64 xs) w):=by
 have hl:=hmem.1;unfold bB at hx ⊢
 by_cases hm:(64:Int)<xs.length
 ·rw[if_pos hm];exact wX R g cap bs ha n hc 64 _ w h ae
 rw[if_neg hm]at hx ⊢;obtain⟨k,x,h1,h2,h3,h4⟩:=dW cQ xs [] hx;have hall:=bp cQ (xs.take k) [] h2
 have hall':∀(i:Nat)y,xs[i]? =some y→i<k→cQ (xs.take i) y=0:=fun i y hi hik=>by
  have:=hall i y A2
  rw[List.take_take]at this;have e:min i k=i:=ae;rw[e]at this;exact bJ
 rw[h4]
 simp only[List.nil_append]at h3 h4 ⊢
 refine A9 R g cap bs ha n hc 64 132 _ w xs (fun y=>if y.1.size≤8∧y.2.size≤8 then bK y else []) (fun x y=>y=x) 36 h ae ae hmem hne (fun _ _=>rfl) (fun j y hj=>?_) ae ae k x _ h1
  (fun j y hj hjk=>xA R g cap bs n A w xs h hb ae hA hAR hAg hl _ k (fun i z hi hik=>?_) hall' j y hj hjk) ?_
 ·show(if y.1.size≤8∧y.2.size≤8 then bK y else []).length≤36
  split
  ·rename_i hh; exact jH y hh.1 hh.2
  ·simp
 ·have:=gp (hall' i z hi hik)
  exact if_pos ⟨this.1,this.2.2.1⟩
 ·intro ys W g1 cap1 aa ac hyl hys hst hwr hrow hab;have hlt:=aK h1;have hye:=ok_eq ae hys;rw[hyl]at hye
  refine Fy R g1 cap1 _ x aa k ac A W hwr (hst.cell hA hAR hAg) _ (fun W2 hb2=>?_)
  have hsig:=(lA hyl ae hrow).later hb2;rw[hye]at hsig
  have hbb2:((xs.take k).flatMap (fun y=>if y.1.size≤8∧y.2.size≤8 then bK y else [])).length≤k*36:=by
   have:=dI (fun y:Sg=>if y.1.size≤8∧y.2.size≤8 then bK y else []) 36 (xs.take k) (fun i y hi=>by
    show(if y.1.size≤8∧y.2.size≤8 then bK y else []).length≤36
    split
    ·rename_i hh; exact jH y hh.1 hh.2
    ·simp)
   rw[List.length_take]at this;have e:min k xs.length=k:=ae
   rwa [e]at this
  have hu:=aG (n:Int)
  exact Fb R g1 cap1 _ x.1 x.2 aa k ac (xs.take k) W2 (hwr.later hb2) sf hsig (fun b off c hbb=>⟨by have q1:=(hab _ hbb).1; have q2:=h.lt; simp only at q1; omega,(hab _ hbb).2⟩) h3
end
theorem sM(R g cap:Nat)(bs:List Int)(n:Nat)(A:Nat)(w:World)(O:Nat)(ta:Option Addr)(tn tc:Nat)(xs:List Int)(h:Wr w R g cap bs)(hb:bs.length+300000000000≤1099511627776)(hn:n≤1000)(hA:w.cell? ⟨A,0,none⟩=some (cW R))(hAR:A≠R)(hAg:A≠g)(hO:w.cell? ⟨O,0,none⟩=some (.slice ta tn tc))(hOR:O≠R)(hOg:O≠g)(htn:tn≤100000)(hr:∀(j:Nat)x,xs[j]? =some x→-9223372036854775808≤x∧x<9223372036854775808)(hl:xs.length=n)(e:Int→List Int)(k:Nat)(he:∀(i:Nat)y,xs[i]? =some y→i<k→e y=(fun x=>ax x) y)(hall:∀(i:Nat)y,xs[i]? =some y→i<k→(fun(_:List Int) x=>dw tn x) (xs.take i) y=0)
  (j:Nat) (x:Int) (hx:xs[j]? =some x) (hjk:j<k):QG R g w 135 #[.pointer (some ⟨A,0,none⟩),.pointer (some ⟨O,0,none⟩)] bs n xs e (fun x y=>y=x) j x:=by
 intro ys W g1 cap1 aa ac hyl hys hst hwr hrow hab;have hlt:=aK hx;have hchk:=hall j x hx hjk
 try simp only at hchk
 have henc:=he j x hx hjk
 have hlen:((xs.take j).flatMap e).length≤j*10:=by
  have:=dI e 10 (xs.take j) (fun i y hi=>by
   have hij:i<j:=mL;rw[List.getElem?_take_of_lt hij]at hi;rw[he i y hi ae];have hc:=hall i y hi ae;exact(aG y).2)
  exact oZ
 have hu:=aG (n:Int)
 have hbb:(bs++ax n++(xs.take j).flatMap e).length≤bs.length+10+1000*10:=by
  rw[List.length_append,List.length_append];have:j*10≤1000*10:=Nat.mul_le_mul_right _ ae;omega
 have hc':0≤x∧x<tn:=by
  unfold dw at hchk
  split at hchk
  ·cases hchk
  ·omega
 refine(zH R g1 cap1 _ x aa j ac A O ta tn tc W hwr ae (hst.cell hA hAR hAg) (hst.cell hO hOR hOg) hc'.1 hc'.2 htn).mono ?_;exact wY
theorem Fq(R g cap:Nat)(bs:List Int)(ha:Option Addr)(n hc:Nat)(A:Nat)(w:World)(O:Nat)(ta:Option Addr)(tn tc:Nat)(xs:List Int)(h:Wr w R g cap bs)(hb:bs.length+300000000000≤1099511627776)(hA:w.cell? ⟨A,0,none⟩=some (cW R))(hAR:A≠R)(hAg:A≠g)(hO:w.cell? ⟨O,0,none⟩=some (.slice ta tn tc))(hOR:O≠R)(hOg:O≠g)(htn:tn≤100000)(hr:∀(j:Nat)x,xs[j]? =some x→-9223372036854775808≤x∧x<9223372036854775808)(hmem:mB w ha n xs)(hne:∀b off c,ha=some ⟨b,off,c⟩→b≠R∧b≠g)(hx:bB (fun(_:List Int) x=>dw tn x) 32 xs=0) :
  Calls Tryz.prog 134 #[cW R,.slice ha n hc,.int .i64 32,.func (.func 135) #[] #[.pointer (some ⟨A,0,none⟩),.pointer (some ⟨O,0,none⟩)]] w fun e w'=>∃(aa:Option Addr)(ac:Nat)(ys:List Int),e=.returned (.slice aa n ac)∧ys.length=n∧(∀(i:Nat)y,ys[i]? =some y→∃x,xs[i]? =some x∧(fun x y=>y=x) x y)∧∃g' cap',Wr w' R g' cap' (bs++(ax n++xs.flatMap (fun x=>ax x)))∧Stp R g g' w w':=by
 have hl:=hmem.1;unfold bB at hx
 split at hx
 ·cases hx
 rename_i hm
 have hall:=bp (fun(_:List Int) x=>dw tn x) xs [] hx
 have hall':∀(i:Nat)y,xs[i]? =some y→(fun(_:List Int) x=>dw tn x) (xs.take i) y=0:=fun i y hi=>hall i y hi
 refine(yg R g cap bs ha n hc 32 135 _ w xs (fun x=>ax x) (fun x y=>y=x) 10 h ae ae hmem hne (fun _ _=>rfl) (fun j x hj=>by
   have hc:=hall' j x hj;exact(aG x).2) ae ae
  (fun j x hj=>sM R g cap bs n A w O ta tn tc xs h hb ae hA hAR hAg hO hOR hOg htn hr hl (fun x=>ax x) (j+1) (fun _ _ _ _=>rfl) (fun i y hi _=>hall' i y hi) j x hj ae)).mono ?_
 exact qB
theorem JK(R g cap:Nat)(bs:List Int)(ha:Option Addr)(n hc:Nat)(A:Nat)(w:World)(O:Nat)(ta:Option Addr)(tn tc:Nat)(xs:List Int)(h:Wr w R g cap bs)(hb:bs.length+300000000000≤1099511627776)(hA:w.cell? ⟨A,0,none⟩=some (cW R))(hAR:A≠R)(hAg:A≠g)(hO:w.cell? ⟨O,0,none⟩=some (.slice ta tn tc))(hOR:O≠R)(hOg:O≠g)(htn:tn≤100000)(hr:∀(j:Nat)x,xs[j]? =some x→-9223372036854775808≤x∧x<9223372036854775808)(hmem:mB w ha n xs)(hne:∀b off c,ha=some ⟨b,off,c⟩→b≠R∧b≠g)(hx:bB (fun(_:List Int) x=>dw tn x) 32 xs≠0) :
  Calls Tryz.prog 134 #[cW R,.slice ha n hc,.int .i64 32,.func (.func 135) #[] #[.pointer (some ⟨A,0,none⟩),.pointer (some ⟨O,0,none⟩)]] w (aT R g (bB (fun(_:List Int) x=>dw tn x) 32 xs) w):=by
 have hl:=hmem.1;unfold bB at hx ⊢
 by_cases hm:(32:Int)<xs.length
 ·rw[if_pos hm];exact xp R g cap bs ha n hc 32 _ w h ae
 rw[if_neg hm]at hx ⊢
 obtain⟨k,x,h1,h2,h3,h4⟩:=dW (fun(_:List Int) x=>dw tn x) xs [] hx
 have hall:=bp (fun(_:List Int) x=>dw tn x) (xs.take k) [] h2
 have hall':∀(i:Nat)y,xs[i]? =some y→i<k→(fun(_:List Int) x=>dw tn x) (xs.take i) y=0:=fun i y hi hik=>by
  exact wh
 rw[h4];try simp only[List.nil_append]at h3 ⊢
 obtain⟨E,hE⟩:∃E:Int→List Int,E=fun y=>if ((fun x=>ax x) y).length≤10 then (fun x=>ax x) y else []:=⟨_,rfl⟩
 have hEl:∀y,(E y).length≤10:=fun y=>by
  rw[hE]
  show(if ((fun x=>ax x) y).length≤10 then (fun x=>ax x) y else []).length≤10
  split
  ·assumption
  ·simp
 have hEe:∀(i:Nat)z,xs[i]? =some z→i<k→E z=(fun x=>ax x) z:=fun i z hi hik=>by
  have hc:=hall' i z hi hik
  have hq:((fun x=>ax x) z).length≤10:=by
   exact(aG z).2
  rw[hE];exact if_pos hq
 refine AC R g cap bs ha n hc 32 135 _ w xs E (fun x y=>y=x) 10 h ae ae hmem hne (fun _ _=>rfl) (fun j y hj=>hEl y) ae ae k x _ h1
  (fun j y hj hjk=>sM R g cap bs n A w O ta tn tc xs h hb ae hA hAR hAg hO hOR hOg htn hr hl E k hEe hall' j y hj hjk) ?_
 intro ys W g1 cap1 aa ac hyl hys hst hwr hrow hab;have hlt:=aK h1;have hu:=aG (n:Int)
 have hbb:(bs++ax n++(xs.take k).flatMap E).length≤bs.length+10+1000*10:=by
  have hf:=dI E 10 (xs.take k) (fun i y _=>hEl y)
  rw[List.length_take]at hf;have e1:min k xs.length=k:=ae;rw[e1]at hf;rw[List.length_append,List.length_append];have:k*10≤1000*10:=Nat.mul_le_mul_right _ ae;omega
 have hbad:x<0∨(tn:Int)≤x:=by
  unfold dw at h3
  by_cases hq:x<0∨(tn:Int)≤x
  ·exact hq
  ·rw[if_neg hq]at h3; exact absurd rfl h3
 have hq30:dw tn x=30:=by unfold dw; rw[if_pos hbad]
 rw[hq30];exact Fi R g1 cap1 _ x aa k ac A O ta tn tc W hwr (hst.cell hA hAR hAg) (hst.cell hO hOR hOg) (hr k x h1).1 (hr k x h1).2 hbad htn
theorem ou(R g cap:Nat)(bs:List Int)(n:Nat)(A:Nat)(w:World)(xs:List Gl)(h:Wr w R g cap bs)(hb:bs.length+300000000000≤1099511627776)(hn:n≤1000)(hA:w.cell? ⟨A,0,none⟩=some (cW R))(hAR:A≠R)(hAg:A≠g)(hr:∀(j:Nat)x,xs[j]? =some x→0≤x.1∧x.1≤255∧0≤x.2.2∧x.2.2<18446744073709551616)(hl:xs.length=n)(e:Gl→List Int)(k:Nat)(he:∀(i:Nat)y,xs[i]? =some y→i<k→e y=(cT) y)(hall:∀(i:Nat)y,xs[i]? =some y→i<k→(fun(_:List Gl) x=>gH x) (xs.take i) y=0)
  (j:Nat) (x:Gl) (hx:xs[j]? =some x) (hjk:j<k):Py R g w 138 #[.pointer (some ⟨A,0,none⟩)] bs n xs e (fun x y=>y=x) j x:=by
 intro ys W g1 cap1 aa ac hyl hys hst hwr hrow hab;have hlt:=aK hx;have hchk:=hall j x hx hjk
 try simp only at hchk
 have henc:=he j x hx hjk
 have hlen:((xs.take j).flatMap e).length≤j*12:=by
  have:=dI e 12 (xs.take j) (fun i y hi=>by
   have hij:i<j:=mL;rw[List.getElem?_take_of_lt hij]at hi;rw[he i y hi ae];have hc:=hall i y hi ae;exact ot y)
  exact oZ
 have hu:=aG (n:Int)
 have hbb:(bs++ax n++(xs.take j).flatMap e).length≤bs.length+10+1000*12:=by
  rw[List.length_append,List.length_append];have:j*12≤1000*12:=Nat.mul_le_mul_right _ ae;omega
 have hrx:=hr j x hx
 have hc':isL x.1=true∧gy x.2.2 x.1=true:=by
  unfold gH at hchk
  split at hchk
  ·cases hchk
  ·split at hchk
   ·cases hchk
   ·simp_all
 have hv:x.1=119→x.2.2<4294967296:=fun h119=>by
  have:=hc'.2
  rw[h119]at this
  simpa[gy] using this
 refine(AQ R g1 cap1 _ x aa j ac A W hwr (hst.cell hA hAR hAg) (fun y=>y=x) (bs++ax n++(xs.take j).flatMap e++e x) (fun W2 hb2=>?_)).mono ?_
 ·refine(yo R g1 cap1 _ x.1 x.2.2 x.2.1 W2 (hwr.later hb2) ae hrx.1 hrx.2.1 hrx.2.2.1 hrx.2.2.2 hc'.1 hv).mono ?_;exact wY
 ·exact uY
theorem yV(R g cap:Nat)(bs:List Int)(ha:Option Addr)(n hc:Nat)(A:Nat)(w:World)(xs:List Gl)(h:Wr w R g cap bs)(hb:bs.length+300000000000≤1099511627776)(hA:w.cell? ⟨A,0,none⟩=some (cW R))(hAR:A≠R)(hAg:A≠g)(hr:∀(j:Nat)x,xs[j]? =some x→0≤x.1∧x.1≤255∧0≤x.2.2∧x.2.2<18446744073709551616)(hmem:pL w ha n xs)(hne:∀b off c,ha=some ⟨b,off,c⟩→b≠R∧b≠g)(hx:bB (fun(_:List Gl) x=>gH x) 64 xs=0) :
  Calls Tryz.prog 137 #[cW R,.slice ha n hc,.int .i64 64,.func (.func 138) #[] #[.pointer (some ⟨A,0,none⟩)]] w fun e w'=>∃(aa:Option Addr)(ac:Nat)(ys:List Gl),e=.returned (.slice aa n ac)∧ys.length=n∧(∀(i:Nat)y,ys[i]? =some y→∃x,xs[i]? =some x∧(fun x y=>y=x) x y)∧∃g' cap',Wr w' R g' cap' (bs++(ax n++xs.flatMap (cT)))∧Stp R g g' w w':=by
 have hl:=hmem.1;unfold bB at hx
 split at hx
 ·cases hx
 rename_i hm
 have hall:=bp (fun(_:List Gl) x=>gH x) xs [] hx
 have hall':∀(i:Nat)y,xs[i]? =some y→(fun(_:List Gl) x=>gH x) (xs.take i) y=0:=fun i y hi=>hall i y hi
 refine(yM R g cap bs ha n hc 64 138 _ w xs (cT) (fun x y=>y=x) 12 h ae ae hmem hne (fun _ _=>rfl) (fun j x hj=>by
   have hc:=hall' j x hj;exact ot x) ae ae
  (fun j x hj=>ou R g cap bs n A w xs h hb ae hA hAR hAg hr hl (cT) (j+1) (fun _ _ _ _=>rfl) (fun i y hi _=>hall' i y hi) j x hj ae)).mono ?_
 exact qB
theorem AR(R g cap:Nat)(bs:List Int)(ha:Option Addr)(n hc:Nat)(A:Nat)(w:World)(xs:List Gl)(h:Wr w R g cap bs)(hb:bs.length+300000000000≤1099511627776)(hA:w.cell? ⟨A,0,none⟩=some (cW R))(hAR:A≠R)(hAg:A≠g)(hr:∀(j:Nat)x,xs[j]? =some x→0≤x.1∧x.1≤255∧0≤x.2.2∧x.2.2<18446744073709551616)(hmem:pL w ha n xs)(hne:∀b off c,ha=some ⟨b,off,c⟩→b≠R∧b≠g)(hx:bB (fun(_:List Gl) x=>gH x) 64 xs≠0) :
  Calls Tryz.prog 137 #[cW R,.slice ha n hc,.int .i64 64,.func (.func 138) #[] #[.pointer (some ⟨A,0,none⟩)]] w (aT R g (bB (fun(_:List Gl) x=>gH x) 64 xs) w):=by
 have hl:=hmem.1;unfold bB at hx ⊢
 by_cases hm:(64:Int)<xs.length
 ·rw[if_pos hm];exact uA R g cap bs ha n hc 64 _ w h ae
 rw[if_neg hm]at hx ⊢
 obtain⟨k,x,h1,h2,h3,h4⟩:=dW (fun(_:List Gl) x=>gH x) xs [] hx
 have hall:=bp (fun(_:List Gl) x=>gH x) (xs.take k) [] h2
 have hall':∀(i:Nat)y,xs[i]? =some y→i<k→(fun(_:List Gl) x=>gH x) (xs.take i) y=0:=fun i y hi hik=>by
  exact wh
 rw[h4];try simp only[List.nil_append]at h3 ⊢
 obtain⟨E,hE⟩:∃E:Gl→List Int,E=fun y=>if ((cT) y).length≤12 then (cT) y else []:=⟨_,rfl⟩
 have hEl:∀y,(E y).length≤12:=fun y=>by
  rw[hE]
  show(if ((cT) y).length≤12 then (cT) y else []).length≤12
  split
  ·assumption
  ·simp
 have hEe:∀(i:Nat)z,xs[i]? =some z→i<k→E z=(cT) z:=fun i z hi hik=>by
  have hc:=hall' i z hi hik
  have hq:((cT) z).length≤12:=by
   exact ot z
  rw[hE];exact if_pos hq
 refine Ac R g cap bs ha n hc 64 138 _ w xs E (fun x y=>y=x) 12 h ae ae hmem hne (fun _ _=>rfl) (fun j y hj=>hEl y) ae ae k x _ h1
  (fun j y hj hjk=>ou R g cap bs n A w xs h hb ae hA hAR hAg hr hl E k hEe hall' j y hj hjk) ?_
 intro ys W g1 cap1 aa ac hyl hys hst hwr hrow hab;have hlt:=aK h1;have hu:=aG (n:Int)
 have hbb:(bs++ax n++(xs.take k).flatMap E).length≤bs.length+10+1000*12:=by
  have hf:=dI E 12 (xs.take k) (fun i y _=>hEl y)
  rw[List.length_take]at hf;have e1:min k xs.length=k:=ae;rw[e1]at hf;rw[List.length_append,List.length_append];have:k*12≤1000*12:=Nat.mul_le_mul_right _ ae;omega
 have hrx:=hr k x h1
 refine FJ R g1 cap1 _ x aa k ac A W hwr (hst.cell hA hAR hAg) _ (fun W2 hb2=>?_)
 unfold gH at h3 ⊢
 by_cases c1:isL x.1=false
 ·rw[if_pos c1];exact Ar R g1 cap1 _ x.1 x.2.2 x.2.1 W2 (hwr.later hb2) c1
 rw[if_neg c1]at h3 ⊢
 by_cases c2:gy x.2.2 x.1=false
 ·rw[if_pos c2]
  have h119:x.1=119:=by
   have c1':isL x.1=true:=qY
   simp[isL]at c1'
   rcases c1' with h | h
   ·exact h
   ·rw[h]at c2; simp[gy]at c2
  rw[h119]at c2 ⊢
  exact zJ R g1 cap1 _ x.2.2 x.2.1 W2 (hwr.later hb2) ae hrx.2.2.1 hrx.2.2.2 (by simp[gy]at c2; omega)
 ·rw[if_neg c2]at h3; exact absurd rfl h3
theorem G0:∃i,Tryz.prog.info? 83=some i∧i.zero=some (.agg #[.string ⟨#[]⟩,.int .i64 0])∧i.size=2∧i.bytes=24:=A7 ai
def fM(y:Ex):List Value:=[.string y.1,.int .i64 y.2]
abbrev QM(x:Ex):Value:=.agg #[.string x.1,.int .i64 x.2]
abbrev PC(y:Ex):Value:=.agg #[.string y.1,.int .i64 y.2]
def pB(w:World)(a:Option Addr)(n:Nat)(xs:List Ex):Prop :=
 xs.length=n∧(n=0∨∃b off,a=some ⟨b,off,none⟩∧∀(j:Nat)x,xs[j]? =some x→w.cell? ⟨b,off+j*2,none⟩=some (.string x.1)∧w.cell? ⟨b,off+j*2+1,none⟩=some (.int .i64 x.2))
theorem pB.kept{S:Nat→Prop}{w w':World}{a:Option Addr}{n:Nat}{xs:List Ex}(h:pB w a n xs)(hk:Kept S w w')(hS:∀b off c,a=some ⟨b,off,c⟩→¬S b):pB w' a n xs:=by
 exact AW
theorem qo(w:World)(y:Ex):∀j u,(fM y)[j]? =some u→(w.alloc (bj y.1 y.2)).cell? ((⟨w.heap.size,0,none⟩:Addr).add j)=some u:=by
 intro j u hj;have hlt:=aK hj;have hl:(fM y).length=2:=rfl;rw[hl]at hlt;have hadd:(⟨w.heap.size,0,none⟩:Addr).add j=⟨w.heap.size,j,none⟩:=iG;rw[hadd];have hb:=(MapKept.heap_alloc w (bj y.1 y.2)).1
 simp only[World.cell?,hb]
 simpa[fM] using hj
theorem qf(y:Ex):∀u∈fM y,u.oneCell'=true:=by
 intro u hu
 simp[fM]at hu
 rcases hu with rfl | rfl <;> rfl
abbrev QN:=@qh Ex Ex fM QM PC 83 2
namespace LEx
abbrev oC0:=fM
abbrev cL(x:Ex):Obj:=.cells #[.string x.1,.int .i64 x.2] 83
abbrev cM(y:Ex):Obj:=.cells #[.string y.1,.int .i64 y.2] 83
theorem nC(w:World)(y:Ex):∀j u,(fM y)[j]? =some u→(w.alloc (cM y)).cell? ((⟨w.heap.size,0,none⟩:Addr).add j)=some u:=qo w y
theorem oC(y:Ex):∀u∈fM y,u.oneCell'=true:=qf y
theorem uN:Tryz.prog.underlying 27=some (.slice 83):=Tryz.underlying27
end LEx
open LEx in
theorem yw:oY 147 fM QM PC pB 83 2:=by
 intro R g cap bs ha n hc most K cs w xs enc Ok M h hn hm hmem hne hK hlen hM hb heach;have hmc:=bz;have hcc:=cf;have HC:=hid (bN R g cap bs n most w h hm ae ae);have hRl:=h.lt;have hgl:=h.g_lt;have hxl:=hmem.1;have HM:=hid hmem;have HNE:=hid hne;have HE:=hid heach;obtain⟨i0,hi,hz0,hz1,hz2⟩:=G0;clear h hmem heach hne
 go_enter Tryz.func147,Tryz.ntmps147
 go_wp2_with fail;refine HC.out.mono ?_;rintro e w2⟨rfl,g1,cap1,hw2,hs2⟩;have W2:=hid hw2;have S2:=hid hs2;clear hw2 hs2 HC hmc hcc;go_wp2_with fail
 go_loopw [9,17] (fun o i wr=>qz oC0 83 2 R g w bs n xs enc Ok n o i wr) (fun _ i _=>n-(intOf i).toNat)
 case atStart=>exact⟨0,[],none,0,g1,cap1,ae,rfl,rfl,rfl,(fun i y h=>fX),World.ownsRow_nil _ _ _ _,(fun b h=>cj),gw,S2.out⟩
 case round =>
  exact Jf
open LEx in
theorem Ap:rT 147 fM QM PC pB 83 2:=by
 intro R g cap bs ha n hc most K cs w xs enc Ok M h hn hm hmem hne hK hlen hM hb k xk er hk heach hno;have hkn:=aK hk;have hmc:=bz;have hcc:=cf;have HC:=hid (bN R g cap bs n most w h hm ae ae);have hRl:=h.lt;have hgl:=h.g_lt;have hxl:=hmem.1;have HM:=hid hmem;have HNE:=hid hne;have HE:=hid heach;have HN:=hid hno;obtain⟨i0,hi,hz0,hz1,hz2⟩:=G0;clear h hmem heach hne hno
 go_enter Tryz.func147,Tryz.ntmps147
 go_wp2_with fail;refine HC.out.mono ?_;rintro e w2⟨rfl,g1,cap1,hw2,hs2⟩;have W2:=hid hw2;have S2:=hid hs2;clear hw2 hs2 HC hmc hcc;go_wp2_with fail
 go_loopw [9,17] (fun o i wr=>qz oC0 83 2 R g w bs n xs enc Ok k o i wr) (fun _ i _=>n-(intOf i).toNat)
 case atStart=>exact⟨0,[],none,0,g1,cap1,ae,rfl,rfl,rfl,(fun i y h=>fX),World.ownsRow_nil _ _ _ _,(fun b h=>cj),gw,S2.out⟩
 case round =>
  exact Kz
theorem uK(R g cap:Nat)(bs:List Int)(ha:Option Addr)(n hc:Nat)(most:Int)(f:Value)(w:World)(h:Wr w R g cap bs)(hm:most<(n:Int)) :
  Calls Tryz.prog 147 #[cW R,.slice ha n hc,.int .i64 most,f] w (aT R g 20 w):=by
 have hmc:=bz;have hcc:=cf;have HC:=hid (eW R g cap bs n most w h hm);clear h
 go_enter Tryz.func147,Tryz.ntmps147
 exact jX
end Go.Proofs.YtheefojaplnnoaaGreatDoor
