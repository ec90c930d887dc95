/-
  Texts Sc Wl Lfl Wk Sd Wz Wy.
-/
import Derived.Test.YtheefojaplnnoaaGreatDoorY05
set_option linter.unusedVariables false
set_option maxRecDepth 100000
set_option maxHeartbeats 16000000
namespace Go.Proofs.YtheefojaplnnoaaGreatDoor
open Go.Proofs.Tryz
open Go.RowKit
def fF(ah:List DaM)(v:Int):Bool:=match ah.getLast? with | none=>false | some y=>decide (v<=y.1+(y.2.2.length:Int))
def cg(room:Int)(ah:List DaM)(x:DaM):Int :=
 if x.1<0\/room<x.1 then 17 else if fF ah x.1=true then 18 else if room-x.1<(x.2.2.length:Int) then 13 else if x.2.2.length=0 then 17 else 0
def dz(x:DaM):List Int:=aw x.1++(aw x.2.2.length++x.2.2)
variable {room:Int}{x:DaM}
theorem jG{ah:List DaM}(hr:room<=262144)(h:cg room ah x=0):(dz x).length<=300000:=by
 unfold cg at h
 split at h
 ·cases h
 split at h
 ·cases h
 split at h
 ·cases h
 have a:=ay x.1;have b:=ay x.2.2.length;simp only[dz,ZV];omega
variable {j:Nat}
theorem Aq{xs:List DaM}{ys:List (Int×SL)}(hj:j<=xs.length)(hl:ys.length=j)(h:∀(i:Nat)y,ys[i]? =some y->∃x,xs[i]? =some x/\D7 x y)(v:Int):jm ys v=fF (xs.take j) v:=by
 unfold jm fF
 rcases Nat.eq_zero_or_pos j with h0 | h0
 ·subst h0;have:ys=[]:=Z6 hl;subst this
  simp
 obtain⟨y,hy⟩:=ZB ys (j-1) ae;obtain⟨x,hx,hok⟩:=h (j-1) y hy
 have e1:ys.getLast? =some y:=by rw[List.getLast?_eq_getElem?,hl]; exact hy
 have e2:(xs.take j).getLast? =some x:=by
  rw[List.getLast?_eq_getElem?,List.length_take];have e:min j xs.length-1=j-1:=ae;rw[e,List.getElem?_take_of_lt ae];exact hx
 rw[e1,e2];simp only[hok.1,hok.2]
structure QX(w:World)(R g:Nat)(x:DaM):Prop where
 r0:-9223372036854775808<=x.1
 r1:x.1<9223372036854775808
 seg:Seg w x.2.1.1 x.2.1.2.1 x.2.1.2.2 x.2.2
 ne:∀b off c,nz x.2.1.2.1 x.2.1.1=some ⟨b,off,c⟩->b≠R/\b≠g
 lt:∀b off c,nz x.2.1.2.1 x.2.1.1=some ⟨b,off,c⟩->b<w.heap.size
theorem pD(R g cap:Nat)(bs:LIz)(n:Nat)(A:Nat)(w:World)(O:Nat)(fa:OAz)(fn fc:Nat)(xs:List Ex)(h:Wr w R g cap bs)(hb:bs.length+300000000000<=1099511627776)(hn:n<=1000)(hA:w.cell? (ZA A 0)=some (cW R))(TO:A≠R)(OR:A≠g)(hO:w.cell? (ZA O 5)=some (.slice fa fn fc))(kl:O≠R)(kh:O≠g)(hfn:fn<=100000)(hr:∀(j:Nat)x,xs[j]? =some x->-9223372036854775808<=x.2/\x.2<9223372036854775808)(hl:xs.length=n)(e:Ex->List Int)(k:Nat)(he:∀(i:Nat)y,xs[i]? =some y->i<k->e y=(eJ) y)(hall:∀(i:Nat)y,xs[i]? =some y->i<k->(fun(ah:List Ex) x=>eI fn ah x) (xs.take i) y=0)
  (j:Nat) (x:Ex) (hx:xs[j]? =some x) (hjk:j<k):Vp R g w 148 #[ZP A 0,ZP O 0] bs n xs e (fun x y=>y=x) j x:=by
 intro ys W g1 An aa ac ON hys hst hwr hrow hab;have hlt:=aF hx;have If:=hall j x hx hjk
 try simp only at If
 have henc:=he j x hx hjk
 have hlen:((xs.take j).flatMap e).length<=j*100:=by
  have:=cU e 100 (xs.take j) (fun i y hi=>by
   have hij:i<j:=ol;rw[List.getElem?_take_of_lt hij]at hi;rw[he i y hi ae];have hc:=hall i y hi ae
   have qam:(y).1.size<=32:=by
    exact wR
   have a1:=ek (y).1 32 qam;have a2:=ay (y).2;simp only[eJ,ZV]
   omega)
  exact p9
 have hu:=ay (n:Int)
 have hbb:(bs++aw n++(xs.take j).flatMap e).length<=bs.length+10+1000*100:=by
  rw[ZV,ZV];have:j*100<=1000*100:=Nat.mul_le_mul_right _ ae;omega
 have hrx:=hr j x hx;have Q':=ok_eq ae hys;rw[ON]at Q';refine(CI R g1 An _ x aa j ac A O fa fn fc W hwr (hst.cell hA TO OR) (hst.cell hO kl kh) (fun y=>y=x) (bs++aw n++(xs.take j).flatMap e++e x) (fun W2 hb2=>?_)).mono ?_
 ·refine(C6 R g1 An _ x.1 x.2 fn aa j ac ys W2 (hwr.later hb2) ae ON ae (aV hrow (fun B hB=>hb2.block B (aL hrow hB))) (fun b hb'=>⟨by have q1:=(hab b hb').1; have q2:=h.lt; omega,(hab b hb').2⟩) hrx.1 hrx.2 ae ae (by rw[Q']; exact If)).mono ?_
  exact xN
 exact yj
theorem BJ(R g cap:Nat)(bs:LIz)(ha:OAz)(n hc:Nat)(A:Nat)(w:World)(O:Nat)(fa:OAz)(fn fc:Nat)(xs:List Ex)(h:Wr w R g cap bs)(hb:bs.length+300000000000<=1099511627776)(hA:w.cell? (ZA A 0)=some (cW R))(TO:A≠R)(OR:A≠g)(hO:w.cell? (ZA O 5)=some (.slice fa fn fc))(kl:O≠R)(kh:O≠g)(hfn:fn<=100000)(hr:∀(j:Nat)x,xs[j]? =some x->-9223372036854775808<=x.2/\x.2<9223372036854775808)(hmem:qw w ha n xs)(hne:∀b off c,ha=some ⟨b,off,c⟩->b≠R/\b≠g)(hx:bG (fun(ah:List Ex) x=>eI fn ah x) 64 xs=0) :
  Zw 147 #[cW R,.slice ha n hc,ZI 64,.func (.func 148) #[] #[.pointer (some ⟨A,0,none⟩),.pointer (some ⟨O,0,none⟩)]] w fun e w'=>∃(aa:OAz)(ac:Nat)(ys:List Ex),e=.returned (.slice aa n ac)/\ys.length=n/\(∀(i:Nat)y,ys[i]? =some y->∃x,xs[i]? =some x/\(fun x y=>y=x) x y)/\∃g' cap',Wr w' R g' cap' (bs++(aw n++xs.flatMap (eJ)))/\Stp R g g' w w':=by
 have hl:=hmem.1;unfold bG at hx
 split at hx
 ·cases hx
 rename_i hm;have hall:=br (fun(ah:List Ex) x=>eI fn ah x) xs [] hx;have DO:∀(i:Nat)y,xs[i]? =some y->(fun(ah:List Ex) x=>eI fn ah x) (xs.take i) y=0:=fun i y hi=>hall i y hi
 refine(Bw R g cap bs ha n hc 64 148 _ w xs (eJ) (fun x y=>y=x) 100 h ae ae hmem hne (fun _ _=>rfl) (fun j x hj=>by
   have hc:=DO j x hj
   have qam:(x).1.size<=32:=by
    exact wR
   have a1:=ek (x).1 32 qam;have a2:=ay (x).2;simp only[eJ,ZV]
   omega) ae ae
  (fun j x hj=>pD R g cap bs n A w O fa fn fc xs h hb ae hA TO OR hO kl kh hfn hr hl (eJ) (j+1) (fun _ _ _ _=>rfl) (fun i y hi _=>DO i y hi) j x hj ae)).mono ?_
 exact sI
theorem CB(R g cap:Nat)(bs:LIz)(ha:OAz)(n hc:Nat)(A:Nat)(w:World)(O:Nat)(fa:OAz)(fn fc:Nat)(xs:List Ex)(h:Wr w R g cap bs)(hb:bs.length+300000000000<=1099511627776)(hA:w.cell? (ZA A 0)=some (cW R))(TO:A≠R)(OR:A≠g)(hO:w.cell? (ZA O 5)=some (.slice fa fn fc))(kl:O≠R)(kh:O≠g)(hfn:fn<=100000)(hr:∀(j:Nat)x,xs[j]? =some x->-9223372036854775808<=x.2/\x.2<9223372036854775808)(hmem:qw w ha n xs)(hne:∀b off c,ha=some ⟨b,off,c⟩->b≠R/\b≠g)(hx:bG (fun(ah:List Ex) x=>eI fn ah x) 64 xs≠0) :
  Zw 147 #[cW R,.slice ha n hc,ZI 64,.func (.func 148) #[] #[.pointer (some ⟨A,0,none⟩),.pointer (some ⟨O,0,none⟩)]] w (aQ R g (bG (fun(ah:List Ex) x=>eI fn ah x) 64 xs) w):=by
 have hl:=hmem.1;unfold bG at hx ⊢
 by_cases hm:(64:Int)<xs.length
 ·rw[if_pos hm];exact wW R g cap bs ha n hc 64 _ w h ae
 rw[if_neg hm]at hx ⊢;obtain⟨k,x,h1,h2,h3,h4⟩:=fh (fun(ah:List Ex) x=>eI fn ah x) xs [] hx;have hall:=br (fun(ah:List Ex) x=>eI fn ah x) (xs.take k) [] h2
 have DO:∀(i:Nat)y,xs[i]? =some y->i<k->(fun(ah:List Ex) x=>eI fn ah x) (xs.take i) y=0:=fun i y hi hik=>by
  exact sB
 rw[h4];try simp only[List.nil_append]at h3 ⊢
 obtain⟨E,hE⟩:∃E:Ex->List Int,E=fun y=>if ((eJ) y).length<=100 then (eJ) y else []:=⟨_,rfl⟩
 have hEl:∀y,(E y).length<=100:=fun y=>by
  rw[hE];show(if ((eJ) y).length<=100 then (eJ) y else []).length<=100
  split
  ·assumption
  simp
 have hEe:∀(i:Nat)z,xs[i]? =some z->i<k->E z=(eJ) z:=fun i z hi hik=>by
  have hc:=DO i z hi hik
  have hq:((eJ) z).length<=100:=by
   have qam:(z).1.size<=32:=by
    exact wR
   have a1:=ek (z).1 32 qam;have a2:=ay (z).2;simp only[eJ,ZV];omega
  rw[hE];exact if_pos hq
 refine Dk R g cap bs ha n hc 64 148 _ w xs E (fun x y=>y=x) 100 h ae ae hmem hne (fun _ _=>rfl) (fun j y hj=>hEl y) ae ae k x _ h1
  (fun j y hj hjk=>pD R g cap bs n A w O fa fn fc xs h hb ae hA TO OR hO kl kh hfn hr hl E k hEe DO j y hj hjk) ?_
 intro ys W g1 An aa ac ON hys hst hwr hrow hab;have hlt:=aF h1;have hu:=ay (n:Int)
 have hbb:(bs++aw n++(xs.take k).flatMap E).length<=bs.length+10+1000*100:=by
  have hf:=cU E 100 (xs.take k) (fun i y _=>hEl y);rw[List.length_take]at hf;have e1:min k xs.length=k:=ae;rw[e1]at hf;rw[ZV,ZV];have:k*100<=1000*100:=Nat.mul_le_mul_right _ ae;omega
 have hrx:=hr k x h1;have Q':=ok_eq ae hys;rw[ON]at Q';refine JH R g1 An _ x aa k ac A O fa fn fc W hwr (hst.cell hA TO OR) (hst.cell hO kl kh) _ (fun W2 hb2=>?_);rw[<- Q']at h3 ⊢;exact Ku R g1 An _ x.1 x.2 fn aa k ac ys W2 (hwr.later hb2) ae ae ON ae (aV hrow (fun B hB=>hb2.block B (aL hrow hB))) hrx.1 hrx.2 ae ae h3
theorem vU(R g cap:Nat)(bs:LIz)(n:Nat)(A:Nat)(w:World)(O:Nat)(fi:Int)(xs:List DaM)(h:Wr w R g cap bs)(hb:bs.length+300000000000<=1099511627776)(hn:n<=1000)(hA:w.cell? (ZA A 0)=some (cW R))(TO:A≠R)(OR:A≠g)(hO:w.cell? (ZA O 3)=some (ZI fi))(kl:O≠R)(kh:O≠g)(vf:0<=fi)(qk:fi<=64)(hr:∀(j:Nat)x,xs[j]? =some x->QX w R g x)(hl:xs.length=n)(e:DaM->List Int)(k:Nat)(he:∀(i:Nat)y,xs[i]? =some y->i<k->e y=(dz) y)(hall:∀(i:Nat)y,xs[i]? =some y->i<k->(fun(ah:List DaM) x=>cg (fi*4096) ah x) (xs.take i) y=0)
  (j:Nat) (x:DaM) (hx:xs[j]? =some x) (hjk:j<k):WO R g w 145 #[ZP A 0,ZP O 0] bs n xs e (D7) j x:=by
 intro ys W g1 An aa ac ON hys hst hwr hrow hab;have hlt:=aF hx;have If:=hall j x hx hjk
 try simp only at If
 have henc:=he j x hx hjk
 have hlen:((xs.take j).flatMap e).length<=j*300000:=by
  have:=cU e 300000 (xs.take j) (fun i y hi=>by
   have hij:i<j:=ol;rw[List.getElem?_take_of_lt hij]at hi;rw[he i y hi ae];have hc:=hall i y hi ae;exact jG ae hc)
  exact p9
 have hu:=ay (n:Int)
 have hbb:(bs++aw n++(xs.take j).flatMap e).length<=bs.length+10+1000*300000:=by
  rw[ZV,ZV];have:j*300000<=1000*300000:=Nat.mul_le_mul_right _ ae;omega
 have hrx:=hr j x hx;have hti:=Aq ae ON hys
 have hys':∀y∈ys,0<=y.1/\y.1<=1099511627776/\y.2.2.1<=1099511627776:=fun y hy=>by
  obtain⟨i,hi,rfl⟩:=List.getElem_of_mem hy;obtain⟨x',hx',hok⟩:=hys i _ (aD hi);have hcx:=hall i x' hx' ae;exact EA
 have hc2:(0<=x.1/\x.1<=fi*4096)/\fF (xs.take j) x.1=false/\(x.2.2.length:Int)<=fi*4096-x.1/\x.2.2.length≠0:=by
  unfold cg at If
  split at If
  ·cases If
  split at If
  ·cases If
  split at If
  ·cases If
  split at If
  ·cases If
  rename_i q1 q2 q3 q4;exact⟨⟨ae,ae⟩,by simpa using q2,ae,q4⟩
 refine(DG R g1 An _ x aa j ac A O fi W hwr (hst.cell hA TO OR) (hst.cell hO kl kh) vf qk (fun y=>D7 x y) (bs++aw n++(xs.take j).flatMap e++e x) (fun W2 hb2=>?_)).mono ?_
 ·refine(AU R g1 An _ x.1 (fi*4096) x.2.1.1 x.2.1.2.1 x.2.1.2.2 x.2.2 aa j ac ys W2 (hwr.later hb2) ae ae ae hc2.1.1 hc2.1.2 ON ae hys' (aV hrow (fun B hB=>hb2.block B (aL hrow hB))) (by rw[hti]; exact hc2.2.1)
   ((hrx.seg.kept' hst.k (fun b off c hb'=>by have:=hrx.ne b off c hb'; simp; omega)).later hb2 lRn) (fun b off c hb'=>⟨(hrx.ne b off c hb').1,hst.ne (hrx.lt b off c hb') (hrx.ne b off c hb').2⟩) hc2.2.2.1 hc2.2.2.2).mono ?_
  rintro e' w' ⟨y,he',hy,g',cap',hw',hs'⟩;refine⟨y,he',hy,g',cap',?_,hs'⟩;rw[henc];exact hw'
 exact yj
theorem Mh(R g cap:Nat)(bs:LIz)(ha:OAz)(n hc:Nat)(A:Nat)(w:World)(O:Nat)(fi:Int)(xs:List DaM)(h:Wr w R g cap bs)(hb:bs.length+300000000000<=1099511627776)(hA:w.cell? (ZA A 0)=some (cW R))(TO:A≠R)(OR:A≠g)(hO:w.cell? (ZA O 3)=some (ZI fi))(kl:O≠R)(kh:O≠g)(vf:0<=fi)(qk:fi<=64)(hr:∀(j:Nat)x,xs[j]? =some x->QX w R g x)(hmem:qM w ha n xs)(hne:∀b off c,ha=some ⟨b,off,c⟩->b≠R/\b≠g)(hx:bG (fun(ah:List DaM) x=>cg (fi*4096) ah x) 64 xs=0) :
  Zw 144 #[cW R,.slice ha n hc,ZI 64,.func (.func 145) #[] #[.pointer (some ⟨A,0,none⟩),.pointer (some ⟨O,0,none⟩)]] w fun e w'=>∃(aa:OAz)(ac:Nat)(ys:List (Int×SL)),e=.returned (.slice aa n ac)/\ys.length=n/\(∀(i:Nat)y,ys[i]? =some y->∃x,xs[i]? =some x/\(D7) x y)/\∃g' cap',Wr w' R g' cap' (bs++(aw n++xs.flatMap (dz)))/\Stp R g g' w w':=by
 have hl:=hmem.1;unfold bG at hx
 split at hx
 ·cases hx
 rename_i hm;have hall:=br (fun(ah:List DaM) x=>cg (fi*4096) ah x) xs [] hx;have DO:∀(i:Nat)y,xs[i]? =some y->(fun(ah:List DaM) x=>cg (fi*4096) ah x) (xs.take i) y=0:=fun i y hi=>hall i y hi
 refine(BC R g cap bs ha n hc 64 145 _ w xs (dz) (D7) 300000 h ae ae hmem hne (fun _ _=>rfl) (fun j x hj=>by
   have hc:=DO j x hj;exact jG ae hc) ae ae
  (fun j x hj=>vU R g cap bs n A w O fi xs h hb ae hA TO OR hO kl kh vf qk hr hl (dz) (j+1) (fun _ _ _ _=>rfl) (fun i y hi _=>DO i y hi) j x hj ae)).mono ?_
 exact sI
theorem SH(R g cap:Nat)(bs:LIz)(ha:OAz)(n hc:Nat)(A:Nat)(w:World)(O:Nat)(fi:Int)(xs:List DaM)(h:Wr w R g cap bs)(hb:bs.length+300000000000<=1099511627776)(hA:w.cell? (ZA A 0)=some (cW R))(TO:A≠R)(OR:A≠g)(hO:w.cell? (ZA O 3)=some (ZI fi))(kl:O≠R)(kh:O≠g)(vf:0<=fi)(qk:fi<=64)(hr:∀(j:Nat)x,xs[j]? =some x->QX w R g x)(hmem:qM w ha n xs)(hne:∀b off c,ha=some ⟨b,off,c⟩->b≠R/\b≠g)(hx:bG (fun(ah:List DaM) x=>cg (fi*4096) ah x) 64 xs≠0) :
  Zw 144 #[cW R,.slice ha n hc,ZI 64,.func (.func 145) #[] #[.pointer (some ⟨A,0,none⟩),.pointer (some ⟨O,0,none⟩)]] w (aQ R g (bG (fun(ah:List DaM) x=>cg (fi*4096) ah x) 64 xs) w):=by
 have hl:=hmem.1;unfold bG at hx ⊢
 by_cases hm:(64:Int)<xs.length
 ·rw[if_pos hm];exact zQ R g cap bs ha n hc 64 _ w h ae
 rw[if_neg hm]at hx ⊢;obtain⟨k,x,h1,h2,h3,h4⟩:=fh (fun(ah:List DaM) x=>cg (fi*4096) ah x) xs [] hx;have hall:=br (fun(ah:List DaM) x=>cg (fi*4096) ah x) (xs.take k) [] h2
 have DO:∀(i:Nat)y,xs[i]? =some y->i<k->(fun(ah:List DaM) x=>cg (fi*4096) ah x) (xs.take i) y=0:=fun i y hi hik=>by
  exact sB
 rw[h4];try simp only[List.nil_append]at h3 ⊢
 obtain⟨E,hE⟩:∃E:DaM->List Int,E=fun y=>if ((dz) y).length<=300000 then (dz) y else []:=⟨_,rfl⟩
 have hEl:∀y,(E y).length<=300000:=fun y=>by
  rw[hE];show(if ((dz) y).length<=300000 then (dz) y else []).length<=300000
  split
  ·assumption
  simp
 have hEe:∀(i:Nat)z,xs[i]? =some z->i<k->E z=(dz) z:=fun i z hi hik=>by
  have hc:=DO i z hi hik
  have hq:((dz) z).length<=300000:=by
   exact jG ae hc
  rw[hE];exact if_pos hq
 refine Eo R g cap bs ha n hc 64 145 _ w xs E (D7) 300000 h ae ae hmem hne (fun _ _=>rfl) (fun j y hj=>hEl y) ae ae k x _ h1
  (fun j y hj hjk=>vU R g cap bs n A w O fi xs h hb ae hA TO OR hO kl kh vf qk hr hl E k hEe DO j y hj hjk) ?_
 intro ys W g1 An aa ac ON hys hst hwr hrow hab;have hlt:=aF h1;have hu:=ay (n:Int)
 have hbb:(bs++aw n++(xs.take k).flatMap E).length<=bs.length+10+1000*300000:=by
  have hf:=cU E 300000 (xs.take k) (fun i y _=>hEl y);rw[List.length_take]at hf;have e1:min k xs.length=k:=ae;rw[e1]at hf;rw[ZV,ZV];have:k*300000<=1000*300000:=Nat.mul_le_mul_right _ ae;omega
 have hrx:=hr k x h1;have hti:=Aq ae ON hys
 have hys':∀y∈ys,0<=y.1/\y.1<=1099511627776/\y.2.2.1<=1099511627776:=fun y hy=>by
  obtain⟨i,hi,rfl⟩:=List.getElem_of_mem hy;obtain⟨x',hx',hok⟩:=hys i _ (aD hi);have hcx:=DO i x' hx' ae;exact EA
 have heq:cg (fi*4096) (xs.take k) x=uk (fi*4096) ys x.1 x.2.2.length:=by
  unfold cg uk;rw[hti]
 rw[heq]at h3 ⊢;refine KD R g1 An _ x aa k ac A O fi W hwr (hst.cell hA TO OR) (hst.cell hO kl kh) vf qk _ (fun W2 hb2=>?_)
 exact Dv R g1 An _ x.1 (fi*4096) x.2.1.1 x.2.1.2.1 x.2.1.2.2 x.2.2 aa k ac ys W2 (hwr.later hb2) ae ae ae hrx.r0 hrx.r1 ON ae hys' (aV hrow (fun B hB=>hb2.block B (aL hrow hB)))
   ((hrx.seg.kept' hst.k (fun b off c hb'=>by have:=hrx.ne b off c hb'; simp; omega)).later hb2 lRn) (fun b off c hb'=>⟨(hrx.ne b off c hb').1,hst.ne (hrx.lt b off c hb') (hrx.ne b off c hb').2⟩) h3
structure gj(R L g g':Nat)(w w':World):Prop where
 k:Kept (fun k=>k=R\/k=g\/k=L) w w'
 m:g'=g\/w.heap.size<=g'
variable {R L g g':Nat}{w w':World}
theorem Stp.toL(h:Stp R g g' w w'):gj R L g g' w w':=⟨h.k.mono (fun k hk=>ae),h.m⟩
variable {g'':Nat}{w1 w2:World}
theorem gj.trans(h:gj R L g g' w w1)(h':gj R L g' g'' w1 w2):gj R L g g'' w w2:=by
 refine⟨h.k.then h'.k (fun k hk ht=>?_),?_⟩
 ·rcases ht with rfl | rfl | rfl
  ·exact .inl rfl
  ·rcases h.m with h | h
   ·exact .inr (.inl h)
   omega
  exact .inr (.inr rfl)
 exact xM
theorem gj.of_below(h:Zx w w'):gj R L g g w w':=(Stp.of_below h).toL
theorem gj.size(h:gj R L g g' w w'):w.heap.size<=w'.heap.size:=h.k.size
variable {b:Nat}
theorem gj.block(h:gj R L g g' w w')(hb:b<w.heap.size)(h1:b≠R)(h2:b≠g)(h3:b≠L):w'.heap[b]? =w.heap[b]?:=h.k.block b hb (by simp[h1,h2,h3])
variable {o:Nat}
theorem gj.cell(h:gj R L g g' w w'){v:Value}(hc:w.cell? (ZA b o)=some v)(h1:b≠R)(h2:b≠g)(h3:b≠L):w'.cell? (ZA b o)=some v:=h.k.cell hc (by simp[h1,h2,h3])
theorem gj.ne(h:gj R L g g' w w')(hb:b<w.heap.size)(hn:b≠g):b≠g':=by
 rcases h.m with rfl | h
 ·exact hn
 omega
variable {g1:Nat}{W w5:World}
theorem gj.throw(h:gj R L g g1 w W)(hk:Kept (fun k=>k=R\/k=g1) W w5):Kept (fun k=>k=R\/k=g\/k=L) w w5:=by
 refine h.k.then hk (fun k hkl hh=>?_)
 rcases hh with rfl | rfl
 ·exact .inl rfl
 rcases h.m with h | h
 ·exact .inr (.inl h)
 omega
section
variable (R g cap:Nat) (bs:LIz) (ty:Int) (lo:BAz) (ca:OAz) (cn cc:Nat) (aa:OAz) (an ac:Nat) (A O L:Nat) (ta:OAz) (tn tc:Nat) (left:Int) (w:World)
theorem KG(h:Wr w R g cap bs)(hA:w.cell? (ZA A 0)=some (cW R))(hO:w.cell? (ZA O 0)=some (.slice ta tn tc))(hL:w.cell? (ZA L 0)=some (ZI left))(er:Int)
  (hcall:∀W,Zx w W->Zw 143 #[cW R,.agg #[ZI ty,.string lo,.slice ca cn cc],.slice ta tn tc,ZI left] W (aQ R g er W)) :
  Zw 142 #[.agg #[ZI ty,.string lo,.slice ca cn cc],.slice aa an ac,ZP A 0,ZP O 0,ZP L 0] w (aQ R g er w):=by
 obtain⟨B0,z0,x0,x1⟩:=iQ w (aN ty lo ca cn cc) (aN 0 ⟨#[]⟩ none 0 0);have OF:=h.lt;have hgl:=h.g_lt;have io:=(B0.cell jg).trans hA;have hO1:=(B0.cell (p:=(ZA O 0)) qT).trans hO;have hL1:=(B0.cell (p:=(ZA L 0)) (by exact ZQ hL)).trans hL;have HC:=hid (hcall _ B0);obtain⟨W1,hW1⟩:∃W1,(w.alloc (aN ty lo ca cn cc)).alloc (aN 0 ⟨#[]⟩ none 0 0)=W1:=⟨_,rfl⟩;rw[hW1]at B0 z0 x0 x1 io HC hO1 hL1;have BW:=hid B0;obtain⟨a0,a1,a2,_,_,_⟩:=aI x0;clear h B0 hA hcall hO hL;go_enter func142,ntmps142;exact pN
theorem CU(h:Wr w R g cap bs)(hA:w.cell? ⟨A,0,none⟩=some (cW R))(hO:w.cell? ⟨O,0,none⟩=some (.slice ta tn tc))(hL:w.cell? ⟨L,0,none⟩=some (.int .i64 left))(hLf:w.frozen? ⟨L,0,none⟩=false)(hLR:L≠R)(Z':L≠g)(hl0:(cn:Int)<=left)(mm:left<=100000)(new:LIz)
  (hcall:∀W,Zx w W->Zw 143 #[cW R,.agg #[.int .i64 ty,.string lo,.slice ca cn cc],.slice ta tn tc,.int .i64 left] W (fun e w'=>∃(fa:OAz)(fc:Nat),e=.returned (.agg #[.int .i64 ty,.string lo,.slice fa cn fc])/\∃g' cap',Wr w' R g' cap' new/\Stp R g g' W w')) :
  Zw 142 #[.agg #[.int .i64 ty,.string lo,.slice ca cn cc],.slice aa an ac,.pointer (some ⟨A,0,none⟩),.pointer (some ⟨O,0,none⟩),.pointer (some ⟨L,0,none⟩)] w
   (fun e w'=>∃(fa:OAz)(fc:Nat),e=.returned (.agg #[.int .i64 ty,.string lo,.slice fa cn fc])/\w'.cell? ⟨L,0,none⟩=some (.int .i64 (left-cn))/\w'.frozen? ⟨L,0,none⟩=false/\∃g' cap',Wr w' R g' cap' new/\Kept (fun k=>k=R\/k=g\/k=L) w w'/\(g'=g\/w.heap.size<=g')):=by
 obtain⟨B0,z0,x0,x1⟩:=iQ w (aN ty lo ca cn cc) (aN 0 ⟨#[]⟩ none 0 0);have OF:=h.lt;have hgl:=h.g_lt;have hLl:=ZQ hL;have io:=(B0.cell jg).trans hA;have hO1:=(B0.cell (p:=⟨O,0,none⟩) qT).trans hO;have hL1:=(B0.cell (p:=⟨L,0,none⟩) (by exact hLl)).trans hL;have hLf1:=(B0.frozen (p:=⟨L,0,none⟩) (by exact hLl)).trans hLf;have HC:=hid (hcall _ B0);obtain⟨W1,hW1⟩:∃W1,(w.alloc (aN ty lo ca cn cc)).alloc (aN 0 ⟨#[]⟩ none 0 0)=W1:=⟨_,rfl⟩;rw[hW1]at B0 z0 x0 x1 io HC hO1 hL1 hLf1;have BW:=hid B0;obtain⟨a0,a1,a2,_,_,_⟩:=aI x0;have hsub:wrap64 (left-(cn:Int))=left-cn:=dV;clear h B0 hA hcall hO hL hLf;go_enter func142,ntmps142
 go_wp2_with fail;refine HC.out.mono ?_;rintro e w5⟨fa,fc,rfl,g',cap',Lo,hs5⟩;have q1:=(hs5.block (b:=w.heap.size+1) ae ae ae).trans x1;have n1:w.heap.size+1≠g':=hs5.ne ae ae;have nL:L≠g':=hs5.ne ae Z';have l1:=hs5.cell (b:=L) hL1 hLR Z';have l2:=(aS (hs5.block (b:=L) ae hLR Z') 0).trans hLf1;have z5:=hs5.size;have W5:=hid Lo;have S5:=hid ((Stp.of_below BW.out).trans hs5);have BN:=hid (aj w5 (aN ty lo fa cn fc));have q2:=(BN.out.block (w.heap.size+1) ae).trans q1
 have l3:=(BN.out.cell (p:=⟨L,0,none⟩) (by exact ZQ l1)).trans l1;have l4:=(BN.out.frozen (p:=⟨L,0,none⟩) (by exact ZQ l1)).trans l2;have nb:=(ZZ w5 (aN ty lo fa cn fc)).1;obtain⟨k0,k1,k2,k3,k4,k5⟩:=aI q2;obtain⟨j0,j1,j2,_,_,_⟩:=aI nb;clear Lo hs5 x0 x1 q1 HC hL1 hLf1 l1 l2;have hz6:(w5.alloc (aN ty lo fa cn fc)).heap.size=w5.heap.size+1:=av;go_wp2_with fail;refine i4 (v:=.agg #[.int .i64 ty,.string lo,.slice fa cn fc]) ?_ rfl ⟨fa,fc,rfl,?_,?_,g',cap',?_,?_,S5.out.m⟩
 ·exact iw
 ·rw[World.cell?_setCell_other _ _ _ _ av,World.cell?_setCell_other _ _ _ _ av,World.cell?_setCell_other _ _ _ _ av];exact World.cell?_setCell_same _ _ _ l3
 ·simp only[World.frozen?_setCell]
  exact l4
 ·exact((((W5.out.later BN.out).set (b:=L) hLR nL).set (b:=w.heap.size+1) ae n1).set (b:=w.heap.size+1) ae n1).set (b:=w.heap.size+1) ae n1
 have hk:=(S5.out.k.mono (T:=fun k=>k=R\/k=g\/k=L) (fun k hk=>ae)).trans (bC BN.out);have hk2:=hk.then (aB _ L 0 (.int .i64 (left-cn))) (fun k _ h=>ae);exact((hk2.then (aB _ (w.heap.size+1) 0 _) (fun k _ h=>ae)).then (aB _ (w.heap.size+1) 1 _) (fun k _ h=>ae)).then (aB _ (w.heap.size+1) 2 _) (fun k _ h=>ae)
end
structure LAt(w:World)(L:Nat)(v:Int):Prop where
 c:w.cell? (ZA L 0)=some (ZI v)
 f:w.frozen? (ZA L 0)=false
theorem LAt.lt{v:Int}(h:LAt w L v):L<w.heap.size:=ZQ h.c
variable {S:Zam}
theorem LAt.kept{v:Int}(h:LAt w L v)(hk:Kept S w w')(hs:¬S L):LAt w' L v:=⟨hk.cell h.c hs,(aS (hk.block L h.lt hs) 0).trans h.f⟩
theorem LAt.later{v:Int}(h:LAt w L v)(hb:Zx w w'):LAt w' L v:=h.kept (S:=fun _=>False) (bC hb) id
abbrev FR(R L g:Nat)(x:Int)(w:World):Ending->World->Prop:=fun e w'=>(∃p,e=thr x p)/\Kept (fun k=>k=R\/k=g\/k=L) w w'
def DZ(R g L:Nat)(lv:NIz)(w:World)(K:Nat)(cs:AVz)(bs:LIz)(n:Nat)(xs:List (Int×ByteArray×(Option Addr×Nat×Nat)×List (Int×Int×(Option Addr×Nat×Nat)×List Int)))(enc:(Int×ByteArray×(Option Addr×Nat×Nat)×List (Int×Int×(Option Addr×Nat×Nat)×List Int))->List Int)(Ok:(Int×ByteArray×(Option Addr×Nat×Nat)×List (Int×Int×(Option Addr×Nat×Nat)×List Int))->(Int×ByteArray×(Option Addr×Nat×Nat))->Prop)(j:Nat)(x:(Int×ByteArray×(Option Addr×Nat×Nat)×List (Int×Int×(Option Addr×Nat×Nat)×List Int))):Prop :=
 ∀(ys:List (Int×ByteArray×(Option Addr×Nat×Nat))) (W:World) (g1 An:Nat) (aa:OAz) (ac:Nat),ys.length=j->(∀(i:Nat)y,ys[i]? =some y->∃x',xs[i]? =some x'/\Ok x' y)->gj R L g g1 w W->LAt W L (lv j)->L≠g1->Wr W R g1 An (bs++aw n++(xs.take j).flatMap enc) ->
  W.ownsRow 0 78 3 (.slice aa j ac) j (ys.flatMap oL)->(∀b,aa=some b->w.heap.size<=b.block/\b.block≠g1) ->
  Zw K (#[Xo x,.slice aa j ac]++cs) W (fun e w'=>∃y,e=.returned (Y9 y)/\Ok x y/\∃g' cap',Wr w' R g' cap' (bs++aw n++(xs.take j).flatMap enc++enc x)/\gj R L g1 g' W w'/\LAt w' L (lv (j+1)))
def Qy(R g L:Nat)(lv:NIz)(w:World)(K:Nat)(cs:AVz)(bs:LIz)(n:Nat)(xs:List (Int×ByteArray×(Option Addr×Nat×Nat)×List (Int×Int×(Option Addr×Nat×Nat)×List Int)))(enc:(Int×ByteArray×(Option Addr×Nat×Nat)×List (Int×Int×(Option Addr×Nat×Nat)×List Int))->List Int)(Ok:(Int×ByteArray×(Option Addr×Nat×Nat)×List (Int×Int×(Option Addr×Nat×Nat)×List Int))->(Int×ByteArray×(Option Addr×Nat×Nat))->Prop)(j:Nat)(x:(Int×ByteArray×(Option Addr×Nat×Nat)×List (Int×Int×(Option Addr×Nat×Nat)×List Int)))(er:Int):Prop :=
 ∀(ys:List (Int×ByteArray×(Option Addr×Nat×Nat))) (W:World) (g1 An:Nat) (aa:OAz) (ac:Nat),ys.length=j->(∀(i:Nat)y,ys[i]? =some y->∃x',xs[i]? =some x'/\Ok x' y)->gj R L g g1 w W->LAt W L (lv j)->L≠g1->Wr W R g1 An (bs++aw n++(xs.take j).flatMap enc) ->
  W.ownsRow 0 78 3 (.slice aa j ac) j (ys.flatMap oL)->(∀b,aa=some b->w.heap.size<=b.block/\b.block≠g1) ->
  Zw K (#[Xo x,.slice aa j ac]++cs) W (aQ R g1 er W)
theorem Ac(R g cap:Nat)(bs:LIz)(ha:OAz)(n hc:Nat)(most:Int)(K:Nat)(cs:AVz)(w:World)(xs:List (Int×ByteArray×(Option Addr×Nat×Nat)×List (Int×Int×(Option Addr×Nat×Nat)×List Int)))(enc:(Int×ByteArray×(Option Addr×Nat×Nat)×List (Int×Int×(Option Addr×Nat×Nat)×List Int))->List Int)(Ok:(Int×ByteArray×(Option Addr×Nat×Nat)×List (Int×Int×(Option Addr×Nat×Nat)×List Int))->(Int×ByteArray×(Option Addr×Nat×Nat))->Prop)(M:Nat)
  (L:Nat) (lv:NIz) (hL:LAt w L (lv 0)) (hLR:L≠R) (Z':L≠g) (h:Wr w R g cap bs) (hn:n<=100000) (hm:(n:Int)<=most) (hmem:pC w ha n xs) (hne:∀b off c,ha=some ⟨b,off,c⟩->b≠R/\b≠g/\b≠L)
  (hK:∀args w,(callFunc K args).run prog w=.ok (.enter K args) w) (hlen:∀(j:Nat)x,xs[j]? =some x->(enc x).length<=M) (hM:M<=1000000) (hb:bs.length+200000000000<=1099511627776)
  (Do:∀(j:Nat)x,xs[j]? =some x->DZ R g L lv w K cs bs n xs enc Ok j x) :
  Zw 141 #[cW R,.slice ha n hc,ZI most,.func (.func K) #[] cs] w fun e w'=>∃(aa:OAz)(ac:Nat)(ys:List (Int×ByteArray×(Option Addr×Nat×Nat))),e=.returned (.slice aa n ac)/\ys.length=n/\(∀(i:Nat)y,ys[i]? =some y->∃x,xs[i]? =some x/\Ok x y) /\
   w'.ownsRow 0 78 3 (.slice aa n ac) n (ys.flatMap oL)/\∃g' cap',(∀b,aa=some b->w.heap.size<=b.block/\b.block≠g')/\Wr w' R g' cap' (bs++aw n++xs.flatMap enc)/\gj R L g g' w w'/\LAt w' L (lv n)/\L≠g':=by
 have du:=bH;have hcc:=cN;have HC:=hid (bU R g cap bs n most w h hm ae ae);have OF:=h.lt;have hLl:=hL.lt;have hgl:=h.g_lt;have hxl:=hmem.1;obtain⟨HM,ZD,HE⟩:=ZH hmem hne Do;obtain⟨i0,hi,hz0,hz1,hz2⟩:=UW;clear h hmem Do hne;go_enter func141,ntmps141
 go_wp2_with fail;refine HC.out.mono ?_;rintro e w2⟨rfl,g1,An,hw2,hs2⟩;have L2:=hid (hL.kept hs2.k aA);have NL2:L≠g1:=hs2.ne hLl Z';obtain⟨W2,S2⟩:=Zz hw2 hs2;clear hw2 hs2 HC du hcc;go_wp2_with fail
 go_loopw [9,17] (fun o i wr=>∃(j:Nat)(ys:List (Int×ByteArray×(Option Addr×Nat×Nat))) (aa:OAz) (ac g1 An:Nat),j<=n/\i=ZI j/\o=.slice aa j ac/\ys.length=j/\(∀(i:Nat)y,ys[i]? =some y->∃x,xs[i]? =some x/\Ok x y) /\
   wr.ownsRow 0 78 3 (.slice aa j ac) j (ys.flatMap oL)/\(∀b,aa=some b->w.heap.size<=b.block/\b.block≠g1)/\Wr wr R g1 An (bs++aw n++(xs.take j).flatMap enc)/\gj R L g g1 w wr/\LAt wr L (lv j)/\L≠g1) (fun _ i _=>n-(intOf i).toNat)
 case atStart=>exact⟨0,[],none,0,g1,An,ae,rfl,rfl,rfl,(fun i y h=>ip),Z7 _ _ _ _,(fun b h=>bS),iu,S2.out.toL,L2.out,NL2⟩
 case round =>
  obtain⟨j,ys,aa,ac,g3,Ly,hj,rfl,rfl,ON,hys,hrow,hab,hwr,hst,oe,hlg⟩:=hrel;have HLA:=hid oe;clear oe L2 NL2;obtain⟨HY,Ys,j9,ix,HST⟩:=ZM hys hrow hab hwr hst;clear hys hrow hab hwr hst W2 S2
  by_cases hlt:j<n
  ·obtain⟨x,hx⟩:=ZB xs j ae
   obtain⟨b,off,rfl,hcell⟩:∃b off,ha=some (ZA b off)/\∀(j:Nat)x,xs[j]? =some x->wr.cell? (ZA b (off+j*3))=some (ZI x.1)/\wr.cell? (ZA b (off+j*3+1))=some (.string x.2.1)/\wr.cell? (ZA b (off+j*3+2))=some (.slice x.2.2.1.1 x.2.2.1.2.1 x.2.2.1.2.2):=by
    exact Hv
   have lP:=hcell j x hx;have hbl:=ZQ lP.1;clear hcell;obtain⟨v0,v1,v2⟩:=lP;have BN:=hid (aj wr (aN x.1 x.2.1 x.2.2.1.1 x.2.2.1.2.1 x.2.2.1.2.2));have rm:=hid (HE.out j x hx ys (wr.alloc (aN x.1 x.2.1 x.2.2.1.1 x.2.2.1.2.1 x.2.2.1.2.2)) g3 Ly aa ac ON HY.out (HST.out.trans (gj.of_below BN.out)) (HLA.out.later BN.out) hlg (ix.out.later BN.out) (aV Ys.out (fun B hB=>BN.out.block B (aL Ys.out hB))) j9.out);exact UR
  obtain rfl:j=n:=ae;have hxs:xs.take j=xs:=ZY ae;go_wp2_with fail;go_ret;refine⟨aa,ac,ys,rfl,ON,HY.out,Ys.out,g3,Ly,j9.out,?_,HST.out,HLA.out,hlg⟩;rw[<- hxs];exact ix.out
theorem Co(R g cap:Nat)(bs:LIz)(ha:OAz)(n hc:Nat)(most:Int)(K:Nat)(cs:AVz)(w:World)(xs:List (Int×ByteArray×(Option Addr×Nat×Nat)×List (Int×Int×(Option Addr×Nat×Nat)×List Int)))(enc:(Int×ByteArray×(Option Addr×Nat×Nat)×List (Int×Int×(Option Addr×Nat×Nat)×List Int))->List Int)(Ok:(Int×ByteArray×(Option Addr×Nat×Nat)×List (Int×Int×(Option Addr×Nat×Nat)×List Int))->(Int×ByteArray×(Option Addr×Nat×Nat))->Prop)(M:Nat)
  (L:Nat) (lv:NIz) (hL:LAt w L (lv 0)) (hLR:L≠R) (Z':L≠g) (h:Wr w R g cap bs) (hn:n<=100000) (hm:(n:Int)<=most) (hmem:pC w ha n xs) (hne:∀b off c,ha=some ⟨b,off,c⟩->b≠R/\b≠g/\b≠L)
  (hK:∀args w,(callFunc K args).run prog w=.ok (.enter K args) w) (hlen:∀(j:Nat)x,xs[j]? =some x->(enc x).length<=M) (hM:M<=1000000) (hb:bs.length+200000000000<=1099511627776)
  (k:Nat) (xk:(Int×ByteArray×(Option Addr×Nat×Nat)×List (Int×Int×(Option Addr×Nat×Nat)×List Int))) (er:Int) (hk:xs[k]? =some xk) (Do:∀(j:Nat)x,xs[j]? =some x->j<k->DZ R g L lv w K cs bs n xs enc Ok j x) (hno:Qy R g L lv w K cs bs n xs enc Ok k xk er) :
  Zw 141 #[cW R,.slice ha n hc,ZI most,.func (.func K) #[] cs] w (FR R L g er w):=by
 have hkn:=aF hk;have du:=bH;have hcc:=cN;have HC:=hid (bU R g cap bs n most w h hm ae ae);have OF:=h.lt;have hLl:=hL.lt;have hgl:=h.g_lt;have hxl:=hmem.1;obtain⟨HM,ZD,HE,HN⟩:=ZF hmem hne Do hno;obtain⟨i0,hi,hz0,hz1,hz2⟩:=UW;clear h hmem Do hne hno;go_enter func141,ntmps141
 go_wp2_with fail;refine HC.out.mono ?_;rintro e w2⟨rfl,g1,An,hw2,hs2⟩;have L2:=hid (hL.kept hs2.k aA);have NL2:L≠g1:=hs2.ne hLl Z';obtain⟨W2,S2⟩:=Zz hw2 hs2;clear hw2 hs2 HC du hcc;go_wp2_with fail
 go_loopw [9,17] (fun o i wr=>∃(j:Nat)(ys:List (Int×ByteArray×(Option Addr×Nat×Nat))) (aa:OAz) (ac g1 An:Nat),j<=k/\i=ZI j/\o=.slice aa j ac/\ys.length=j/\(∀(i:Nat)y,ys[i]? =some y->∃x,xs[i]? =some x/\Ok x y) /\
   wr.ownsRow 0 78 3 (.slice aa j ac) j (ys.flatMap oL)/\(∀b,aa=some b->w.heap.size<=b.block/\b.block≠g1)/\Wr wr R g1 An (bs++aw n++(xs.take j).flatMap enc)/\gj R L g g1 w wr/\LAt wr L (lv j)/\L≠g1) (fun _ i _=>n-(intOf i).toNat)
 case atStart=>exact⟨0,[],none,0,g1,An,ae,rfl,rfl,rfl,(fun i y h=>ip),Z7 _ _ _ _,(fun b h=>bS),iu,S2.out.toL,L2.out,NL2⟩
 case round =>
  obtain⟨j,ys,aa,ac,g3,Ly,hj,rfl,rfl,ON,hys,hrow,hab,hwr,hst,oe,hlg⟩:=hrel;have HLA:=hid oe;clear oe L2 NL2;obtain⟨HY,Ys,j9,ix,HST⟩:=ZM hys hrow hab hwr hst;clear hys hrow hab hwr hst W2 S2;have hlt:j<n:=ae;obtain⟨x,hx⟩:=ZB xs j ae
  obtain⟨b,off,rfl,hcell⟩:∃b off,ha=some (ZA b off)/\∀(j:Nat)x,xs[j]? =some x->wr.cell? (ZA b (off+j*3))=some (ZI x.1)/\wr.cell? (ZA b (off+j*3+1))=some (.string x.2.1)/\wr.cell? (ZA b (off+j*3+2))=some (.slice x.2.2.1.1 x.2.2.1.2.1 x.2.2.1.2.2):=by
   exact Hv
  have lP:=hcell j x hx;have hbl:=ZQ lP.1;clear hcell;obtain⟨v0,v1,v2⟩:=lP;have BN:=hid (aj wr (aN x.1 x.2.1 x.2.2.1.1 x.2.2.1.2.1 x.2.2.1.2.2))
  by_cases hjk:j<k
  ·skip
   have rm:=hid (HE.out j x hx hjk ys (wr.alloc (aN x.1 x.2.1 x.2.2.1.1 x.2.2.1.2.1 x.2.2.1.2.2)) g3 Ly aa ac ON HY.out (HST.out.trans (gj.of_below BN.out)) (HLA.out.later BN.out) hlg (ix.out.later BN.out) (aV Ys.out (fun B hB=>BN.out.block B (aL Ys.out hB))) j9.out);exact UR
  obtain rfl:j=k:=ae;obtain rfl:x=xk:=Aa;have rm:=hid (HN.out ys (wr.alloc (aN x.1 x.2.1 x.2.2.1.1 x.2.2.1.2.1 x.2.2.1.2.2)) g3 Ly aa ac ON HY.out (HST.out.trans (gj.of_below BN.out)) (HLA.out.later BN.out) hlg (ix.out.later BN.out) (aV Ys.out (fun B hB=>BN.out.block B (aL Ys.out hB))) j9.out)
  go_wp2_with fail;refine rm.out.mono ?_;rintro e w5⟨⟨p,rfl⟩,bm⟩;exact⟨rfl,⟨p,rfl⟩,(HST.out.trans (gj.of_below BN.out)).throw bm⟩
abbrev FuM:=Int×ByteArray×SLv×List InM
def qJ(sg:List Sg)(ty:Int):ByteArray:=(sg.getD ty.toNat (⟨#[]⟩,⟨#[]⟩)).1
def gv(sg:List Sg)(left:Int)(ty:Int)(lo:BAz)(xs:List InM):Int :=
 if ty<0\/(sg.length:Int)<=ty then 30 else if 64<lo.size+(qJ sg ty).size then 13 else if bY lo 64=false then 15 else if min 2048 left<(xs.length:Int) then 20 else bj (fun _ x=>d9 x) [] xs
def qm(ty:Int)(lo:BAz)(xs:List InM):List Int:=aw ty++gz lo++(aw xs.length++xs.flatMap dZ)
variable {t:Nat}{p r:BAz}
theorem vF{sg:List Sg}(h:sg[t]? =some (p,r)):qJ sg (t:Int)=p:=by
 simp[qJ,List.getD,h]
section
variable (R g cap:Nat) (bs:LIz) (ty left:Int) (lo:BAz) (ca:OAz) (cn cc:Nat) (sa:OAz) (sn sc:Nat) (sg:List Sg) (xs:List InM) (w:World)
variable {g2:Nat}
theorem Fs(hmem:AtIn w ca cn xs)(hne:∀b off c,nz cn ca=some ⟨b,off,c⟩->b≠R/\b≠g)(hbl:∀b off c,nz cn ca=some ⟨b,off,c⟩->b<w.heap.size)(hok:∀(j:Nat)x,xs[j]? =some x->tu w R g x)(hil:∀(j:Nat)x,xs[j]? =some x->∀b off c,nz x.2.2.1.2.1 x.2.2.1.1=some ⟨b,off,c⟩->b<w.heap.size)(hst:Stp R g g2 w W) :
  AtIn W ca cn xs/\(∀b off c,nz cn ca=some ⟨b,off,c⟩->b≠R/\b≠g2)/\(∀(j:Nat)x,xs[j]? =some x->tu W R g2 x):=by
 refine⟨hmem.kept hst.k (fun b off c h=>ye),fun b off c h=>⟨(hne b off c h).1,hst.ne (hbl b off c h) (hne b off c h).2⟩,fun j x hj=>?_⟩;have h:=hok j x hj;exact⟨h.r0,h.r1,h.seg' hst,fun b off c hb=>⟨(h.ne b off c hb).1,hst.ne (hil j x hj b off c hb) (h.ne b off c hb).2⟩⟩
theorem Kr(h:Wr w R g cap bs)(hb:bs.length+400000000000<=1099511627776)(hs:sn<=100000)(my:R≠0)(hg0:g≠0)(hk:aX w)(X1:dC w sa sn sg)(hne:∀b off c,sa=some ⟨b,off,c⟩->b≠R/\b≠g)(pm:∀(t:Nat)p r,sg[t]? =some (p,r)->p.size<=8)(hcn:cn<=100000\/2048<cn)(hmem:AtIn w ca cn xs)(hcne:∀b off c,nz cn ca=some ⟨b,off,c⟩->b≠R/\b≠g)(hcbl:∀b off c,nz cn ca=some ⟨b,off,c⟩->b<w.heap.size)(hok:∀(j:Nat)x,xs[j]? =some x->tu w R g x)(hil:∀(j:Nat)x,xs[j]? =some x->∀b off c,nz x.2.2.1.2.1 x.2.2.1.1=some ⟨b,off,c⟩->b<w.heap.size)(hx:gv sg left ty lo xs=0) :
  Zw 143 #[cW R,.agg #[ZI ty,.string lo,.slice ca cn cc],.slice sa sn sc,ZI left] w (fun e w'=>∃(aa:OAz)(ac:Nat),e=.returned (.agg #[ZI ty,.string lo,.slice aa cn ac])/\∃g' cap',Wr w' R g' cap' (bs++qm ty lo xs)/\Stp R g g' w w'):=by
 have hxl:=hmem.1;have hsl:=X1.1;unfold gv at hx
 split at hx
 ·cases hx
 rename_i c1
 split at hx
 ·cases hx
 rename_i c2
 split at hx
 ·cases hx
 rename_i c3
 split at hx
 ·cases hx
 rename_i c4;obtain⟨t,rfl⟩:∃t:Nat,ty=t:=⟨ty.toNat,ae⟩
 have hlt:bY lo 64=true:=by simpa using c3
 refine(Eh R g cap bs t left lo ca cn cc sa sn sc sg w h ae hs ae X1 hne (fun p r hp=>pm t p r hp) (fun p r hp=>sZ) hlt (aw cn++xs.flatMap dZ)
  (fun W g2 cap2 hW hst hA OR=>?_)).mono ?_
 ·obtain⟨m1,m2,m3⟩:=Fs R g ca cn xs w hmem hcne hcbl hok hil hst;have hg2:g2≠0:=Ne.symm (hst.ne su (Ne.symm hg0));have hu:=ay (t:Int);have hlo:=ek lo 64 ae;exact Au R g2 cap2 _ ca cn cc (min 2048 left) w.heap.size xs W hW vg ae ae my hg2 (hk.kept hst.k aA) hA su OR m1 m2 m3 hx
 rintro e w' ⟨aa,ac,he,g',cap',hw',hs'⟩;refine⟨aa,ac,he,g',cap',?_,hs'⟩;rw[<- hxl]at hw'
 simpa[qm,Z2] using hw'
theorem JD(h:Wr w R g cap bs)(hb:bs.length+400000000000<=1099511627776)(hs:sn<=100000)(my:R≠0)(hg0:g≠0)(hk:aX w)(X1:dC w sa sn sg)(hne:∀b off c,sa=some ⟨b,off,c⟩->b≠R/\b≠g)(pm:∀(t:Nat)p r,sg[t]? =some (p,r)->p.size<=8)(hcn:cn<=100000\/2048<cn)(hmem:AtIn w ca cn xs)(hcne:∀b off c,nz cn ca=some ⟨b,off,c⟩->b≠R/\b≠g)(hcbl:∀b off c,nz cn ca=some ⟨b,off,c⟩->b<w.heap.size)(hok:∀(j:Nat)x,xs[j]? =some x->tu w R g x)(hil:∀(j:Nat)x,xs[j]? =some x->∀b off c,nz x.2.2.1.2.1 x.2.2.1.1=some ⟨b,off,c⟩->b<w.heap.size)(hty:-9223372036854775808<=ty)(hty1:ty<9223372036854775808)(hlo:lo.size<=1073741824\/64<lo.size)(hx:gv sg left ty lo xs≠0) :
  Zw 143 #[cW R,.agg #[ZI ty,.string lo,.slice ca cn cc],.slice sa sn sc,ZI left] w (aQ R g (gv sg left ty lo xs) w):=by
 have hxl:=hmem.1;have hsl:=X1.1;have OF:=h.lt;unfold gv at hx ⊢
 by_cases c1:ty<0\/(sg.length:Int)<=ty
 ·rw[if_pos c1];exact JZ R g cap bs left lo ca cn cc sa sn sc w ty h hty hty1 ae hs
 rw[if_neg c1]at hx ⊢;obtain⟨t,rfl⟩:∃t:Nat,ty=t:=⟨ty.toNat,ae⟩
 by_cases c2:64<lo.size+(qJ sg t).size
 ·rw[if_pos c2]
  exact Av R g cap bs t left lo ca cn cc sa sn sc sg w h ae hs ae X1 hne (fun p r hp=>pm t p r hp) 13 (fun W g1 An p r hp hps hW=>ie R g1 An _ lo _ _ W hW sZ)
 rw[if_neg c2]at hx ⊢
 by_cases c3:bY lo 64=false
 ·rw[if_pos c3]
  exact Av R g cap bs t left lo ca cn cc sa sn sc sg w h ae hs ae X1 hne (fun p r hp=>pm t p r hp) 15 (fun W g1 An p r hp hps hW=>gQ R g1 An _ lo _ 183 #[] 15 W hW sZ (fun _ _=>rfl) (kJ lo _ W ae (by rw[gg lo 256 64 ae ae]; exact c3)))
 rw[if_neg c3]at hx ⊢
 have c3':bY lo 64=true:=by simpa using c3
 have hlo8:∀p r,sg[t]? =some (p,r)->lo.size+p.size<=64:=fun p r hp=>sZ;have hu:=ay (t:Int);have hle:=ek lo 64 ae
 by_cases c4:min 2048 left<(xs.length:Int)
 ·rw[if_pos c4]
  exact BQ R g cap bs t left lo ca cn cc sa sn sc sg w h ae hs ae X1 hne (fun p r hp=>pm t p r hp) hlo8 c3' 20 (fun W g2 cap2 hW hst hA OR=>xX R g2 cap2 _ ca cn cc _ _ W hW ae)
 rw[if_neg c4]at hx ⊢;refine BQ R g cap bs t left lo ca cn cc sa sn sc sg w h ae hs ae X1 hne (fun p r hp=>pm t p r hp) hlo8 c3' _ (fun W g2 cap2 hW hst hA OR=>?_);obtain⟨m1,m2,m3⟩:=Fs R g ca cn xs w hmem hcne hcbl hok hil hst;have hg2:g2≠0:=Ne.symm (hst.ne ae (Ne.symm hg0));exact Dc R g2 cap2 _ ca cn cc (min 2048 left) w.heap.size xs W hW vg ae ae my hg2 (hk.kept hst.k aA) hA ae OR m1 m2 m3 hx
end
section
def cG(xs:List FuM):Nat:=(xs.map fun x=>x.2.2.2.length).sum
variable {j:Nat}{x:FuM}
theorem pH{xs:List FuM}(hx:xs[j]? =some x):cG (xs.take (j+1))=cG (xs.take j)+x.2.2.2.length:=by
 have hj:=aF hx;rw[List.take_succ_eq_append_getElem hj];rw[aD hj]at hx;simp at hx;simp[cG,hx]
def dX(sg:List Sg)(ah:List FuM)(x:FuM):Int:=gv sg (16384-cG ah) x.1 x.2.1 x.2.2.2
def cT(x:FuM):List Int:=qm x.1 x.2.1 x.2.2.2
structure LM(w:World)(R g L:Nat)(x:FuM):Prop where
 r0:-9223372036854775808<=x.1
 r1:x.1<9223372036854775808
 mem:AtIn w x.2.2.1.1 x.2.2.1.2.1 x.2.2.2
 ne:∀b off c,nz x.2.2.1.2.1 x.2.2.1.1=some ⟨b,off,c⟩->b≠R/\b≠g/\b≠L
 lt:∀b off c,nz x.2.2.1.2.1 x.2.2.1.1=some ⟨b,off,c⟩->b<w.heap.size
 ins:∀(j:Nat)y,x.2.2.2[j]? =some y->tu w R g y
 inl:∀(j:Nat)y,x.2.2.2[j]? =some y->∀b off c,nz y.2.2.1.2.1 y.2.2.1.1=some ⟨b,off,c⟩->b<w.heap.size/\b≠L
variable {left:Int}
theorem qF{sg:List Sg}{ty:Int}{lo:BAz}{xs:List InM}(h:gv sg left ty lo xs=0):lo.size<=64/\(xs.length:Int)<=left/\xs.length<=2048/\bj (fun _ x=>d9 x) [] xs=0:=by
 unfold gv at h
 split at h
 ·cases h
 split at h
 ·cases h
 split at h
 ·cases h
 split at h
 ·cases h
 refine⟨ae,ae,ae,h⟩
theorem jE{sg:List Sg}(h:gv sg left x.1 x.2.1 x.2.2.2=0):(cT x).length<=400000:=by
 obtain⟨h1,h2,h3,h4⟩:=qF h;have a:=ay x.1;have b:=ek x.2.1 64 h1;have c:=ay x.2.2.2.length;have d:=cU dZ 171 x.2.2.2 (fun j y hj=>jL (br (fun _ x=>d9 x) x.2.2.2 [] h4 j y hj));simp only[cT,qm,ZV];have:x.2.2.2.length*171<=2048*171:=Nat.mul_le_mul_right _ h3;omega
section
variable (R g cap:Nat) (bs:LIz) (n:Nat) (A O L:Nat) (ta:OAz) (tn tc:Nat) (sg:List Sg) (w:World) (xs:List FuM)
variable {W:World}{g1:Nat}
theorem OU(hok:∀(j:Nat)x,xs[j]? =some x->LM w R g L x)(hst:gj R L g g1 w W)(j:Nat)(x:FuM)(hx:xs[j]? =some x) :
  AtIn W x.2.2.1.1 x.2.2.1.2.1 x.2.2.2/\(∀b off c,nz x.2.2.1.2.1 x.2.2.1.1=some ⟨b,off,c⟩->b≠R/\b≠g1)/\(∀b off c,nz x.2.2.1.2.1 x.2.2.1.1=some ⟨b,off,c⟩->b<W.heap.size)/\(∀(i:Nat)y,x.2.2.2[i]? =some y->tu W R g1 y)/\(∀(i:Nat)y,x.2.2.2[i]? =some y->∀b off c,nz y.2.2.1.2.1 y.2.2.1.1=some ⟨b,off,c⟩->b<W.heap.size):=by
 have h:=hok j x hx;have hz:=hst.size;refine⟨h.mem.kept hst.k (fun b off c hb=>by have:=h.ne b off c hb; simp; omega),fun b off c hb=>⟨(h.ne b off c hb).1,hst.ne (h.lt b off c hb) (h.ne b off c hb).2.1⟩,fun b off c hb=>Z8 (h.lt b off c hb) hz,fun i y hi=>?_,fun i y hi b off c hb=>Z8 (h.inl i y hi b off c hb).1 hz⟩;have q:=h.ins i y hi;exact⟨q.r0,q.r1,q.seg.kept' hst.k (fun b off c hb=>by have:=q.ne b off c hb; have:=(h.inl i y hi b off c hb).2; simp; omega),fun b off c hb=>⟨(q.ne b off c hb).1,hst.ne (h.inl i y hi b off c hb).1 (q.ne b off c hb).2⟩⟩
theorem AK(h:Wr w R g cap bs)(hb:bs.length+500000000000<=1099511627776)(hn:n<=1000)(my:R≠0)(hg0:g≠0)(hk:aX w)(hL0:L≠0)(hA:w.cell? (ZA A 0)=some (cW R))(TO:A≠R)(OR:A≠g)(hAL:A≠L)(hO:w.cell? (ZA O 0)=some (.slice ta tn tc))(kl:O≠R)(kh:O≠g)(hOL:O≠L)(htn:tn<=100000)(X1:dC w ta tn sg)(hsn:∀b off c,ta=some ⟨b,off,c⟩->b≠R/\b≠g/\b≠L)(hsl:∀b off c,ta=some ⟨b,off,c⟩->b<w.heap.size)(pm:∀(t:Nat)p r,sg[t]? =some (p,r)->p.size<=8)(hLR:L≠R)(Z':L≠g)(hok:∀(j:Nat)x,xs[j]? =some x->LM w R g L x)(hl:xs.length=n)(e:FuM->List Int)(k:Nat)(he:∀(i:Nat)y,xs[i]? =some y->i<k->e y=cT y)(hall:∀(i:Nat)y,xs[i]? =some y->i<k->dX sg (xs.take i) y=0)(j:Nat)(x:FuM)(hx:xs[j]? =some x)(hjk:j<k) :
  DZ R g L (fun j=>16384-(cG (xs.take j):Int)) w 142 #[ZP A 0,ZP O 0,ZP L 0] bs n xs e (fun _ _=>True) j x:=by
 intro ys W g1 An aa ac ON hys hst oe hlg hwr hrow hab;have hlt:=aF hx;have If:=hall j x hx hjk;have henc:=he j x hx hjk
 have hlen:((xs.take j).flatMap e).length<=j*400000:=by
  have:=cU e 400000 (xs.take j) (fun i y hi=>by
   have hij:i<j:=ol;rw[List.getElem?_take_of_lt hij]at hi;rw[he i y hi ae];exact jE (hall i y hi ae))
  exact p9
 have hu:=ay (n:Int)
 have hbb:(bs++aw n++(xs.take j).flatMap e).length<=bs.length+10+1000*400000:=by
  rw[ZV,ZV];have:j*400000<=1000*400000:=Nat.mul_le_mul_right _ ae;omega
 obtain⟨m1,m2,m3,m4,m5⟩:=OU R g L w xs hok hst j x hx;have hkk:=qF If;have hxl:=(hok j x hx).mem.1;have hg1:g1≠0:=Ne.symm (hst.ne su (Ne.symm hg0));have hkW:aX W:=hk.kept hst.k aA;have hsgW:=X1.kept hst.k (fun b off c hb'=>by have:=hsn b off c hb'; simp; omega);have hcell:=oe.c;refine(CU R g1 An _ x.1 x.2.1 x.2.2.1.1 x.2.2.1.2.1 x.2.2.1.2.2 aa j ac A O L ta tn tc (16384-(cG (xs.take j):Int)) W hwr (hst.cell hA TO OR hAL) (hst.cell hO kl kh hOL) oe.c oe.f hLR hlg ae ae (bs++aw n++(xs.take j).flatMap e++e x) (fun W2 hb2=>?_)).mono ?_
 ·have hst2:=hst.trans (gj.of_below (L:=L) (R:=R) (g:=g1) hb2);obtain⟨p1,p2,p3,p4,p5⟩:=OU R g L w xs hok hst2 j x hx
  refine(Kr R g1 An _ x.1 (16384-(cG (xs.take j):Int)) x.2.1 x.2.2.1.1 x.2.2.1.2.1 x.2.2.1.2.2 ta tn tc sg x.2.2.2 W2 (hwr.later hb2) ae htn my hg1 (hkW.later hb2 hkW.pos) (hsgW.later hb2) (fun b off c hb'=>⟨(hsn b off c hb').1,hst.ne (hsl b off c hb') (hsn b off c hb').2.1⟩) pm ae p1 p2 p3 p4 p5 If).mono ?_;rintro e' w' ⟨fa,fc,he',g',cap',hw',hs'⟩;refine⟨fa,fc,he',g',cap',?_,hs'⟩;rw[henc];exact hw'
 rintro e' w' ⟨fa,fc,he',hlc,hlf,g',cap',hw',hk',hm'⟩;refine⟨(x.1,x.2.1,(fa,x.2.2.1.2.1,fc)),he',trivial,g',cap',hw',⟨hk',hm'⟩,⟨?_,hlf⟩⟩;rw[hlc];show some (Value.int IntKind.i64 (16384-(cG (xs.take j):Int)-(x.2.2.1.2.1:Int)))=some (Value.int IntKind.i64 (16384-(cG (xs.take (j+1)):Int)));rw[pH hx]
 congr 2
 omega
theorem QP(h:Wr w R g cap bs)(hb:bs.length+500000000000<=1099511627776)(hn:n<=1000)(my:R≠0)(hg0:g≠0)(hk:aX w)(hL0:L≠0)(hA:w.cell? (ZA A 0)=some (cW R))(TO:A≠R)(OR:A≠g)(hAL:A≠L)(hO:w.cell? (ZA O 0)=some (.slice ta tn tc))(kl:O≠R)(kh:O≠g)(hOL:O≠L)(htn:tn<=100000)(X1:dC w ta tn sg)(hsn:∀b off c,ta=some ⟨b,off,c⟩->b≠R/\b≠g/\b≠L)(hsl:∀b off c,ta=some ⟨b,off,c⟩->b<w.heap.size)(pm:∀(t:Nat)p r,sg[t]? =some (p,r)->p.size<=8)(hLR:L≠R)(Z':L≠g)(hok:∀(j:Nat)x,xs[j]? =some x->LM w R g L x)(hl:xs.length=n)(ha:OAz)(hc:Nat)(hL:LAt w L 16384)(hmem:pC w ha n xs)(hne:∀b off c,ha=some ⟨b,off,c⟩->b≠R/\b≠g/\b≠L)(hx:bG (dX sg) 128 xs=0) :
  Zw 141 #[cW R,.slice ha n hc,ZI 128,.func (.func 142) #[] #[.pointer (some ⟨A,0,none⟩),.pointer (some ⟨O,0,none⟩),.pointer (some ⟨L,0,none⟩)]] w fun e w'=>∃(aa:OAz)(ac:Nat),e=.returned (.slice aa n ac)/\∃g' cap',Wr w' R g' cap' (bs++(aw n++xs.flatMap cT))/\gj R L g g' w w':=by
 unfold bG at hx
 split at hx
 ·cases hx
 rename_i hm;have hall:=br (dX sg) xs [] hx;have DO:∀(i:Nat)y,xs[i]? =some y->dX sg (xs.take i) y=0:=fun i y hi=>hall i y hi
 refine(Ac R g cap bs ha n hc 128 142 _ w xs cT (fun _ _=>True) 400000 L (fun j=>16384-(cG (xs.take j):Int)) (by simpa[cG] using hL) hLR Z' h ae ae hmem hne (fun _ _=>rfl) (fun j x hj=>jE (DO j x hj)) ae ae
  (fun j x hj=>AK R g cap bs n A O L ta tn tc sg w xs h hb hn my hg0 hk hL0 hA TO OR hAL hO kl kh hOL htn X1 hsn hsl pm hLR Z' hok hl cT (j+1) (fun _ _ _ _=>rfl) (fun i y hi _=>DO i y hi) j x hj ae)).mono ?_
 rintro e w' ⟨aa,ac,ys,he,ON,hys,hrow,g',cap',hab,hw',hs',_⟩;exact⟨aa,ac,he,g',cap',xD,hs'⟩
theorem Vt(h:Wr w R g cap bs)(hb:bs.length+500000000000<=1099511627776)(hn:n<=1000)(my:R≠0)(hg0:g≠0)(hk:aX w)(hL0:L≠0)(hA:w.cell? (ZA A 0)=some (cW R))(TO:A≠R)(OR:A≠g)(hAL:A≠L)(hO:w.cell? (ZA O 0)=some (.slice ta tn tc))(kl:O≠R)(kh:O≠g)(hOL:O≠L)(htn:tn<=100000)(X1:dC w ta tn sg)(hsn:∀b off c,ta=some ⟨b,off,c⟩->b≠R/\b≠g/\b≠L)(hsl:∀b off c,ta=some ⟨b,off,c⟩->b<w.heap.size)(pm:∀(t:Nat)p r,sg[t]? =some (p,r)->p.size<=8)(hLR:L≠R)(Z':L≠g)(hok:∀(j:Nat)x,xs[j]? =some x->LM w R g L x)(hl:xs.length=n)(ha:OAz)(hc:Nat)(hL:LAt w L 16384)(hmem:pC w ha n xs)(hne:∀b off c,ha=some ⟨b,off,c⟩->b≠R/\b≠g/\b≠L)(hx:bG (dX sg) 128 xs≠0) :
  Zw 141 #[cW R,.slice ha n hc,ZI 128,.func (.func 142) #[] #[.pointer (some ⟨A,0,none⟩),.pointer (some ⟨O,0,none⟩),.pointer (some ⟨L,0,none⟩)]] w (FR R L g (bG (dX sg) 128 xs) w):=by
 unfold bG at hx ⊢
 by_cases hm:(128:Int)<xs.length
 ·rw[if_pos hm];refine(pJ R g cap bs ha n hc 128 _ w h ae).mono ?_;rintro e w' ⟨hp,hk'⟩
  exact⟨hp,hk'.mono (fun k hk=>ae)⟩
 rw[if_neg hm]at hx ⊢;obtain⟨k,x,h1,h2,h3,h4⟩:=fh (dX sg) xs [] hx;have hall:=br (dX sg) (xs.take k) [] h2
 have DO:∀(i:Nat)y,xs[i]? =some y->i<k->dX sg (xs.take i) y=0:=fun i y hi hik=>by
  have hh:=hall i y xu
  have e:(xs.take k).take i=xs.take i:=by rw[List.take_take]; congr 1; omega
  simp only[List.nil_append,e]at hh;exact hh
 rw[h4];simp only[List.nil_append]at h3 ⊢
 obtain⟨E,hE⟩:∃E:FuM->List Int,E=fun y=>if (cT y).length<=400000 then cT y else []:=⟨_,rfl⟩
 have hEl:∀y,(E y).length<=400000:=fun y=>by
  rw[hE];show(if (cT y).length<=400000 then cT y else []).length<=400000
  split
  ·assumption
  simp
 have hEe:∀(i:Nat)z,xs[i]? =some z->i<k->E z=cT z:=fun i z hi hik=>by
  rw[hE];exact if_pos (jE (DO i z hi hik))
 refine Co R g cap bs ha n hc 128 142 _ w xs E (fun _ _=>True) 400000 L (fun j=>16384-(cG (xs.take j):Int)) (by simpa[cG] using hL) hLR Z' h ae ae hmem hne (fun _ _=>rfl) (fun j y hj=>hEl y) ae ae k x _ h1
  (fun j y hj hjk=>AK R g cap bs n A O L ta tn tc sg w xs h hb hn my hg0 hk hL0 hA TO OR hAL hO kl kh hOL htn X1 hsn hsl pm hLR Z' hok hl E k hEe DO j y hj hjk) ?_
 intro ys W g1 An aa ac ON hys hst oe hlg hwr hrow hab;have hlt:=aF h1;have hu:=ay (n:Int)
 have hbb:(bs++aw n++(xs.take k).flatMap E).length<=bs.length+10+1000*400000:=by
  have hf:=cU E 400000 (xs.take k) (fun i y _=>hEl y);rw[List.length_take]at hf;have e1:min k xs.length=k:=ae;rw[e1]at hf;rw[ZV,ZV];have:k*400000<=1000*400000:=Nat.mul_le_mul_right _ ae;omega
 have hg1:g1≠0:=Ne.symm (hst.ne su (Ne.symm hg0));have hkW:aX W:=hk.kept hst.k aA;have hsgW:=X1.kept hst.k (fun b off c hb'=>by have:=hsn b off c hb'; simp; omega);refine KG R g1 An _ x.1 x.2.1 x.2.2.1.1 x.2.2.1.2.1 x.2.2.1.2.2 aa k ac A O L ta tn tc (16384-(cG (xs.take k):Int)) W hwr (hst.cell hA TO OR hAL) (hst.cell hO kl kh hOL) oe.c _ (fun W2 hb2=>?_);have hst2:=hst.trans (gj.of_below (L:=L) (R:=R) (g:=g1) hb2);obtain⟨p1,p2,p3,p4,p5⟩:=OU R g L w xs hok hst2 k x h1;exact JD R g1 An _ x.1 (16384-(cG (xs.take k):Int)) x.2.1 x.2.2.1.1 x.2.2.1.2.1 x.2.2.1.2.2 ta tn tc sg x.2.2.2 W2 (hwr.later hb2) ae htn my hg1 (hkW.later hb2 hkW.pos) (hsgW.later hb2) (fun b off c hb'=>⟨(hsn b off c hb').1,hst.ne (hsl b off c hb') (hsn b off c hb').2.1⟩) pm ae p1 p2 p3 p4 p5 (hok k x h1).r0 (hok k x h1).r1 ae h3
end
structure MM where
 ta:Option Addr
 tn:Nat
 tc:Nat
 types:List Sg
 ha:Option Addr
 hn:Nat
 hc:Nat
 hosts:List Int
 ga:Option Addr
 gn:Nat
 gc:Nat
 globals:List Gl
 fi:Int
 mo:Int
 fa:Option Addr
 fn:Nat
 fc:Nat
 fns:List FuM
 da:Option Addr
 dn:Nat
 dc:Nat
 data:List DaM
 ea:Option Addr
 en:Nat
 ec:Nat
 exps:List Ex
def Far(w:World)(R g:Nat)(a:OAz):Prop:=∀b off c,a=some ⟨b,off,c⟩->b≠R/\b≠g/\b<w.heap.size
variable {w:World}{R g:Nat}{a:OAz}
theorem Far.nz(h:Far w R g a)(n:Nat):Far w R g (nz n a):=fun b off c hb=>h b off c (FP hb)
variable {W:World}{g1:Nat}
theorem Far.at(h:Far w R g a)(hs:Stp R g g1 w W):∀b off c,a=some ⟨b,off,c⟩->b≠R/\b≠g1:=fun b off c hb=>⟨(h b off c hb).1,hs.ne (h b off c hb).2.2 (h b off c hb).2.1⟩
theorem Far.not(h:Far w R g a):∀b off c,a=some ⟨b,off,c⟩->¬(b=R\/b=g):=fun b off c hb=>by have:=h b off c hb; omega
structure MOk(w:World)(R g:Nat)(m:MM):Prop where
 pt:jP w m.ta m.tn m.types
 tf:Far w R g m.ta
 ph:mE w m.ha m.hn m.hosts
 hf:Far w R g m.ha
 hr:∀(j:Nat)x,m.hosts[j]? =some x->-9223372036854775808<=x/\x<9223372036854775808
 pg:qI w m.ga m.gn m.globals
 gf:Far w R g m.ga
 gr:∀(j:Nat)x,m.globals[j]? =some x->0<=x.1/\x.1<=255/\0<=x.2.2/\x.2.2<18446744073709551616
 i0:-9223372036854775808<=m.fi
 i1:m.fi<9223372036854775808
 o0:-9223372036854775808<=m.mo
 o1:m.mo<9223372036854775808
 pf:pC w m.fa m.fn m.fns
 ff:Far w R g m.fa
 fr:∀(j:Nat)x,m.fns[j]? =some x->(-9223372036854775808<=x.1/\x.1<9223372036854775808)/\AtIn w x.2.2.1.1 x.2.2.1.2.1 x.2.2.2/\Far w R g (nz x.2.2.1.2.1 x.2.2.1.1)/\∀(i:Nat)y,x.2.2.2[i]? =some y->0<=y.1/\y.1<=255/\gW w y.2.2.1.1 y.2.2.1.2.1 y.2.2.1.2.2 y.2.2.2/\Far w R g (nz y.2.2.1.2.1 y.2.2.1.1)
 pd:qM w m.da m.dn m.data
 df:Far w R g m.da
 dr:∀(j:Nat)x,m.data[j]? =some x->(-9223372036854775808<=x.1/\x.1<9223372036854775808)/\Seg w x.2.1.1 x.2.1.2.1 x.2.1.2.2 x.2.2/\Far w R g (nz x.2.1.2.1 x.2.1.1)
 pe:qw w m.ea m.en m.exps
 ef:Far w R g m.ea
 er:∀(j:Nat)x,m.exps[j]? =some x->-9223372036854775808<=x.2/\x.2<9223372036854775808
def e1(m:MM):Int:=bG cV 64 m.types
def e2(m:MM):Int:=bG (fun(_:LIz) x=>cO m.tn x) 32 m.hosts
def e3(m:MM):Int:=bG (fun(_:List Gl) x=>fe x) 64 m.globals
def e4(m:MM):Int:=jK 0 m.fi
def e5(m:MM):Int:=jK m.fi m.mo
def e6(m:MM):Int:=bG (dX m.types) 128 m.fns
def e7(m:MM):Int:=bG (fun(ah:List DaM) x=>cg (m.fi*4096) ah x) 64 m.data
def e8(m:MM):Int:=bG (fun(ah:List Ex) x=>eI m.fn ah x) 64 m.exps
def fK(m:MM):Int:=orE (e1 m) (orE (e2 m) (orE (e3 m) (orE (e4 m) (orE (e5 m) (orE (e6 m) (orE (e7 m) (e8 m)))))))
def qL(m:MM):List Int:=(aw m.tn++m.types.flatMap bP)++((aw m.hn++m.hosts.flatMap (fun x=>aw x))++((aw m.gn++m.globals.flatMap dE)++(aw m.fi++(aw m.mo++((aw m.fn++m.fns.flatMap cT)++((aw m.dn++m.data.flatMap dz)++(aw m.en++m.exps.flatMap eJ)))))))
def mV(m:MM):Array Value:=#[.slice m.ta m.tn m.tc,.slice m.ha m.hn m.hc,.slice m.ga m.gn m.gc,ZI m.fi,ZI m.mo,.slice m.fa m.fn m.fc,.slice m.da m.dn m.dc,.slice m.ea m.en m.ec]
def zV:Array Value:=#[ZN,ZN,ZN,ZI 0,ZI 0,ZN,ZN,ZN]
variable {a b:Int}
theorem eo(h:a≠0):orE a b=a:=by simp[orE,h]
theorem aM(h:a=0):orE a b=b:=by simp[orE,h]
structure Sta(w W:World)(R g g1:Nat)(mv ov:AVz):Prop where
 s:Stp R g g1 w W
 z:w.heap.size+1+1+1<W.heap.size
 c0:W.cell? (ZA w.heap.size 0)=some (cW R)
 mb:W.heap[w.heap.size+1]? =some (.cells mv 29)
 rb:W.heap[w.heap.size+1+1]? =some (.cells zV 29)
 ob:W.heap[w.heap.size+1+1+1]? =some (.cells ov 29)
 n0:w.heap.size≠g1
 n1:w.heap.size+1≠g1
 n2:w.heap.size+1+1≠g1
 n3:w.heap.size+1+1+1≠g1
variable {W':World}{g2:Nat}{mv ov:AVz}
theorem Sta.step(h:Sta w W R g g1 mv ov)(hR:R<w.heap.size)(hs:Stp R g1 g2 W W'):Sta w W' R g g2 mv ov:=by
 have hz:=h.z;exact⟨h.s.trans hs,Z8 hz hs.size,hs.cell h.c0 ae h.n0,(hs.block ae ae h.n1).trans h.mb,(hs.block ae ae h.n2).trans h.rb,(hs.block ae ae h.n3).trans h.ob,hs.ne ae h.n0,hs.ne ae h.n1,hs.ne ae h.n2,hs.ne ae h.n3⟩
variable {i:Nat}
theorem Sta.set(h:Sta w W R g g1 mv ov){v:Value}(hi:i<ov.size):Sta w (W.setCell (ZA (w.heap.size+1+1+1) i) v) R g g1 mv (ov.setIfInBounds i v):=by
 have hk:=aB W (w.heap.size+1+1+1) i v;have hz:=h.z;exact⟨h.s.set ae,Z8 hz hk.size,hk.cell h.c0 ae,(hk.block _ ae ae).trans h.mb,(hk.block _ ae ae).trans h.rb,Kz h.ob hi,h.n0,h.n1,h.n2,h.n3⟩
def W86(w:World)(R:Nat)(m:MM):World:=(((w.alloc (gy (cW R))).alloc (.cells (mV m) 29)).alloc (.cells zV 29)).alloc (.cells zV 29)
theorem R8(w:World)(R g cap:Nat)(bs:LIz)(m:MM)(h:Wr w R g cap bs):Sta w (W86 w R m) R g g (mV m) zV/\Zx w (W86 w R m):=by
 have hgl:=h.g_lt;have B:Zx w (W86 w R m):=((((ZT _ w).alloc lRn _).alloc av _).alloc bI _).alloc bI _;refine⟨⟨Stp.of_below B,by simp[W86],?_,?_,?_,?_,ae,ae,ae,ae⟩,B⟩
 ·simp[W86,go_sem]
 ·unfold W86;rw[(aj (((w.alloc (gy (cW R))).alloc (.cells (mV m) 29)).alloc (.cells zV 29)) _).block (w.heap.size+1) bI,(aj ((w.alloc (gy (cW R))).alloc (.cells (mV m) 29)) _).block (w.heap.size+1) av]
  have:=(ZZ (w.alloc (gy (cW R))) (.cells (mV m) 29)).1;exact cR
 ·unfold W86;rw[(aj (((w.alloc (gy (cW R))).alloc (.cells (mV m) 29)).alloc (.cells zV 29)) _).block (w.heap.size+1+1) av]
  have:=(ZZ ((w.alloc (gy (cW R))).alloc (.cells (mV m) 29)) (.cells zV 29)).1;exact cR
 unfold W86;have:=(ZZ (((w.alloc (gy (cW R))).alloc (.cells (mV m) 29)).alloc (.cells zV 29)) (.cells zV 29)).1;exact cR
variable {most:Int}{M:Nat}
theorem eP{α:Type}{f:List α->α->Int}{xs:List α}{enc:α->List Int}(h:bG f most xs=0)(hM:∀ah x,f ah x=0->(enc x).length<=M):(xs.length:Int)<=most/\(xs.flatMap enc).length<=xs.length*M:=by
 unfold bG at h
 split at h
 ·cases h
 exact⟨ae,cU enc M xs (fun j x hj=>hM _ x (br f xs [] h j x hj))⟩
variable {L:Nat}
theorem Stp.transL(h:Stp R g g1 w W)(h':gj R L g1 g2 W W')(hL:w.heap.size<=L):Stp R g g2 w W':=by
 refine⟨h.k.then h'.k (fun k hk ht=>?_),?_⟩
 ·rcases ht with rfl | rfl | rfl
  ·exact .inl rfl
  ·exact sM
  omega
 exact xM
theorem Sta.stepL(h:Sta w W R g g1 mv ov)(hR:R<w.heap.size)(hs:gj R L g1 g2 W W')(hL:w.heap.size+1+1+1<L):Sta w W' R g g2 mv ov:=by
 have hz:=h.z;exact⟨h.s.transL hs ae,Z8 hz hs.size,hs.cell h.c0 ae h.n0 ae,(hs.block ae ae h.n1 ae).trans h.mb,(hs.block ae ae h.n2 ae).trans h.rb,(hs.block ae ae h.n3 ae).trans h.ob,hs.ne ae h.n0,hs.ne ae h.n1,hs.ne ae h.n2,hs.ne ae h.n3⟩
variable {w5:World}
theorem Stp.throwL(h:Stp R g g1 w W)(hk:Kept (fun k=>k=R\/k=g1\/k=L) W w5)(hL:w.heap.size<=L):Kept (fun k=>k=R\/k=g) w w5:=by
 refine h.k.then hk (fun k hkl hh=>?_)
 rcases hh with rfl | rfl | rfl
 ·exact .inl rfl
 ·exact sM
 omega
theorem VZ(R g cap:Nat)(bs:LIz)(m:MM)(w:World)(h:Wr w R g cap bs)(hb:bs.length<=1000)(my:R≠0)(hg0:g≠0)(hk:aX w)(hm:MOk w R g m) :
  Zw 86 #[cW R,.agg (mV m)] w fun e w'=>(fK m=0->∃v,e=.returned v/\∃g' cap',Wr w' R g' cap' (bs++qL m)/\Kept (fun k=>k=R\/k=g) w w')/\(fK m≠0->(∃p,e=thr (fK m) p)/\Kept (fun k=>k=R\/k=g) w w'):=by
 have OF:=h.lt;have hgl:=h.g_lt;obtain⟨T1,B1⟩:=R8 w R g cap bs m h;have HW:(((w.alloc (gy (cW R))).alloc (.cells (mV m) 29)).alloc (.cells zV 29)).alloc (.cells zV 29)=W86 w R m:=rfl;have V1:=hid (h.later B1);generalize W86 w R m=W1 at *;obtain⟨TT,HM,HK⟩:=ZH T1 hm hk;obtain⟨⟨m0,m1,m2,m3,m4,m5,m6,m7⟩,_⟩:=ax T1.mb;have c0:=T1.c0;clear h hm hk T1;unfold mV zV at HW;show Zw 86 #[cW R,.agg #[.slice m.ta m.tn m.tc,.slice m.ha m.hn m.hc,.slice m.ga m.gn m.gc,ZI m.fi,ZI m.mo,.slice m.fa m.fn m.fc,.slice m.da m.dn m.dc,.slice m.ea m.en m.ec]] w _;go_enter func86,ntmps86;go_wp2_with fail
 by_cases E1:e1 m=0
 rotate_left
 ·have hcw:fK m=e1 m:=by unfold fK; exact eo E1
  refine(OS R g cap bs m.ta m.tn m.tc w.heap.size W1 m.types V1.out ae c0 ae ae (HM.out.pt.kept TT.out.s.k HM.out.tf.not) (HM.out.tf.at TT.out.s) E1).mono ?_;rintro e w' ⟨⟨q,rfl⟩,hk'⟩;refine⟨rfl,fun h0=>absurd (hcw.symm.trans h0) E1,fun _=>⟨⟨q,?_⟩,TT.out.s.throw hk'⟩⟩;rw[hcw];rfl
 have L1:=eP (enc:=bP) (M:=36) E1 (fun ah x hx=>by have:=eZ hx; exact iK x this.1 this.2.2.1);have l1:=HM.out.pt.1
 have pm:Hid (∀(t:Nat)p r,m.types[t]? =some (p,r)->p.size<=8):=fun t p r ht=>by
  have h1:bj cV [] m.types=0:=by
   have:=E1;unfold e1 bG at this
   split at this
   ·cases this
   exact this
  exact(eZ (br cV m.types [] h1 t (p,r) ht)).1
 have u1:=ay (m.tn:Int);refine(Jw R g cap bs m.ta m.tn m.tc w.heap.size W1 m.types V1.out ae c0 ae ae (HM.out.pt.kept TT.out.s.k HM.out.tf.not) (HM.out.tf.at TT.out.s) E1).mono ?_;rintro e w2⟨kt,xi,rfl,vn,g2,cap2,hab2,hw2,hs2⟩;have T1:=TT;have Tq:=T1.out.step OF hs2;obtain⟨⟨o0,o1,o2,o3,o4,o5,o6,o7⟩,⟨f0,f1,f2,f3,f4,f5,f6,f7⟩⟩:=ax Tq.ob;obtain⟨⟨O',N',L',yk,J',I',xT,H'⟩,_⟩:=ax Tq.mb;have P':=Tq.z;obtain⟨W2,hW2⟩:∃W',w2.setCell (ZA (w.heap.size+1+1+1) 0) (.slice kt m.tn xi)=W':=⟨_,rfl⟩;have T2:=hid (show Sta w W2 R g g2 (mV m) #[.slice kt m.tn xi,ZN,ZN,ZI 0,ZI 0,ZN,ZN,ZN] by rw[<- hW2]; exact Tq.set (i:=0) (v:=.slice kt m.tn xi) (by simp[zV]));have V2:=hid (show Wr W2 R g2 cap2 (bs++(aw m.tn++m.types.flatMap bP)) by rw[<- hW2]; exact hw2.set ae Tq.n3);have FG:(bs++(aw m.tn++m.types.flatMap bP)).length<=4000:=lf;have G2:=hid (show dC W2 kt m.tn m.types by rw[<- hW2]; exact vn.kept (aB _ _ _ _) (fun b off c hb'=>by have q1:=(hab2 _ hb').1; have q2:=TT.out.z; simp only at q1; omega))
 have F2:=hid (show ∀b off c,kt=some ⟨b,off,c⟩->w.heap.size+1+1+1<b/\b≠g2/\b<W2.heap.size from fun b off c hb'=>by
  have q1:=(hab2 _ hb').1;have q2:=(hab2 _ hb').2;have q3:=TT.out.z;have q4:=(aB w2 (w.heap.size+1+1+1) 0 (.slice kt m.tn xi)).size;rw[hW2]at q4;simp only at q1 q2
  exact⟨ae,q2.1,ae⟩)
 clear vn hab2;clear m0 m1 m2 m3 m4 m5 m6 m7 hw2 hs2 c0;obtain⟨⟨m0,m1,m2,m3,m4,m5,m6,m7⟩,_⟩:=ax T2.out.mb;have c0:=T2.out.c0;have p0:=(ax T2.out.ob).1;obtain⟨p0,p1,p2,p3,p4,p5,p6,p7⟩:=p0;go_wp2_with fail;clear Tq o0 o1 o2 o3 o4 o5 o6 o7 f0 f1 f2 f3 f4 f5 f6 f7 O' N' L' yk J' I' xT H' P' hW2
 by_cases E2:e2 m=0
 rotate_left
 ·have hcw:fK m=e2 m:=by unfold fK; rw[aM E1]; exact eo E2
  refine(KY R g2 cap2 _ m.ha m.hn m.hc w.heap.size W2 (w.heap.size+1+1+1) kt m.tn xi m.hosts V2.out ae c0 ae T2.out.n0 p0 ae T2.out.n3 ae HM.out.hr (HM.out.ph.kept T2.out.s.k HM.out.hf.not) (HM.out.hf.at T2.out.s) E2).mono ?_;rintro e w' ⟨⟨q,rfl⟩,hk'⟩;refine⟨rfl,fun h0=>absurd (hcw.symm.trans h0) E2,fun _=>⟨⟨q,?_⟩,T2.out.s.throw hk'⟩⟩;rw[hcw];rfl
 have L2:=eP (enc:=fun x=>aw x) (M:=10) E2 (fun ah x hx=>(ay x).2);have l2:=HM.out.ph.1;have u2:=ay (m.hn:Int);refine(KC R g2 cap2 _ m.ha m.hn m.hc w.heap.size W2 (w.heap.size+1+1+1) kt m.tn xi m.hosts V2.out ae c0 ae T2.out.n0 p0 ae T2.out.n3 ae HM.out.hr (HM.out.ph.kept T2.out.s.k HM.out.hf.not) (HM.out.hf.at T2.out.s) E2).mono ?_;rintro e w3⟨ha',hc',ys3,rfl,_,_,g3,Ly,hw3,hs3⟩;have Tq:=T2.out.step OF hs3;obtain⟨⟨o0,o1,o2,o3,o4,o5,o6,o7⟩,⟨f0,f1,f2,f3,f4,f5,f6,f7⟩⟩:=ax Tq.ob;obtain⟨⟨O',N',L',yk,J',I',xT,H'⟩,_⟩:=ax Tq.mb;have P':=Tq.z;obtain⟨W3,hW3⟩:∃W',w3.setCell (ZA (w.heap.size+1+1+1) 1) (.slice ha' m.hn hc')=W':=⟨_,rfl⟩;have T3:=hid (show Sta w W3 R g g3 (mV m) #[.slice kt m.tn xi,.slice ha' m.hn hc',ZN,ZI 0,ZI 0,ZN,ZN,ZN] by rw[<- hW3]; exact Tq.set (i:=1) (v:=.slice ha' m.hn hc') av);have V3:=hid (show Wr W3 R g3 Ly (bs++(aw m.tn++m.types.flatMap bP)++(aw m.hn++m.hosts.flatMap (fun x=>aw x))) by rw[<- hW3]; exact hw3.set ae Tq.n3);have By:(bs++(aw m.tn++m.types.flatMap bP)++(aw m.hn++m.hosts.flatMap (fun x=>aw x))).length<=5000:=lf
 have G3:=hid (show dC W3 kt m.tn m.types by
  have q:=G2.out.kept hs3.k (fun b off c hb'=>by have:=F2.out b off c hb'; have:=OF; simp; omega);rw[<- hW3]
  exact q.kept (aB _ _ _ _) (fun b off c hb'=>by have:=F2.out b off c hb'; omega))
 have F3:=hid (show ∀b off c,kt=some ⟨b,off,c⟩->w.heap.size+1+1+1<b/\b≠g3/\b<W3.heap.size from fun b off c hb'=>by
  have q:=F2.out b off c hb';have q1:=hs3.size;have q4:=(aB w3 (w.heap.size+1+1+1) 1 (.slice ha' m.hn hc')).size;rw[hW3]at q4;exact⟨q.1,hs3.ne q.2.2 q.2.1,ae⟩)
 clear m0 m1 m2 m3 m4 m5 m6 m7 hw3 hs3 c0;obtain⟨⟨m0,m1,m2,m3,m4,m5,m6,m7⟩,_⟩:=ax T3.out.mb;have c0:=T3.out.c0;have p0:=(ax T3.out.ob).1;obtain⟨p0,p1,p2,p3,p4,p5,p6,p7⟩:=p0;go_wp2_with fail;clear Tq o0 o1 o2 o3 o4 o5 o6 o7 f0 f1 f2 f3 f4 f5 f6 f7 O' N' L' yk J' I' xT H' P' hW3
 by_cases E3:e3 m=0
 rotate_left
 ·have hcw:fK m=e3 m:=by unfold fK; rw[aM E1]; rw[aM E2]; exact eo E3
  refine(DD R g3 Ly _ m.ga m.gn m.gc w.heap.size W3 m.globals V3.out ae c0 ae T3.out.n0 HM.out.gr (HM.out.pg.kept T3.out.s.k HM.out.gf.not) (HM.out.gf.at T3.out.s) E3).mono ?_;rintro e w' ⟨⟨q,rfl⟩,hk'⟩;refine⟨rfl,fun h0=>absurd (hcw.symm.trans h0) E3,fun _=>⟨⟨q,?_⟩,T3.out.s.throw hk'⟩⟩;rw[hcw];rfl
 have L3:=eP (enc:=dE) (M:=12) E3 (fun ah x hx=>lq x);have l3:=HM.out.pg.1;have u3:=ay (m.gn:Int);refine(Ao R g3 Ly _ m.ga m.gn m.gc w.heap.size W3 m.globals V3.out ae c0 ae T3.out.n0 HM.out.gr (HM.out.pg.kept T3.out.s.k HM.out.gf.not) (HM.out.gf.at T3.out.s) E3).mono ?_;rintro e w4⟨ga',gc',ys4,rfl,_,_,g4,ri,hw4,hs4⟩;have Tq:=T3.out.step OF hs4;obtain⟨⟨o0,o1,o2,o3,o4,o5,o6,o7⟩,⟨f0,f1,f2,f3,f4,f5,f6,f7⟩⟩:=ax Tq.ob;obtain⟨⟨O',N',L',yk,J',I',xT,H'⟩,_⟩:=ax Tq.mb;have P':=Tq.z;obtain⟨W4,hW4⟩:∃W',w4.setCell (ZA (w.heap.size+1+1+1) 2) (.slice ga' m.gn gc')=W':=⟨_,rfl⟩;have T4:=hid (show Sta w W4 R g g4 (mV m) #[.slice kt m.tn xi,.slice ha' m.hn hc',.slice ga' m.gn gc',ZI 0,ZI 0,ZN,ZN,ZN] by rw[<- hW4]; exact Tq.set (i:=2) (v:=.slice ga' m.gn gc') av);have V4:=hid (show Wr W4 R g4 ri (bs++(aw m.tn++m.types.flatMap bP)++(aw m.hn++m.hosts.flatMap (fun x=>aw x))++(aw m.gn++m.globals.flatMap dE)) by rw[<- hW4]; exact hw4.set ae Tq.n3);have am:(bs++(aw m.tn++m.types.flatMap bP)++(aw m.hn++m.hosts.flatMap (fun x=>aw x))++(aw m.gn++m.globals.flatMap dE)).length<=6000:=lf
 have G4:=hid (show dC W4 kt m.tn m.types by
  have q:=G3.out.kept hs4.k (fun b off c hb'=>by have:=F3.out b off c hb'; have:=OF; simp; omega);rw[<- hW4]
  exact q.kept (aB _ _ _ _) (fun b off c hb'=>by have:=F3.out b off c hb'; omega))
 have F4:=hid (show ∀b off c,kt=some ⟨b,off,c⟩->w.heap.size+1+1+1<b/\b≠g4/\b<W4.heap.size from fun b off c hb'=>by
  have q:=F3.out b off c hb';have q1:=hs4.size;have q4:=(aB w4 (w.heap.size+1+1+1) 2 (.slice ga' m.gn gc')).size;rw[hW4]at q4;exact⟨q.1,hs4.ne q.2.2 q.2.1,ae⟩)
 clear m0 m1 m2 m3 m4 m5 m6 m7 hw4 hs4 c0;obtain⟨⟨m0,m1,m2,m3,m4,m5,m6,m7⟩,_⟩:=ax T4.out.mb;have c0:=T4.out.c0;have p0:=(ax T4.out.ob).1;obtain⟨p0,p1,p2,p3,p4,p5,p6,p7⟩:=p0;go_wp2_with fail;clear Tq o0 o1 o2 o3 o4 o5 o6 o7 f0 f1 f2 f3 f4 f5 f6 f7 O' N' L' yk J' I' xT H' P' hW4
 by_cases E4:e4 m=0
 rotate_left
 ·have hcw:fK m=e4 m:=by unfold fK; rw[aM E1]; rw[aM E2]; rw[aM E3]; exact eo E4
  have hbad:m.fi<0\/64<m.fi:=by
   apply Classical.byContradiction;intro hq;exact E4 (by unfold e4 jK; exact if_neg hq)
  have h17:e4 m=17:=by unfold e4 jK; exact if_pos hbad
  refine(rH R g4 ri _ m.fi 0 W4 V4.out HM.out.i0 HM.out.i1 hbad ae ae).mono ?_;rintro e w' ⟨⟨q,rfl⟩,hk'⟩;refine⟨rfl,fun h0=>absurd (hcw.symm.trans h0) E4,fun _=>⟨⟨q,?_⟩,T4.out.s.throw hk'⟩⟩;rw[hcw,h17];rfl
 have R4:0<=m.fi/\m.fi<=64:=by
  have hq:=E4;unfold e4 jK at hq
  split at hq
  ·cases hq
  omega
 have u4:=ay (m.fi);refine(qi R g4 ri _ m.fi 0 W4 V4.out ae ae R4.1 R4.2).mono ?_;rintro e w5⟨rfl,g5,cap5,Lo,hs5⟩;have Tq:=T4.out.step OF hs5;obtain⟨⟨o0,o1,o2,o3,o4,o5,o6,o7⟩,⟨f0,f1,f2,f3,f4,f5,f6,f7⟩⟩:=ax Tq.ob;obtain⟨⟨O',N',L',yk,J',I',xT,H'⟩,_⟩:=ax Tq.mb;have P':=Tq.z;obtain⟨W5,hW5⟩:∃W',w5.setCell (ZA (w.heap.size+1+1+1) 3) (ZI m.fi)=W':=⟨_,rfl⟩;have T5:=hid (show Sta w W5 R g g5 (mV m) #[.slice kt m.tn xi,.slice ha' m.hn hc',.slice ga' m.gn gc',ZI m.fi,ZI 0,ZN,ZN,ZN] by rw[<- hW5]; exact Tq.set (i:=3) (v:=ZI m.fi) av);have V5:=hid (show Wr W5 R g5 cap5 (bs++(aw m.tn++m.types.flatMap bP)++(aw m.hn++m.hosts.flatMap (fun x=>aw x))++(aw m.gn++m.globals.flatMap dE)++aw m.fi) by rw[<- hW5]; exact Lo.set ae Tq.n3);have hlt5:(bs++(aw m.tn++m.types.flatMap bP)++(aw m.hn++m.hosts.flatMap (fun x=>aw x))++(aw m.gn++m.globals.flatMap dE)++aw m.fi).length<=6100:=lf
 have G5:=hid (show dC W5 kt m.tn m.types by
  have q:=G4.out.kept hs5.k (fun b off c hb'=>by have:=F4.out b off c hb'; have:=OF; simp; omega);rw[<- hW5]
  exact q.kept (aB _ _ _ _) (fun b off c hb'=>by have:=F4.out b off c hb'; omega))
 have F5:=hid (show ∀b off c,kt=some ⟨b,off,c⟩->w.heap.size+1+1+1<b/\b≠g5/\b<W5.heap.size from fun b off c hb'=>by
  have q:=F4.out b off c hb';have q1:=hs5.size;have q4:=(aB w5 (w.heap.size+1+1+1) 3 (ZI m.fi)).size;rw[hW5]at q4;exact⟨q.1,hs5.ne q.2.2 q.2.1,ae⟩)
 clear m0 m1 m2 m3 m4 m5 m6 m7 Lo hs5 c0;obtain⟨⟨m0,m1,m2,m3,m4,m5,m6,m7⟩,_⟩:=ax T5.out.mb;have c0:=T5.out.c0;have p0:=(ax T5.out.ob).1;obtain⟨p0,p1,p2,p3,p4,p5,p6,p7⟩:=p0;go_wp2_with fail;clear Tq o0 o1 o2 o3 o4 o5 o6 o7 f0 f1 f2 f3 f4 f5 f6 f7 O' N' L' yk J' I' xT H' P' hW5
 by_cases E5:e5 m=0
 rotate_left
 ·have hcw:fK m=e5 m:=by unfold fK; rw[aM E1]; rw[aM E2]; rw[aM E3]; rw[aM E4]; exact eo E5
  have hbad:m.mo<m.fi\/64<m.mo:=by
   apply Classical.byContradiction;intro hq;exact E5 (by unfold e5 jK; exact if_neg hq)
  have h17:e5 m=17:=by unfold e5 jK; exact if_pos hbad
  refine(rH R g5 cap5 _ m.mo m.fi W5 V5.out HM.out.o0 HM.out.o1 hbad ae ae).mono ?_;rintro e w' ⟨⟨q,rfl⟩,hk'⟩;refine⟨rfl,fun h0=>absurd (hcw.symm.trans h0) E5,fun _=>⟨⟨q,?_⟩,T5.out.s.throw hk'⟩⟩;rw[hcw,h17];rfl
 have R5:m.fi<=m.mo/\m.mo<=64:=by
  have hq:=E5;unfold e5 jK at hq
  split at hq
  ·cases hq
  omega
 have u5:=ay (m.mo);refine(qi R g5 cap5 _ m.mo m.fi W5 V5.out ae ae R5.1 R5.2).mono ?_;rintro e w6⟨rfl,g6,cap6,hw6,vu⟩;have Tq:=T5.out.step OF vu;obtain⟨⟨o0,o1,o2,o3,o4,o5,o6,o7⟩,⟨f0,f1,f2,f3,f4,f5,f6,f7⟩⟩:=ax Tq.ob;obtain⟨⟨O',N',L',yk,J',I',xT,H'⟩,_⟩:=ax Tq.mb;have P':=Tq.z;obtain⟨W6,hW6⟩:∃W',w6.setCell (ZA (w.heap.size+1+1+1) 4) (ZI m.mo)=W':=⟨_,rfl⟩;have T6:=hid (show Sta w W6 R g g6 (mV m) #[.slice kt m.tn xi,.slice ha' m.hn hc',.slice ga' m.gn gc',ZI m.fi,ZI m.mo,ZN,ZN,ZN] by rw[<- hW6]; exact Tq.set (i:=4) (v:=ZI m.mo) av);have V6:=hid (show Wr W6 R g6 cap6 (bs++(aw m.tn++m.types.flatMap bP)++(aw m.hn++m.hosts.flatMap (fun x=>aw x))++(aw m.gn++m.globals.flatMap dE)++aw m.fi++aw m.mo) by rw[<- hW6]; exact hw6.set ae Tq.n3);have hlt6:(bs++(aw m.tn++m.types.flatMap bP)++(aw m.hn++m.hosts.flatMap (fun x=>aw x))++(aw m.gn++m.globals.flatMap dE)++aw m.fi++aw m.mo).length<=6200:=lf
 have G6:=hid (show dC W6 kt m.tn m.types by
  have q:=G5.out.kept vu.k (fun b off c hb'=>by have:=F5.out b off c hb'; have:=OF; simp; omega);rw[<- hW6]
  exact q.kept (aB _ _ _ _) (fun b off c hb'=>by have:=F5.out b off c hb'; omega))
 have F6:=hid (show ∀b off c,kt=some ⟨b,off,c⟩->w.heap.size+1+1+1<b/\b≠g6/\b<W6.heap.size from fun b off c hb'=>by
  have q:=F5.out b off c hb';have q1:=vu.size;have q4:=(aB w6 (w.heap.size+1+1+1) 4 (ZI m.mo)).size;rw[hW6]at q4;exact⟨q.1,vu.ne q.2.2 q.2.1,ae⟩)
 obtain⟨WL,hWL⟩:∃WL,W6.alloc (bR 16384)=WL:=⟨_,rfl⟩
 have BL:Zx W6 WL:=by rw[<- hWL]; exact aj _ _
 have zL:WL.heap.size=W6.heap.size+1:=by rw[<- hWL]; simp
 have TL:=hid (T6.out.step OF (Stp.of_below BL));have VL:=hid (V6.out.later BL);have GL:=hid (G6.out.later BL);have LL:=hid (show LAt WL W6.heap.size 16384 by rw[<- hWL]; exact⟨ij _ _ _,dB⟩);have z6:=T6.out.z;clear m0 m1 m2 m3 m4 m5 m6 m7 hw6 vu c0;obtain⟨⟨m0,m1,m2,m3,m4,m5,m6,m7⟩,_⟩:=ax TL.out.mb;have c0:=TL.out.c0;have p0:=(ax TL.out.ob).1;obtain⟨p0,p1,p2,p3,p4,p5,p6,p7⟩:=p0;go_wp2_with fail;clear Tq o0 o1 o2 o3 o4 o5 o6 o7 f0 f1 f2 f3 f4 f5 f6 f7 O' N' L' yk J' I' xT H' P' hW6 hWL BL;have hgg:g6≠0:=Ne.symm (TL.out.s.ne ae (Ne.symm hg0));have qe:=hid (HK.out.kept TL.out.s.k aA)
 have hokL:Hid (∀(j:Nat)x,m.fns[j]? =some x->LM WL R g6 W6.heap.size x):=fun j x hj=>by
  obtain⟨⟨r0,r1⟩,hmem,v9,hins⟩:=HM.out.fr j x hj;have hz:=TL.out.s.size;refine⟨r0,r1,hmem.kept TL.out.s.k v9.not,fun b off c hb'=>?_,fun b off c hb'=>?_,fun i y hi=>?_,fun i y hi b off c hb'=>?_⟩
  ·have q:=v9 b off c hb';have q2:=v9.at TL.out.s b off c hb';exact⟨q2.1,q2.2,ae⟩
  ·have q:=v9 b off c hb';omega
  ·obtain⟨y0,y1,ysg,yfar⟩:=hins i y hi;exact⟨y0,y1,ysg.kept' TL.out.s.k yfar.not,yfar.at TL.out.s⟩
  obtain⟨y0,y1,ysg,yfar⟩:=hins i y hi;have q:=yfar b off c hb';omega
 by_cases E6:e6 m=0
 rotate_left
 ·have hcw:fK m=e6 m:=by unfold fK; rw[aM E1]; rw[aM E2]; rw[aM E3]; rw[aM E4]; rw[aM E5]; exact eo E6
  by_cases hfn:m.fn<=1000
  ·refine(Vt R g6 cap6 _ m.fn w.heap.size (w.heap.size+1+1+1) W6.heap.size kt m.tn xi m.types WL m.fns VL.out ae hfn my hgg qe.out ae c0 ae TL.out.n0 ae p0 ae TL.out.n3 ae ae GL.out (fun b off c hb'=>FV) (fun b off c hb'=>by have q:=F6.out b off c hb'; omega) pm.out ae H8 hokL.out HM.out.pf.1 m.fa m.fc LL.out (HM.out.pf.kept TL.out.s.k HM.out.ff.not) (fun b off c hb'=>Fy) E6).mono ?_
   rintro e w' ⟨⟨q,rfl⟩,hk'⟩;refine⟨rfl,fun h0=>absurd (hcw.symm.trans h0) E6,fun _=>⟨⟨q,?_⟩,TL.out.s.throwL hk' ae⟩⟩;rw[hcw];rfl
  have hmany:e6 m=20:=by
   unfold e6 bG;have:=HM.out.pf.1;exact if_pos ae
  refine(pJ R g6 cap6 _ m.fa m.fn m.fc 128 _ WL VL.out ae).mono ?_;rintro e w' ⟨⟨q,rfl⟩,hk'⟩;refine⟨rfl,fun h0=>absurd (hcw.symm.trans h0) E6,fun _=>⟨⟨q,?_⟩,TL.out.s.throw hk'⟩⟩;rw[hcw,hmany];rfl
 have L6:=eP (enc:=cT) (M:=400000) E6 (fun ah x hx=>jE hx);have l6:=HM.out.pf.1;have u6:=ay (m.fn:Int);refine(QP R g6 cap6 _ m.fn w.heap.size (w.heap.size+1+1+1) W6.heap.size kt m.tn xi m.types WL m.fns VL.out ae ae my hgg qe.out ae c0 ae TL.out.n0 ae p0 ae TL.out.n3 ae ae GL.out (fun b off c hb'=>FV) (fun b off c hb'=>by have q:=F6.out b off c hb'; omega) pm.out ae H8 hokL.out HM.out.pf.1 m.fa m.fc LL.out (HM.out.pf.kept TL.out.s.k HM.out.ff.not) (fun b off c hb'=>Fy) E6).mono ?_;rintro e w7⟨fa',fc',rfl,g7,qS,hw7,hs7⟩;have Tq:=TL.out.stepL OF hs7 ae;obtain⟨⟨o0,o1,o2,o3,o4,o5,o6,o7⟩,⟨f0,f1,f2,f3,f4,f5,f6,f7⟩⟩:=ax Tq.ob;obtain⟨⟨O',N',L',yk,J',I',xT,H'⟩,_⟩:=ax Tq.mb;have P':=Tq.z;obtain⟨W7,hW7⟩:∃W',w7.setCell (ZA (w.heap.size+1+1+1) 5) (.slice fa' m.fn fc')=W':=⟨_,rfl⟩;have T7:=hid (show Sta w W7 R g g7 (mV m) #[.slice kt m.tn xi,.slice ha' m.hn hc',.slice ga' m.gn gc',ZI m.fi,ZI m.mo,.slice fa' m.fn fc',ZN,ZN] by rw[<- hW7]; exact Tq.set (i:=5) (v:=.slice fa' m.fn fc') av);have V7:=hid (show Wr W7 R g7 qS (bs++(aw m.tn++m.types.flatMap bP)++(aw m.hn++m.hosts.flatMap (fun x=>aw x))++(aw m.gn++m.globals.flatMap dE)++aw m.fi++aw m.mo++(aw m.fn++m.fns.flatMap cT)) by rw[<- hW7]; exact hw7.set ae Tq.n3);have hlt7:(bs++(aw m.tn++m.types.flatMap bP)++(aw m.hn++m.hosts.flatMap (fun x=>aw x))++(aw m.gn++m.globals.flatMap dE)++aw m.fi++aw m.mo++(aw m.fn++m.fns.flatMap cT)).length<=60000000:=lf;clear m0 m1 m2 m3 m4 m5 m6 m7 hw7 hs7 c0;obtain⟨⟨m0,m1,m2,m3,m4,m5,m6,m7⟩,_⟩:=ax T7.out.mb;have c0:=T7.out.c0;have p0:=(ax T7.out.ob).1;obtain⟨p0,p1,p2,p3,p4,p5,p6,p7⟩:=p0;go_wp2_with fail;clear Tq o0 o1 o2 o3 o4 o5 o6 o7 f0 f1 f2 f3 f4 f5 f6 f7 O' N' L' yk J' I' xT H' P' hW7
 have hrD:Hid (∀(j:Nat)x,m.data[j]? =some x->QX W7 R g7 x):=fun j x hj=>by
  obtain⟨⟨r0,r1⟩,X1,v9⟩:=HM.out.dr j x hj;have hz:=T7.out.s.size;exact⟨r0,r1,X1.kept' T7.out.s.k v9.not,v9.at T7.out.s,fun b off c hb'=>by have q:=v9 b off c hb'; omega⟩
 by_cases E7:e7 m=0
 rotate_left
 ·have hcw:fK m=e7 m:=by unfold fK; rw[aM E1]; rw[aM E2]; rw[aM E3]; rw[aM E4]; rw[aM E5]; rw[aM E6]; exact eo E7
  refine(SH R g7 qS _ m.da m.dn m.dc w.heap.size W7 (w.heap.size+1+1+1) m.fi m.data V7.out ae c0 ae T7.out.n0 p3 ae T7.out.n3 R4.1 R4.2 hrD.out (HM.out.pd.kept T7.out.s.k HM.out.df.not) (HM.out.df.at T7.out.s) E7).mono ?_;rintro e w' ⟨⟨q,rfl⟩,hk'⟩;refine⟨rfl,fun h0=>absurd (hcw.symm.trans h0) E7,fun _=>⟨⟨q,?_⟩,T7.out.s.throw hk'⟩⟩;rw[hcw];rfl
 have L7:=eP (enc:=dz) (M:=300000) E7 (fun ah x hx=>jG ae hx);have l7:=HM.out.pd.1;have u7:=ay (m.dn:Int);refine(Mh R g7 qS _ m.da m.dn m.dc w.heap.size W7 (w.heap.size+1+1+1) m.fi m.data V7.out ae c0 ae T7.out.n0 p3 ae T7.out.n3 R4.1 R4.2 hrD.out (HM.out.pd.kept T7.out.s.k HM.out.df.not) (HM.out.df.at T7.out.s) E7).mono ?_;rintro e w8⟨da',dc',ys8,rfl,_,_,g8,cap8,hw8,hs8⟩;have Tq:=T7.out.step OF hs8;obtain⟨⟨o0,o1,o2,o3,o4,o5,o6,o7⟩,⟨f0,f1,f2,f3,f4,f5,f6,f7⟩⟩:=ax Tq.ob;obtain⟨⟨O',N',L',yk,J',I',xT,H'⟩,_⟩:=ax Tq.mb;have P':=Tq.z;obtain⟨W8,hW8⟩:∃W',w8.setCell (ZA (w.heap.size+1+1+1) 6) (.slice da' m.dn dc')=W':=⟨_,rfl⟩;have T8:=hid (show Sta w W8 R g g8 (mV m) #[.slice kt m.tn xi,.slice ha' m.hn hc',.slice ga' m.gn gc',ZI m.fi,ZI m.mo,.slice fa' m.fn fc',.slice da' m.dn dc',ZN] by rw[<- hW8]; exact Tq.set (i:=6) (v:=.slice da' m.dn dc') av);have V8:=hid (show Wr W8 R g8 cap8 (bs++(aw m.tn++m.types.flatMap bP)++(aw m.hn++m.hosts.flatMap (fun x=>aw x))++(aw m.gn++m.globals.flatMap dE)++aw m.fi++aw m.mo++(aw m.fn++m.fns.flatMap cT)++(aw m.dn++m.data.flatMap dz)) by rw[<- hW8]; exact hw8.set ae Tq.n3);have hlt8:(bs++(aw m.tn++m.types.flatMap bP)++(aw m.hn++m.hosts.flatMap (fun x=>aw x))++(aw m.gn++m.globals.flatMap dE)++aw m.fi++aw m.mo++(aw m.fn++m.fns.flatMap cT)++(aw m.dn++m.data.flatMap dz)).length<=90000000:=lf;clear m0 m1 m2 m3 m4 m5 m6 m7 hw8 hs8 c0;obtain⟨⟨m0,m1,m2,m3,m4,m5,m6,m7⟩,_⟩:=ax T8.out.mb;have c0:=T8.out.c0;have p0:=(ax T8.out.ob).1;obtain⟨p0,p1,p2,p3,p4,p5,p6,p7⟩:=p0;go_wp2_with fail;clear Tq o0 o1 o2 o3 o4 o5 o6 o7 f0 f1 f2 f3 f4 f5 f6 f7 O' N' L' yk J' I' xT H' P' hW8
 by_cases E8:e8 m=0
 rotate_left
 ·have hcw:fK m=e8 m:=by unfold fK; rw[aM E1]; rw[aM E2]; rw[aM E3]; rw[aM E4]; rw[aM E5]; rw[aM E6]; rw[aM E7]; skip
  refine(CB R g8 cap8 _ m.ea m.en m.ec w.heap.size W8 (w.heap.size+1+1+1) fa' m.fn fc' m.exps V8.out ae c0 ae T8.out.n0 p5 ae T8.out.n3 ae HM.out.er (HM.out.pe.kept T8.out.s.k HM.out.ef.not) (HM.out.ef.at T8.out.s) E8).mono ?_;rintro e w' ⟨⟨q,rfl⟩,hk'⟩;refine⟨rfl,fun h0=>absurd (hcw.symm.trans h0) E8,fun _=>⟨⟨q,?_⟩,T8.out.s.throw hk'⟩⟩;rw[hcw];rfl
 refine(BJ R g8 cap8 _ m.ea m.en m.ec w.heap.size W8 (w.heap.size+1+1+1) fa' m.fn fc' m.exps V8.out ae c0 ae T8.out.n0 p5 ae T8.out.n3 ae HM.out.er (HM.out.pe.kept T8.out.s.k HM.out.ef.not) (HM.out.ef.at T8.out.s) E8).mono ?_;rintro e w9⟨ea',ec',ys9,rfl,_,_,g9,cap9,hw9,hs9⟩;have Tq:=T8.out.step OF hs9;obtain⟨⟨o0,o1,o2,o3,o4,o5,o6,o7⟩,⟨f0,f1,f2,f3,f4,f5,f6,f7⟩⟩:=ax Tq.ob;obtain⟨⟨O',N',L',yk,J',I',xT,H'⟩,_⟩:=ax Tq.mb;have P':=Tq.z;obtain⟨W9,hW9⟩:∃W',w9.setCell (ZA (w.heap.size+1+1+1) 7) (.slice ea' m.en ec')=W':=⟨_,rfl⟩;have T9:=hid (show Sta w W9 R g g9 (mV m) #[.slice kt m.tn xi,.slice ha' m.hn hc',.slice ga' m.gn gc',ZI m.fi,ZI m.mo,.slice fa' m.fn fc',.slice da' m.dn dc',.slice ea' m.en ec'] by rw[<- hW9]; exact Tq.set (i:=7) (v:=.slice ea' m.en ec') av);have V9:=hid (show Wr W9 R g9 cap9 (bs++(aw m.tn++m.types.flatMap bP)++(aw m.hn++m.hosts.flatMap (fun x=>aw x))++(aw m.gn++m.globals.flatMap dE)++aw m.fi++aw m.mo++(aw m.fn++m.fns.flatMap cT)++(aw m.dn++m.data.flatMap dz)++(aw m.en++m.exps.flatMap eJ)) by rw[<- hW9]; exact hw9.set ae Tq.n3);clear m0 m1 m2 m3 m4 m5 m6 m7 hw9 hs9 c0;obtain⟨p0,p1,p2,p3,p4,p5,p6,p7⟩:=(ax T9.out.ob).1;have rbb:=T9.out.rb;unfold zV at rbb;obtain⟨⟨r0,r1,r2,r3,r4,r5,r6,r7⟩,⟨s0,s1,s2,s3,s4,s5,s6,s7⟩⟩:=ax rbb;clear rbb;have z9:=T9.out.z;go_wp2_with fail
 have hcw:fK m=0:=by unfold fK; rw[aM E1]; rw[aM E2]; rw[aM E3]; rw[aM E4]; rw[aM E5]; rw[aM E6]; rw[aM E7]; exact E8
 refine i4 (v:=.agg #[.slice kt m.tn xi,.slice ha' m.hn hc',.slice ga' m.gn gc',ZI m.fi,ZI m.mo,.slice fa' m.fn fc',.slice da' m.dn dc',.slice ea' m.en ec']) ?_ rfl ⟨fun _=>⟨_,rfl,g9,cap9,?_,?_⟩,fun h0=>absurd hcw h0⟩
 ·exact iw
 ·have hcast:bs++qL m=bs++(aw m.tn++m.types.flatMap bP)++(aw m.hn++m.hosts.flatMap (fun x=>aw x))++(aw m.gn++m.globals.flatMap dE)++aw m.fi++aw m.mo++(aw m.fn++m.fns.flatMap cT)++(aw m.dn++m.data.flatMap dz)++(aw m.en++m.exps.flatMap eJ):=by simp[qL]
  rw[hcast];exact((((((((V9.out.set (b:=w.heap.size+1+1) ae T9.out.n2).set (b:=w.heap.size+1+1) ae T9.out.n2).set (b:=w.heap.size+1+1) ae T9.out.n2).set (b:=w.heap.size+1+1) ae T9.out.n2).set (b:=w.heap.size+1+1) ae T9.out.n2).set (b:=w.heap.size+1+1) ae T9.out.n2).set (b:=w.heap.size+1+1) ae T9.out.n2).set (b:=w.heap.size+1+1) ae T9.out.n2)
 exact((((((((T9.out.s.set ae).set ae).set ae).set ae).set ae).set ae).set ae).set ae).k
theorem xI(w:World):Zw 83 #[.nilIface] w (ZC (.tuple #[.agg #[ZI 0,ZI 0],.bool false]) w):=by
 have BN:=hid (aj w (uj 0 0));go_enter func83,ntmps83
 go_wp2_with fail;refine i4 (v:=.tuple #[.agg #[ZI 0,ZI 0],.bool false]) ?_ rfl ⟨rfl,BN.out⟩;exact kG
theorem MZ(x p:Int)(w:World):Zw 83 #[.iface 142 (.agg #[ZI x,ZI p])] w (ZC (.tuple #[.agg #[ZI x,ZI p],.bool true]) w):=by
 have Up:∀(v:Value)(w:World),(Instr.typeAssert (.iface 142 v) 20 142 true).run prog w=.ok (.tuple #[v,.bool true]) w:=fun _ _=>rfl;go_enter func83,ntmps83
 go_wp2_with fail;refine i4 (v:=.tuple #[.agg #[ZI x,ZI p],.bool true]) ?_ rfl ⟨rfl,?_⟩
 ·exact kG
 exact((ZT _ w).alloc lRn _).alloc av _
theorem EQ(x q:Int)(B C:Nat)(bv cv:Value)(w:World)(hb:w.cell? ⟨B,0,none⟩=some bv)(hbf:w.frozen? ⟨B,0,none⟩=false)(hc:w.cell? ⟨C,0,none⟩=some cv)(hcf:w.frozen? ⟨C,0,none⟩=false)(hBC:B≠C) :
  CallsD prog 87 #[.pointer (some ⟨B,0,none⟩),.pointer (some ⟨C,0,none⟩)] (.panicking ({ v:=.iface 142 (.agg #[.int .i64 x,.int .i64 q]),recovered:=false }::[])) w fun e u' w' =>
   e=.returned (.tuple #[])/\u'=.panicking ({ v:=.iface 142 (.agg #[.int .i64 x,.int .i64 q]),recovered:=true }::[])/\w'.cell? ⟨B,0,none⟩=some (.slice none 0 0)/\w'.cell? ⟨C,0,none⟩=some (.int .i64 x)/\Kept (fun k=>k=B\/k=C) w w':=by
 have HC:=hid (MZ x q w);have hBl:B<w.heap.size:=ZQ hb;have hCl:C<w.heap.size:=ZQ hc;refine callsD_of_wpS func87 rfl fun c₀ cs hu=>?_;apply wpS_seq;apply wpS_region;simp[wpOpsS,go_sem,recoverD,hu,ntmps87,Exit.thenS];refine HC.out.mono ?_;rintro e w1⟨rfl,hb1⟩;have BN:=aj w1 (uj x q);have n0:(w1.alloc (uj x q)).cell? ⟨w1.heap.size,0,none⟩=some (.int .i64 x):=dB;have y0:=(BN.cell (p:=⟨B,0,none⟩) (Z8 hBl hb1.size)).trans ((hb1.cell oq).trans hb);have y1:=(BN.frozen (p:=⟨B,0,none⟩) (Z8 hBl hb1.size)).trans ((hb1.frozen oq).trans hbf);have y2:=(BN.cell (p:=⟨C,0,none⟩) (Z8 hCl hb1.size)).trans ((hb1.cell oG).trans hc);have y3:=(BN.frozen (p:=⟨C,0,none⟩) (Z8 hCl hb1.size)).trans ((hb1.frozen oG).trans hcf);have K2:=hid ((bC (S:=fun k=>k=B\/k=C) hb1).trans (bC BN));have hz1:=hb1.size;have hB1:B≠w1.heap.size:=ae;have hC1:C≠w1.heap.size:=ae;simp[go_sem,Array.replicate];refine wpS_of_wp ?_;clear HC hb hbf hc hcf BN;go_wp2_with fail;generalize w1.alloc (uj x q)=W at *
 go_region_held3 (fun W=>W.cell? ⟨w1.heap.size,0,none⟩=some (.int .i64 x)) (first | assumption | (simp[go_sem]; assumption)) (first | fail)
 have z0:=World.cell?_setCell_same W ⟨B,0,none⟩ (.slice none 0 0) y0
 have z1:(W.setCell ⟨B,0,none⟩ (.slice none 0 0)).cell? ⟨C,0,none⟩=some cv:=by rw[World.cell?_setCell_other _ _ _ _ bI]; exact y2
 have z2:=World.cell?_setCell_same (W.setCell ⟨B,0,none⟩ (.slice none 0 0)) ⟨C,0,none⟩ (.int .i64 x) z1
 have z3:((W.setCell ⟨B,0,none⟩ (.slice none 0 0)).setCell ⟨C,0,none⟩ (.int .i64 x)).cell? ⟨B,0,none⟩=some (.slice none 0 0):=by rw[World.cell?_setCell_other _ _ _ _ bI]; exact z0
 have hk:=(K2.out.then (aB W B 0 (.slice none 0 0)) (fun k _ h=>.inl h)).then (aB _ C 0 (.int .i64 x)) (fun k _ h=>.inr h);have hk2:=hk.trans (Kept.drewN _ _ 1);obtain⟨HZ3,HZ2,HK2⟩:=ZH z3 z2 hk2;clear z0 z1 z2 z3 hk hk2 K2 y0 y1 y2 y3 n0 hb1;exact⟨rfl,_,rfl,_,results_none rfl _ _ _,rfl,rfl,HZ3.out,HZ2.out,HK2.out⟩
theorem Vu(B C:Nat)(w:World) :
  CallsD prog 87 #[ZP B 0,ZP C 0] .returning w fun e u' w'=>e=.returned (.tuple #[])/\u'=.returning/\Zx w w':=by
 have HC:=hid (xI w);refine callsD_of_wpS func87 rfl fun c₀ cs hu=>?_;apply wpS_seq;apply wpS_region;simp[wpOpsS,go_sem,recoverD,hu,ntmps87,Exit.thenS];refine HC.out.mono ?_;rintro e w1⟨rfl,hb1⟩;have BN:=hid (jJ hb1 (aj w1 (uj 0 0)));simp[go_sem,Array.replicate];refine wpS_of_wp ?_;go_wp2_with fail
 cases c₀
 simp_all [bodyPostS,results,results87];exact BN.out
end
end Go.Proofs.YtheefojaplnnoaaGreatDoor
