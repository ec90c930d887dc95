/-
  Texts Wl Lfl Wk.
-/
import Derived.Test.YtheefojaplnnoaaGreatDoorY00
import Derived.Test.YtheefojaplnnoaaGreatDoorY09
import Derived.Test.YtheefojaplnnoaaGreatDoorY10
import Derived.Test.YtheefojaplnnoaaGreatDoorY14
set_option linter.unusedVariables false
set_option maxRecDepth 100000
set_option maxHeartbeats 16000000
namespace Go.Proofs.YtheefojaplnnoaaGreatDoor
open Go.RowKit
structure fy(R L g g':Nat)(w w':World):Prop where
 k:Kept (fun k=>k=R∨k=g∨k=L) w w'
 m:g'=g∨w.heap.size≤g'
theorem Stp.toL{R L g g':Nat}{w w':World}(h:Stp R g g' w w'):fy R L g g' w w':=⟨h.k.mono (fun k hk=>ae),h.m⟩
theorem fy.trans{R L g g' g'':Nat}{w w1 w2:World}(h:fy R L g g' w w1)(h':fy R L g' g'' w1 w2):fy R L g g'' w w2:=by
 refine⟨h.k.then h'.k (fun k hk ht=>?_),?_⟩
 ·rcases ht with rfl | rfl | rfl
  ·exact .inl rfl
  ·rcases h.m with h | h
   ·exact .inr (.inl h)
   ·omega
  ·exact .inr (.inr rfl)
 ·exact xe
theorem fy.of_below{R L g:Nat}{w w':World}(h:Below w.heap.size w w'):fy R L g g w w':=(Stp.of_below h).toL
theorem fy.size{R L g g':Nat}{w w':World}(h:fy R L g g' w w'):w.heap.size≤w'.heap.size:=h.k.size
theorem fy.block{R L g g':Nat}{w w':World}(h:fy R L g g' w w'){b:Nat}(hb:b<w.heap.size)(h1:b≠R)(h2:b≠g)(h3:b≠L):w'.heap[b]? =w.heap[b]?:=h.k.block b hb (by simp[h1,h2,h3])
theorem fy.cell{R L g g':Nat}{w w':World}(h:fy R L g g' w w'){b o:Nat}{v:Value}(hc:w.cell? ⟨b,o,none⟩=some v)(h1:b≠R)(h2:b≠g)(h3:b≠L):w'.cell? ⟨b,o,none⟩=some v:=h.k.cell hc (by simp[h1,h2,h3])
theorem fy.ne{R L g g' b:Nat}{w w':World}(h:fy R L g g' w w')(hb:b<w.heap.size)(hn:b≠g):b≠g':=by
 rcases h.m with rfl | h
 ·exact hn
 ·omega
theorem fy.throw{R L g g1:Nat}{w W w5:World}(h:fy R L g g1 w W)(hk:Kept (fun k=>k=R∨k=g1) W w5):Kept (fun k=>k=R∨k=g∨k=L) w w5:=by
 refine h.k.then hk (fun k hkl hh=>?_)
 rcases hh with rfl | rfl
 ·exact .inl rfl
 ·rcases h.m with h | h
  ·exact .inr (.inl h)
  ·omega
section
variable (R g cap:Nat) (bs:List Int) (ty:Int) (lo:ByteArray) (ca:Option Addr) (cn cc:Nat) (aa:Option Addr) (an ac:Nat) (A O L:Nat) (ta:Option Addr) (tn tc:Nat) (left:Int) (w:World)
theorem FH(h:Wr w R g cap bs)(hA:w.cell? ⟨A,0,none⟩=some (cW R))(hO:w.cell? ⟨O,0,none⟩=some (.slice ta tn tc))(hL:w.cell? ⟨L,0,none⟩=some (.int .i64 left))(er:Int)
  (hcall:∀W,Below w.heap.size w W→Calls Tryz.prog 143 #[cW R,.agg #[.int .i64 ty,.string lo,.slice ca cn cc],.slice ta tn tc,.int .i64 left] W (aT R g er W)) :
  Calls Tryz.prog 142 #[.agg #[.int .i64 ty,.string lo,.slice ca cn cc],.slice aa an ac,.pointer (some ⟨A,0,none⟩),.pointer (some ⟨O,0,none⟩),.pointer (some ⟨L,0,none⟩)] w (aT R g er w):=by
 obtain⟨B0,z0,x0,x1⟩:=dL w (aR ty lo ca cn cc) (aR 0 ⟨#[]⟩ none 0 0);have hRl:=h.lt;have hgl:=h.g_lt;have hA1:=(B0.cell eH).trans hA;have hO1:=(B0.cell (p:=⟨O,0,none⟩) j6).trans hO
 have hL1:=(B0.cell (p:=⟨L,0,none⟩) (by exact block_lt_of_cell hL)).trans hL
 have HC:=hid (hcall _ B0);obtain⟨W1,hW1⟩:∃W1,(w.alloc (aR ty lo ca cn cc)).alloc (aR 0 ⟨#[]⟩ none 0 0)=W1:=⟨_,rfl⟩;rw[hW1]at B0 z0 x0 x1 hA1 HC hO1 hL1;have BW:=hid B0;obtain⟨a0,a1,a2,_,_,_⟩:=aB x0;clear h B0 hA hcall hO hL
 go_enter Tryz.func142,Tryz.ntmps142
 exact om
theorem zG(h:Wr w R g cap bs)(hA:w.cell? ⟨A,0,none⟩=some (cW R))(hO:w.cell? ⟨O,0,none⟩=some (.slice ta tn tc))(hL:w.cell? ⟨L,0,none⟩=some (.int .i64 left))(hLf:w.frozen? ⟨L,0,none⟩=false)(hLR:L≠R)(hLg:L≠g)(hl0:(cn:Int)≤left)(hl1:left≤100000)(new:List Int)
  (hcall:∀W,Below w.heap.size w W→Calls Tryz.prog 143 #[cW R,.agg #[.int .i64 ty,.string lo,.slice ca cn cc],.slice ta tn tc,.int .i64 left] W (fun e w'=>∃(fa:Option Addr)(fc:Nat),e=.returned (.agg #[.int .i64 ty,.string lo,.slice fa cn fc])∧∃g' cap',Wr w' R g' cap' new∧Stp R g g' W w')) :
  Calls Tryz.prog 142 #[.agg #[.int .i64 ty,.string lo,.slice ca cn cc],.slice aa an ac,.pointer (some ⟨A,0,none⟩),.pointer (some ⟨O,0,none⟩),.pointer (some ⟨L,0,none⟩)] w
   (fun e w'=>∃(fa:Option Addr)(fc:Nat),e=.returned (.agg #[.int .i64 ty,.string lo,.slice fa cn fc])∧w'.cell? ⟨L,0,none⟩=some (.int .i64 (left-cn))∧w'.frozen? ⟨L,0,none⟩=false∧∃g' cap',Wr w' R g' cap' new∧Kept (fun k=>k=R∨k=g∨k=L) w w'∧(g'=g∨w.heap.size≤g')):=by
 obtain⟨B0,z0,x0,x1⟩:=dL w (aR ty lo ca cn cc) (aR 0 ⟨#[]⟩ none 0 0);have hRl:=h.lt;have hgl:=h.g_lt;have hLl:=block_lt_of_cell hL;have hA1:=(B0.cell eH).trans hA;have hO1:=(B0.cell (p:=⟨O,0,none⟩) j6).trans hO
 have hL1:=(B0.cell (p:=⟨L,0,none⟩) (by exact hLl)).trans hL
 have hLf1:=(B0.frozen (p:=⟨L,0,none⟩) (by exact hLl)).trans hLf
 have HC:=hid (hcall _ B0);obtain⟨W1,hW1⟩:∃W1,(w.alloc (aR ty lo ca cn cc)).alloc (aR 0 ⟨#[]⟩ none 0 0)=W1:=⟨_,rfl⟩;rw[hW1]at B0 z0 x0 x1 hA1 HC hO1 hL1 hLf1;have BW:=hid B0;obtain⟨a0,a1,a2,_,_,_⟩:=aB x0;have hsub:wrap64 (left-(cn:Int))=left-cn:=dv;clear h B0 hA hcall hO hL hLf
 go_enter Tryz.func142,Tryz.ntmps142
 go_wp2_with fail;refine HC.out.mono ?_;rintro e w5⟨fa,fc,rfl,g',cap',hw5,hs5⟩;have q1:=(hs5.block (b:=w.heap.size+1) ae ae ae).trans x1;have n1:w.heap.size+1≠g':=hs5.ne ae ae;have nL:L≠g':=hs5.ne ae hLg;have l1:=hs5.cell (b:=L) hL1 hLR hLg;have l2:=(aC (hs5.block (b:=L) ae hLR hLg) 0).trans hLf1;have z5:=hs5.size;have W5:=hid hw5;have S5:=hid ((Stp.of_below BW.out).trans hs5);have BN:=hid (ag w5 (aR ty lo fa cn fc));have q2:=(BN.out.block (w.heap.size+1) ae).trans q1;have l3:=(BN.out.cell (p:=⟨L,0,none⟩) wQ).trans l1;have l4:=(BN.out.frozen (p:=⟨L,0,none⟩) wQ).trans l2;have nb:=(MapKept.heap_alloc w5 (aR ty lo fa cn fc)).1;obtain⟨k0,k1,k2,k3,k4,k5⟩:=aB q2;obtain⟨j0,j1,j2,_,_,_⟩:=aB nb;clear hw5 hs5 x0 x1 q1 HC hL1 hLf1 l1 l2;have hz6:(w5.alloc (aR ty lo fa cn fc)).heap.size=w5.heap.size+1:=ar;go_wp2_with fail;refine bodyPost_ret (v:=.agg #[.int .i64 ty,.string lo,.slice fa cn fc]) ?_ rfl ⟨fa,fc,rfl,?_,?_,g',cap',?_,?_,S5.out.m⟩
 ·exact cu
 ·rw[World.cell?_setCell_other _ _ _ _ ar,World.cell?_setCell_other _ _ _ _ ar,World.cell?_setCell_other _ _ _ _ ar];exact World.cell?_setCell_same _ _ _ l3
 ·simp only[World.frozen?_setCell]
  exact l4
 ·exact((((W5.out.later BN.out).set (b:=L) hLR nL).set (b:=w.heap.size+1) ae n1).set (b:=w.heap.size+1) ae n1).set (b:=w.heap.size+1) ae n1
 ·have hk:=(S5.out.k.mono (T:=fun k=>k=R∨k=g∨k=L) (fun k hk=>ae)).trans (aN BN.out)
  have hk2:=hk.then (aw _ L 0 (.int .i64 (left-cn))) (fun k _ h=>ae)
  exact Gu
end
structure LAt(w:World)(L:Nat)(v:Int):Prop where
 c:w.cell? ⟨L,0,none⟩=some (.int .i64 v)
 f:w.frozen? ⟨L,0,none⟩=false
theorem LAt.lt{w:World}{L:Nat}{v:Int}(h:LAt w L v):L<w.heap.size:=block_lt_of_cell h.c
theorem LAt.kept{S:Nat→Prop}{w w':World}{L:Nat}{v:Int}(h:LAt w L v)(hk:Kept S w w')(hs:¬S L):LAt w' L v:=⟨hk.cell h.c hs,(aC (hk.block L h.lt hs) 0).trans h.f⟩
theorem LAt.later{w w':World}{L:Nat}{v:Int}(h:LAt w L v)(hb:Below w.heap.size w w'):LAt w' L v:=h.kept (S:=fun _=>False) (aN hb) id
abbrev Bw(R L g:Nat)(x:Int)(w:World):Ending→World→Prop:=fun e w'=>(∃p,e=thr x p)∧Kept (fun k=>k=R∨k=g∨k=L) w w'
def zP(R g L:Nat)(lv:Nat→Int)(w:World)(K:Nat)(cs:Array Value)(bs:List Int)(n:Nat)(xs:List (Int×ByteArray×(Option Addr×Nat×Nat)×List (Int×Int×(Option Addr×Nat×Nat)×List Int)))(enc:(Int×ByteArray×(Option Addr×Nat×Nat)×List (Int×Int×(Option Addr×Nat×Nat)×List Int))→List Int)(Ok:(Int×ByteArray×(Option Addr×Nat×Nat)×List (Int×Int×(Option Addr×Nat×Nat)×List Int))→(Int×ByteArray×(Option Addr×Nat×Nat))→Prop)(j:Nat)(x:(Int×ByteArray×(Option Addr×Nat×Nat)×List (Int×Int×(Option Addr×Nat×Nat)×List Int))):Prop :=
 ∀(ys:List (Int×ByteArray×(Option Addr×Nat×Nat))) (W:World) (g1 cap1:Nat) (aa:Option Addr) (ac:Nat),ys.length=j→(∀(i:Nat)y,ys[i]? =some y→∃x',xs[i]? =some x'∧Ok x' y)→fy R L g g1 w W→LAt W L (lv j)→L≠g1→Wr W R g1 cap1 (bs++ax n++(xs.take j).flatMap enc) →
  W.ownsRow 0 78 3 (.slice aa j ac) j (ys.flatMap iA)→(∀b,aa=some b→w.heap.size≤b.block∧b.block≠g1) →
  Calls Tryz.prog K (#[Rm x,.slice aa j ac]++cs) W (fun e w'=>∃y,e=.returned (SU y)∧Ok x y∧∃g' cap',Wr w' R g' cap' (bs++ax n++(xs.take j).flatMap enc++enc x)∧fy R L g1 g' W w'∧LAt w' L (lv (j+1)))
def Hh(R g L:Nat)(lv:Nat→Int)(w:World)(K:Nat)(cs:Array Value)(bs:List Int)(n:Nat)(xs:List (Int×ByteArray×(Option Addr×Nat×Nat)×List (Int×Int×(Option Addr×Nat×Nat)×List Int)))(enc:(Int×ByteArray×(Option Addr×Nat×Nat)×List (Int×Int×(Option Addr×Nat×Nat)×List Int))→List Int)(Ok:(Int×ByteArray×(Option Addr×Nat×Nat)×List (Int×Int×(Option Addr×Nat×Nat)×List Int))→(Int×ByteArray×(Option Addr×Nat×Nat))→Prop)(j:Nat)(x:(Int×ByteArray×(Option Addr×Nat×Nat)×List (Int×Int×(Option Addr×Nat×Nat)×List Int)))(er:Int):Prop :=
 ∀(ys:List (Int×ByteArray×(Option Addr×Nat×Nat))) (W:World) (g1 cap1:Nat) (aa:Option Addr) (ac:Nat),ys.length=j→(∀(i:Nat)y,ys[i]? =some y→∃x',xs[i]? =some x'∧Ok x' y)→fy R L g g1 w W→LAt W L (lv j)→L≠g1→Wr W R g1 cap1 (bs++ax n++(xs.take j).flatMap enc) →
  W.ownsRow 0 78 3 (.slice aa j ac) j (ys.flatMap iA)→(∀b,aa=some b→w.heap.size≤b.block∧b.block≠g1) →
  Calls Tryz.prog K (#[Rm x,.slice aa j ac]++cs) W (aT R g1 er W)
theorem uL(R g cap:Nat)(bs:List Int)(ha:Option Addr)(n hc:Nat)(most:Int)(K:Nat)(cs:Array Value)(w:World)(xs:List (Int×ByteArray×(Option Addr×Nat×Nat)×List (Int×Int×(Option Addr×Nat×Nat)×List Int)))(enc:(Int×ByteArray×(Option Addr×Nat×Nat)×List (Int×Int×(Option Addr×Nat×Nat)×List Int))→List Int)(Ok:(Int×ByteArray×(Option Addr×Nat×Nat)×List (Int×Int×(Option Addr×Nat×Nat)×List Int))→(Int×ByteArray×(Option Addr×Nat×Nat))→Prop)(M:Nat)
  (L:Nat) (lv:Nat→Int) (hL:LAt w L (lv 0)) (hLR:L≠R) (hLg:L≠g) (h:Wr w R g cap bs) (hn:n≤100000) (hm:(n:Int)≤most) (hmem:oq w ha n xs) (hne:∀b off c,ha=some ⟨b,off,c⟩→b≠R∧b≠g∧b≠L)
  (hK:∀args w,(callFunc K args).run Tryz.prog w=.ok (.enter K args) w) (hlen:∀(j:Nat)x,xs[j]? =some x→(enc x).length≤M) (hM:M≤1000000) (hb:bs.length+200000000000≤1099511627776)
  (heach:∀(j:Nat)x,xs[j]? =some x→zP R g L lv w K cs bs n xs enc Ok j x) :
  Calls Tryz.prog 141 #[cW R,.slice ha n hc,.int .i64 most,.func (.func K) #[] cs] w fun e w'=>∃(aa:Option Addr)(ac:Nat)(ys:List (Int×ByteArray×(Option Addr×Nat×Nat))),e=.returned (.slice aa n ac)∧ys.length=n∧(∀(i:Nat)y,ys[i]? =some y→∃x,xs[i]? =some x∧Ok x y) ∧
   w'.ownsRow 0 78 3 (.slice aa n ac) n (ys.flatMap iA)∧∃g' cap',(∀b,aa=some b→w.heap.size≤b.block∧b.block≠g')∧Wr w' R g' cap' (bs++ax n++xs.flatMap enc)∧fy R L g g' w w'∧LAt w' L (lv n)∧L≠g':=by
 have hmc:=bz;have hcc:=cf;have HC:=hid (bN R g cap bs n most w h hm ae ae);have hRl:=h.lt;have hLl:=hL.lt;have hgl:=h.g_lt;have hxl:=hmem.1;have HM:=hid hmem;have HNE:=hid hne;have HE:=hid heach;obtain⟨i0,hi,hz0,hz1,hz2⟩:=IV;clear h hmem heach hne
 go_enter Tryz.func141,Tryz.ntmps141
 go_wp2_with fail;refine HC.out.mono ?_;rintro e w2⟨rfl,g1,cap1,hw2,hs2⟩;have L2:=hid (hL.kept hs2.k aI);have NL2:L≠g1:=hs2.ne hLl hLg;have W2:=hid hw2;have S2:=hid hs2;clear hw2 hs2 HC hmc hcc;go_wp2_with fail
 go_loopw [9,17] (fun o i wr=>∃(j:Nat)(ys:List (Int×ByteArray×(Option Addr×Nat×Nat))) (aa:Option Addr) (ac g1 cap1:Nat),j≤n∧i=.int .i64 j∧o=.slice aa j ac∧ys.length=j∧(∀(i:Nat)y,ys[i]? =some y→∃x,xs[i]? =some x∧Ok x y) ∧
   wr.ownsRow 0 78 3 (.slice aa j ac) j (ys.flatMap iA)∧(∀b,aa=some b→w.heap.size≤b.block∧b.block≠g1)∧Wr wr R g1 cap1 (bs++ax n++(xs.take j).flatMap enc)∧fy R L g g1 w wr∧LAt wr L (lv j)∧L≠g1) (fun _ i _=>n-(intOf i).toNat)
 case atStart=>exact⟨0,[],none,0,g1,cap1,ae,rfl,rfl,rfl,(fun i y h=>fX),World.ownsRow_nil _ _ _ _,(fun b h=>cj),gw,S2.out.toL,L2.out,NL2⟩
 case round =>
  obtain⟨j,ys,aa,ac,g3,cap3,hj,rfl,rfl,hyl,hys,hrow,hab,hwr,hst,hla,hlg⟩:=hrel;have HLA:=hid hla;clear hla L2 NL2;have HY:=hid hys;have HRW:=hid hrow;have HAB:=hid hab;have HWR:=hid hwr;have HST:=hid hst;clear hys hrow hab hwr hst W2 S2
  by_cases hlt:j<n
  ·obtain⟨x,hx⟩:∃x,xs[j]? =some x:=⟨_,aO ae⟩
   obtain⟨b,off,rfl,hcell⟩:∃b off,ha=some ⟨b,off,none⟩∧∀(j:Nat)x,xs[j]? =some x→wr.cell? ⟨b,off+j*3,none⟩=some (.int .i64 x.1)∧wr.cell? ⟨b,off+j*3+1,none⟩=some (.string x.2.1)∧wr.cell? ⟨b,off+j*3+2,none⟩=some (.slice x.2.2.1.1 x.2.2.1.2.1 x.2.2.1.2.2):=by
    exact Cl
   have hcj:=hcell j x hx;have hbl:=block_lt_of_cell hcj.1;clear hcell;obtain⟨v0,v1,v2⟩:=hcj;have BN:=hid (ag wr (aR x.1 x.2.1 x.2.2.1.1 x.2.2.1.2.1 x.2.2.1.2.2))
   have HC1:=hid (HE.out j x hx ys (wr.alloc (aR x.1 x.2.1 x.2.2.1.1 x.2.2.1.2.1 x.2.2.1.2.2)) g3 cap3 aa ac hyl HY.out (HST.out.trans (fy.of_below BN.out)) (HLA.out.later BN.out) hlg (HWR.out.later BN.out) (aA HRW.out (fun B hB=>BN.out.block B (ay HRW.out hB))) HAB.out)
   exact Oz
  ·obtain rfl:j=n:=ae;have hxs:xs.take j=xs:=List.take_of_length_le ae;go_wp2_with fail;go_ret;refine⟨aa,ac,ys,rfl,hyl,HY.out,HRW.out,g3,cap3,HAB.out,?_,HST.out,HLA.out,hlg⟩;rw[← hxs];exact HWR.out
theorem xE(R g cap:Nat)(bs:List Int)(ha:Option Addr)(n hc:Nat)(most:Int)(K:Nat)(cs:Array Value)(w:World)(xs:List (Int×ByteArray×(Option Addr×Nat×Nat)×List (Int×Int×(Option Addr×Nat×Nat)×List Int)))(enc:(Int×ByteArray×(Option Addr×Nat×Nat)×List (Int×Int×(Option Addr×Nat×Nat)×List Int))→List Int)(Ok:(Int×ByteArray×(Option Addr×Nat×Nat)×List (Int×Int×(Option Addr×Nat×Nat)×List Int))→(Int×ByteArray×(Option Addr×Nat×Nat))→Prop)(M:Nat)
  (L:Nat) (lv:Nat→Int) (hL:LAt w L (lv 0)) (hLR:L≠R) (hLg:L≠g) (h:Wr w R g cap bs) (hn:n≤100000) (hm:(n:Int)≤most) (hmem:oq w ha n xs) (hne:∀b off c,ha=some ⟨b,off,c⟩→b≠R∧b≠g∧b≠L)
  (hK:∀args w,(callFunc K args).run Tryz.prog w=.ok (.enter K args) w) (hlen:∀(j:Nat)x,xs[j]? =some x→(enc x).length≤M) (hM:M≤1000000) (hb:bs.length+200000000000≤1099511627776)
  (k:Nat) (xk:(Int×ByteArray×(Option Addr×Nat×Nat)×List (Int×Int×(Option Addr×Nat×Nat)×List Int))) (er:Int) (hk:xs[k]? =some xk) (heach:∀(j:Nat)x,xs[j]? =some x→j<k→zP R g L lv w K cs bs n xs enc Ok j x) (hno:Hh R g L lv w K cs bs n xs enc Ok k xk er) :
  Calls Tryz.prog 141 #[cW R,.slice ha n hc,.int .i64 most,.func (.func K) #[] cs] w (Bw R L g er w):=by
 have hkn:=aK hk;have hmc:=bz;have hcc:=cf;have HC:=hid (bN R g cap bs n most w h hm ae ae);have hRl:=h.lt;have hLl:=hL.lt;have hgl:=h.g_lt;have hxl:=hmem.1;have HM:=hid hmem;have HNE:=hid hne;have HE:=hid heach;have HN:=hid hno;obtain⟨i0,hi,hz0,hz1,hz2⟩:=IV;clear h hmem heach hne hno
 go_enter Tryz.func141,Tryz.ntmps141
 go_wp2_with fail;refine HC.out.mono ?_;rintro e w2⟨rfl,g1,cap1,hw2,hs2⟩;have L2:=hid (hL.kept hs2.k aI);have NL2:L≠g1:=hs2.ne hLl hLg;have W2:=hid hw2;have S2:=hid hs2;clear hw2 hs2 HC hmc hcc;go_wp2_with fail
 go_loopw [9,17] (fun o i wr=>∃(j:Nat)(ys:List (Int×ByteArray×(Option Addr×Nat×Nat))) (aa:Option Addr) (ac g1 cap1:Nat),j≤k∧i=.int .i64 j∧o=.slice aa j ac∧ys.length=j∧(∀(i:Nat)y,ys[i]? =some y→∃x,xs[i]? =some x∧Ok x y) ∧
   wr.ownsRow 0 78 3 (.slice aa j ac) j (ys.flatMap iA)∧(∀b,aa=some b→w.heap.size≤b.block∧b.block≠g1)∧Wr wr R g1 cap1 (bs++ax n++(xs.take j).flatMap enc)∧fy R L g g1 w wr∧LAt wr L (lv j)∧L≠g1) (fun _ i _=>n-(intOf i).toNat)
 case atStart=>exact⟨0,[],none,0,g1,cap1,ae,rfl,rfl,rfl,(fun i y h=>fX),World.ownsRow_nil _ _ _ _,(fun b h=>cj),gw,S2.out.toL,L2.out,NL2⟩
 case round =>
  obtain⟨j,ys,aa,ac,g3,cap3,hj,rfl,rfl,hyl,hys,hrow,hab,hwr,hst,hla,hlg⟩:=hrel;have HLA:=hid hla;clear hla L2 NL2;have HY:=hid hys;have HRW:=hid hrow;have HAB:=hid hab;have HWR:=hid hwr;have HST:=hid hst;clear hys hrow hab hwr hst W2 S2;have hlt:j<n:=ae
  ·obtain⟨x,hx⟩:∃x,xs[j]? =some x:=⟨_,aO ae⟩
   obtain⟨b,off,rfl,hcell⟩:∃b off,ha=some ⟨b,off,none⟩∧∀(j:Nat)x,xs[j]? =some x→wr.cell? ⟨b,off+j*3,none⟩=some (.int .i64 x.1)∧wr.cell? ⟨b,off+j*3+1,none⟩=some (.string x.2.1)∧wr.cell? ⟨b,off+j*3+2,none⟩=some (.slice x.2.2.1.1 x.2.2.1.2.1 x.2.2.1.2.2):=by
    exact Cl
   have hcj:=hcell j x hx;have hbl:=block_lt_of_cell hcj.1;clear hcell;obtain⟨v0,v1,v2⟩:=hcj;have BN:=hid (ag wr (aR x.1 x.2.1 x.2.2.1.1 x.2.2.1.2.1 x.2.2.1.2.2))
   by_cases hjk:j<k
   ·skip
    have HC1:=hid (HE.out j x hx hjk ys (wr.alloc (aR x.1 x.2.1 x.2.2.1.1 x.2.2.1.2.1 x.2.2.1.2.2)) g3 cap3 aa ac hyl HY.out (HST.out.trans (fy.of_below BN.out)) (HLA.out.later BN.out) hlg (HWR.out.later BN.out) (aA HRW.out (fun B hB=>BN.out.block B (ay HRW.out hB))) HAB.out)
    exact Oz
   ·obtain rfl:j=k:=ae;obtain rfl:x=xk:=wG
    have HC1:=hid (HN.out ys (wr.alloc (aR x.1 x.2.1 x.2.2.1.1 x.2.2.1.2.1 x.2.2.1.2.2)) g3 cap3 aa ac hyl HY.out (HST.out.trans (fy.of_below BN.out)) (HLA.out.later BN.out) hlg (HWR.out.later BN.out) (aA HRW.out (fun B hB=>BN.out.block B (ay HRW.out hB))) HAB.out)
    go_wp2_with fail;refine HC1.out.mono ?_;rintro e w5⟨⟨p,rfl⟩,hk5⟩;exact⟨rfl,⟨p,rfl⟩,(HST.out.trans (fy.of_below BN.out)).throw hk5⟩
abbrev FuM:=Int×ByteArray×SLv×List InM
def po(sg:List Sg)(ty:Int):ByteArray:=(sg.getD ty.toNat (⟨#[]⟩,⟨#[]⟩)).1
def fp(sg:List Sg)(left:Int)(ty:Int)(lo:ByteArray)(xs:List InM):Int :=
 if ty<0∨(sg.length:Int)≤ty then 30 else if 64<lo.size+(po sg ty).size then 13 else if bO lo 64=false then 15 else if min 2048 left<(xs.length:Int) then 20 else aU (fun _ x=>dV x) [] xs
def iI(ty:Int)(lo:ByteArray)(xs:List InM):List Int:=ax ty++ia lo++(ax xs.length++xs.flatMap fF)
theorem ud{sg:List Sg}{t:Nat}{p r:ByteArray}(h:sg[t]? =some (p,r)):po sg (t:Int)=p:=by
 simp[po,List.getD,h]
section
variable (R g cap:Nat) (bs:List Int) (ty left:Int) (lo:ByteArray) (ca:Option Addr) (cn cc:Nat) (sa:Option Addr) (sn sc:Nat) (sg:List Sg) (xs:List InM) (w:World)
theorem CN(hmem:AtIn w ca cn xs)(hne:∀b off c,nz cn ca=some ⟨b,off,c⟩→b≠R∧b≠g)(hbl:∀b off c,nz cn ca=some ⟨b,off,c⟩→b<w.heap.size)(hok:∀(j:Nat)x,xs[j]? =some x→qQ w R g x)(hil:∀(j:Nat)x,xs[j]? =some x→∀b off c,nz x.2.2.1.2.1 x.2.2.1.1=some ⟨b,off,c⟩→b<w.heap.size){W:World}{g2:Nat}(hst:Stp R g g2 w W) :
  AtIn W ca cn xs∧(∀b off c,nz cn ca=some ⟨b,off,c⟩→b≠R∧b≠g2)∧(∀(j:Nat)x,xs[j]? =some x→qQ W R g2 x):=by
 refine⟨hmem.kept hst.k (fun b off c h=>uJ),fun b off c h=>⟨(hne b off c h).1,hst.ne (hbl b off c h) (hne b off c h).2⟩,fun j x hj=>?_⟩
 have h:=hok j x hj
 exact⟨h.r0,h.r1,h.seg' hst,fun b off c hb=>⟨(h.ne b off c hb).1,hst.ne (hil j x hj b off c hb) (h.ne b off c hb).2⟩⟩
theorem Eo(h:Wr w R g cap bs)(hb:bs.length+400000000000≤1099511627776)(hs:sn≤100000)(hR0:R≠0)(hg0:g≠0)(hk:aP w)(hsg:b9 w sa sn sg)(hne:∀b off c,sa=some ⟨b,off,c⟩→b≠R∧b≠g)(hp8:∀(t:Nat)p r,sg[t]? =some (p,r)→p.size≤8)(hcn:cn≤100000∨2048<cn)(hmem:AtIn w ca cn xs)(hcne:∀b off c,nz cn ca=some ⟨b,off,c⟩→b≠R∧b≠g)(hcbl:∀b off c,nz cn ca=some ⟨b,off,c⟩→b<w.heap.size)(hok:∀(j:Nat)x,xs[j]? =some x→qQ w R g x)(hil:∀(j:Nat)x,xs[j]? =some x→∀b off c,nz x.2.2.1.2.1 x.2.2.1.1=some ⟨b,off,c⟩→b<w.heap.size)(hx:fp sg left ty lo xs=0) :
  Calls Tryz.prog 143 #[cW R,.agg #[.int .i64 ty,.string lo,.slice ca cn cc],.slice sa sn sc,.int .i64 left] w (fun e w'=>∃(aa:Option Addr)(ac:Nat),e=.returned (.agg #[.int .i64 ty,.string lo,.slice aa cn ac])∧∃g' cap',Wr w' R g' cap' (bs++iI ty lo xs)∧Stp R g g' w w'):=by
 have hxl:=hmem.1;have hsl:=hsg.1;unfold fp at hx
 split at hx
 ·cases hx
 ·rename_i c1
  split at hx
  ·cases hx
  ·rename_i c2
   split at hx
   ·cases hx
   ·rename_i c3
    split at hx
    ·cases hx
    ·rename_i c4
     obtain⟨t,rfl⟩:∃t:Nat,ty=t:=⟨ty.toNat,ae⟩
     have hlt:bO lo 64=true:=by simpa using c3
     refine(zS R g cap bs t left lo ca cn cc sa sn sc sg w h ae hs ae hsg hne (fun p r hp=>hp8 t p r hp) (fun p r hp=>uV) hlt (ax cn++xs.flatMap fF)
      (fun W g2 cap2 hW hst hA hAg=>?_)).mono ?_
     ·obtain⟨m1,m2,m3⟩:=CN R g ca cn xs w hmem hcne hcbl hok hil hst;have hg2:g2≠0:=Ne.symm (hst.ne wF (Ne.symm hg0));have hu:=aG (t:Int);have hlo:=fU lo 64 ae;exact xH R g2 cap2 _ ca cn cc (min 2048 left) w.heap.size xs W hW sf ae ae hR0 hg2 (hk.kept hst.k aI) hA wF hAg m1 m2 m3 hx
     ·rintro e w' ⟨aa,ac,he,g',cap',hw',hs'⟩;refine⟨aa,ac,he,g',cap',?_,hs'⟩;rw[← hxl]at hw'
      simpa[iI,List.append_assoc] using hw'
theorem EU(h:Wr w R g cap bs)(hb:bs.length+400000000000≤1099511627776)(hs:sn≤100000)(hR0:R≠0)(hg0:g≠0)(hk:aP w)(hsg:b9 w sa sn sg)(hne:∀b off c,sa=some ⟨b,off,c⟩→b≠R∧b≠g)(hp8:∀(t:Nat)p r,sg[t]? =some (p,r)→p.size≤8)(hcn:cn≤100000∨2048<cn)(hmem:AtIn w ca cn xs)(hcne:∀b off c,nz cn ca=some ⟨b,off,c⟩→b≠R∧b≠g)(hcbl:∀b off c,nz cn ca=some ⟨b,off,c⟩→b<w.heap.size)(hok:∀(j:Nat)x,xs[j]? =some x→qQ w R g x)(hil:∀(j:Nat)x,xs[j]? =some x→∀b off c,nz x.2.2.1.2.1 x.2.2.1.1=some ⟨b,off,c⟩→b<w.heap.size)(hty:-9223372036854775808≤ty)(hty1:ty<9223372036854775808)(hlo:lo.size≤1073741824∨64<lo.size)(hx:fp sg left ty lo xs≠0) :
  Calls Tryz.prog 143 #[cW R,.agg #[.int .i64 ty,.string lo,.slice ca cn cc],.slice sa sn sc,.int .i64 left] w (aT R g (fp sg left ty lo xs) w):=by
 have hxl:=hmem.1;have hsl:=hsg.1;have hRl:=h.lt;unfold fp at hx ⊢
 by_cases c1:ty<0∨(sg.length:Int)≤ty
 ·rw[if_pos c1];exact Fz R g cap bs left lo ca cn cc sa sn sc w ty h hty hty1 ae hs
 rw[if_neg c1]at hx ⊢;obtain⟨t,rfl⟩:∃t:Nat,ty=t:=⟨ty.toNat,ae⟩
 by_cases c2:64<lo.size+(po sg t).size
 ·rw[if_pos c2]
  exact xO R g cap bs t left lo ca cn cc sa sn sc sg w h ae hs ae hsg hne (fun p r hp=>hp8 t p r hp) 13 (fun W g1 cap1 p r hp hps hW=>gz R g1 cap1 _ lo _ _ W hW uV)
 rw[if_neg c2]at hx ⊢
 by_cases c3:bO lo 64=false
 ·rw[if_pos c3]
  exact xO R g cap bs t left lo ca cn cc sa sn sc sg w h ae hs ae hsg hne (fun p r hp=>hp8 t p r hp) 15 (fun W g1 cap1 p r hp hps hW=>gh R g1 cap1 _ lo _ 183 #[] 15 W hW uV (fun _ _=>rfl) (gX lo _ W ae (by rw[dH lo 256 64 ae ae]; exact c3)))
 rw[if_neg c3]at hx ⊢
 have c3':bO lo 64=true:=by simpa using c3
 have hlo8:∀p r,sg[t]? =some (p,r)→lo.size+p.size≤64:=fun p r hp=>uV
 have hu:=aG (t:Int);have hle:=fU lo 64 ae
 by_cases c4:min 2048 left<(xs.length:Int)
 ·rw[if_pos c4]
  exact zk R g cap bs t left lo ca cn cc sa sn sc sg w h ae hs ae hsg hne (fun p r hp=>hp8 t p r hp) hlo8 c3' 20 (fun W g2 cap2 hW hst hA hAg=>vv R g2 cap2 _ ca cn cc _ _ W hW ae)
 rw[if_neg c4]at hx ⊢
 refine zk R g cap bs t left lo ca cn cc sa sn sc sg w h ae hs ae hsg hne (fun p r hp=>hp8 t p r hp) hlo8 c3' _ (fun W g2 cap2 hW hst hA hAg=>?_)
 obtain⟨m1,m2,m3⟩:=CN R g ca cn xs w hmem hcne hcbl hok hil hst;have hg2:g2≠0:=Ne.symm (hst.ne ae (Ne.symm hg0));exact Aj R g2 cap2 _ ca cn cc (min 2048 left) w.heap.size xs W hW sf ae ae hR0 hg2 (hk.kept hst.k aI) hA ae hAg m1 m2 m3 hx
end
end Go.Proofs.YtheefojaplnnoaaGreatDoor
