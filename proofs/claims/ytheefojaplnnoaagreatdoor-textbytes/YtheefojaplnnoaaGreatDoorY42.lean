/-
  Texts Yf Yg Yh.
-/
import Derived.Deep.CutRange
import Derived.Test.YtheefojaplnnoaaGreatDoorY00
import Derived.Test.YtheefojaplnnoaaGreatDoorY06
import Derived.Test.YtheefojaplnnoaaGreatDoorY41
set_option linter.unusedVariables false
set_option maxRecDepth 100000
set_option maxHeartbeats 16000000
namespace Go.Proofs.YtheefojaplnnoaaGreatDoor
open Go.RowKit
def AH(R:Nat)(A:Option Addr×Nat×Nat)(p:Int)(w W:World):Prop:=W.cell? ⟨R,0,none⟩=some (.slice A.1 A.2.1 A.2.2)∧W.cell? ⟨R,1,none⟩=some (.int .i64 p)∧Below w.heap.size w W
theorem AH.later{R:Nat}{A:Option Addr×Nat×Nat}{p:Int}{w W W':World}(h:AH R A p w W)(hb:Below W.heap.size W W'):AH R A p w W' :=
 ⟨(hb.cell (by exact block_lt_of_cell h.1)).trans h.1,(hb.cell (by exact block_lt_of_cell h.2.1)).trans h.2.1,h.2.2.trans (hb.mono h.2.2.size)⟩
def Ai(w:World)(c a:Int)(l:Value):World:=(w.alloc (.cells #[.int .u8 c,.int .i64 a,l] 75)).alloc (aF 0 0 none 0 0)
theorem GU{w w':World}{base:Nat}{e:TypeId}{k:Nat}{v:Value}{n:Nat}{xs:List Value}(h:w.ownsRow base e k v n xs)(hb:Below w.heap.size w w'):w'.ownsRow base e k v n xs :=
 aA h (fun B hB=>hb.block B (ay h hB))
theorem jG{w:World}{base base':Nat}{e:TypeId}{k:Nat}{v:Value}{n:Nat}{xs:List Value}(h:w.ownsRow base e k v n xs)(hb:base'≤base):w.ownsRow base' e k v n xs:=by
 rcases h with ⟨h1,h2 | ⟨g,cp,cur,h3,h4,h5⟩⟩
 ·exact⟨h1,.inl h2⟩
 ·exact⟨h1,.inr ⟨g,cp,cur,h3,Nat.le_trans hb h4,h5⟩⟩
theorem fL{w:World}{base:Nat}{e:TypeId}{k:Nat}{v u:Value}{n o b:Nat}{xs:List Value}(h:w.ownsRow base e k v n xs)(hb:b<base):(w.setCell ⟨b,o,none⟩ u).ownsRow base e k v n xs:=by
 refine aA h (fun B hB=>Below.heap_setCell _ _ _ _ ?_)
 exact C2
theorem OY(R:Nat)(A:Option Addr×Nat×Nat)(ds rs:List Int)(c0' a0':Int)(la:Option Addr)(ln lc:Nat)(w:World)(h:Rr w R A ds rs)(hk:aP w) :
  Calls Tryz.prog 294 #[.pointer (some ⟨R,0,none⟩),.agg #[.int .u8 c0',.int .i64 a0',.slice la ln lc]] w fun e w'=>Bad R w e w'∨∃c a l v,e=.returned (.agg #[.int .u8 c,.int .i64 a,v])∧0≤c∧c≤255∧chk (tkV c) (lgV c) a l=0∧w'.ownsRow w.heap.size 3 1 v l.length (l.map (Value.int .i64))∧fE R A ds rs (i7 c a l) w w':=by
 have B0:Below w.heap.size w (Ai w c0' a0' (.slice la ln lc)):=((Below.refl _ w).alloc (Nat.le_refl _) _).alloc ar _
 have z0:(Ai w c0' a0' (.slice la ln lc)).heap.size=w.heap.size+1+1:=by simp[Ai]
 have rb:(Ai w c0' a0' (.slice la ln lc)).heap[w.heap.size+1]? =some (aF 0 0 none 0 0):=by
  have:=(MapKept.heap_alloc (w.alloc (aF c0' a0' la ln lc)) (aF 0 0 none 0 0)).1
  unfold Ai;exact bJ
 have HW:(w.alloc (aF c0' a0' la ln lc)).alloc (aF 0 0 none 0 0)=Ai w c0' a0' (.slice la ln lc):=rfl;generalize Ai w c0' a0' (.slice la ln lc)=W0 at *;have HR:=hid (h.later B0)
 have HD:=hid (fun(W:World) (hW:Below W0.heap.size W0 W)=>JE A.1 A.2.1 A.2.2 (ds++rs) ds.length W (hk.later (B0.trans (hW.mono B0.size)) hk.pos) (h.later (B0.trans (hW.mono B0.size))).seg)
 have HB:=hid B0;have d0:=HR.out.c0;have d1:=HR.out.c1;have hRl:=h.lt;have HZ0:=hid z0;clear z0;obtain⟨V,hV⟩:∃V,sW (ds++rs) ds.length=V:=⟨_,rfl⟩;rw[hV]at HD;have HV:=hid hV;clear h hk hV B0
 go_enter Tryz.func294,Tryz.ntmps294
 go_wp2_with fail;unfold ji at HD
 go_cut [5,6,7] from 8 to 21 (fun g y z wx=>∃G a n c,g=.pointer (some ⟨G,0,none⟩)∧w.heap.size+1<G∧y=.int .i64 V.2.2.2.1∧z=.int .i64 V.2.2.2.2∧wx.heap[G]? =some (aF V.1 V.2.1 a n c)∧wx.ownsRow W0.heap.size 3 1 (.slice a n c) V.2.2.1.length (V.2.2.1.map (Value.int .i64))∧Below W0.heap.size W0 wx)
 case first =>
  refine wp_region_held_drew (S:=fun W=>W.cell? ⟨R,0,none⟩=some (.slice A.1 A.2.1 A.2.2)∧W.cell? ⟨R,1,none⟩=some (.int .i64 ds.length)∧Below W0.heap.size W0 W) ai ⟨d0,d1,(Below.refl _ _).drew⟩ (fun hHeld=>?_)
  refine tkC (i:=0) rfl ?_;(try simp only[Act.put,sIB]);refine tkC (i:=1) rfl ?_;(try simp only[Act.put]);refine tkC (i:=2) rfl ?_;(try simp only[Act.put]);refine tkC (i:=3) rfl ?_;(try simp only[Act.put]);refine tkC (i:=4) rfl ?_;(try simp only[Act.put]);refine tkC (i:=5) rfl ?_;(try simp only[Act.put]);refine tkC (i:=6) rfl ?_;(try simp only[Act.put]);refine tkC (i:=7) rfl ?_;(try simp only[Act.put]);refine rdY (rs:=[8,13]) ?_
  refine AllReadyH.cons rfl (fun K hK=>?_) (AllReadyH.cons rfl (fun K hK=>?_) rN)
  ·go_simp;refine(HD.out _ (Below.refl _ _).drew).mono ?_;rintro e w5⟨v,rfl,hown,hb5⟩;obtain⟨va,vn,vc,rfl⟩:=iE hown;have hS5:=AH.later (R:=R) (A:=A) (p:=ds.length) (w:=W0) hHeld hb5;have HO:=hid hown
   refine hK.out _ _ hS5 (fun _=>?_)
   clear hK K hown hb5;refine tkC (i:=9) rfl ?_;(try simp only[Act.put]);refine tkC (i:=10) rfl ?_;(try simp only[Act.put]);refine tkC (i:=11) rfl ?_;(try simp only[Act.put]);refine tkC (i:=12) rfl ?_;(try simp only[Act.put]);refine rdY (rs:=[13]) ?_
   refine AllReadyH.cons rfl (fun K hK=>?_) rN
   go_simp
   refine hK.out _ _ (hS5.later (ag _ _)) (fun _=>?_)
   clear hK K;refine rdY (rs:=[14]) ?_
   refine AllReadyH.cons rfl (fun K hK=>?_) rN
   go_simp;have BN:=ag w5 (aF V.1 V.2.1 va vn vc);have hS:=hS5.later BN
   refine hK.out _ _ hS (fun _=>?_)
   clear hK K;refine rdY (rs:=[15]) ?_
   refine AllReadyH.cons rfl (fun K hK=>?_) rN
   go_simp
   refine hK.out _ _ hS (fun _=>?_)
   clear hK K;refine rdY (rs:=[16]) ?_
   refine AllReadyH.cons rfl (fun K hK=>?_) rN
   go_simp
   refine hK.out _ _ hS (fun _=>?_)
   clear hK K;refine wpAnyH_done ai ?_ _;have gB:(w5.alloc (aF V.1 V.2.1 va vn vc)).heap[w5.heap.size]? =some (aF V.1 V.2.1 va vn vc):=heap_alloc_new w5 _;have hle:=hS5.2.2.size;have hz5:W0.drew.heap.size=W0.heap.size:=rfl;have hown:=GU HO.out BN;have hz0:=HZ0.out;go_wp2_with fail
   go_meet
   exact⟨_,_,_,_,rfl,ae,rfl,rfl,gB,jG hown ae,hS.2.2⟩
  ·go_simp;have BN:=(ag W0 (aF 0 0 none 0 0)).drew;have hS5:=AH.later (R:=R) (A:=A) (p:=ds.length) (w:=W0) ⟨d0,d1,Below.refl _ _⟩ BN;have gB0:((W0.alloc (aF 0 0 none 0 0)).drew).heap[W0.heap.size]? =some (aF 0 0 none 0 0):=heap_alloc_new W0 _
   have hzW:=hid (show((W0.alloc (aF 0 0 none 0 0)).drew).heap.size=W0.heap.size+1 by simp)
   refine hK.out _ _ hS5 (fun _=>?_)
   clear hK K;generalize (W0.alloc (aF 0 0 none 0 0)).drew=W1 at *;refine rdY (rs:=[8]) ?_
   refine AllReadyH.cons rfl (fun K hK=>?_) rN
   go_simp;refine(HD.out _ hS5.2.2).mono ?_;rintro e w5⟨v,rfl,hown,hb5⟩;obtain⟨va,vn,vc,rfl⟩:=iE hown;have hS6:=hS5.later hb5;have rB:=au hb5 gB0;have HO:=hid hown
   have hG5:W0.heap.size<w5.heap.size:=by have:=hb5.size; have:=hzW.out; omega
   refine hK.out _ _ hS6 (fun _=>?_)
   clear hK K hown hb5;obtain⟨G,hG⟩:∃G,W0.heap.size=G:=⟨_,rfl⟩;have HG:=hid hG;rw[hG]at rB hG5 ⊢;clear hG;have t0:=ak (i:=0) rB;have t1:=ak (i:=1) rB;have t2:=ak (i:=2) rB;have q0:w5.frozen? ⟨G,0,none⟩=false:=vq;have q1:w5.frozen? ⟨G,1,none⟩=false:=vq;have q2:w5.frozen? ⟨G,2,none⟩=false:=vq
   have hS7:w5.cell? ⟨R,0,none⟩=some (.slice A.1 A.2.1 A.2.2)∧w5.cell? ⟨R,1,none⟩=some (.int .i64 ds.length)∧Below G W0 w5:=by rw[← HG.out]; exact hS6
   refine tkC (i:=9) rfl ?_;(try simp only[Act.put]);refine tkC (i:=10) rfl ?_;(try simp only[Act.put]);refine tkC (i:=11) rfl ?_;(try simp only[Act.put]);refine tkC (i:=12) rfl ?_;(try simp only[Act.put]);refine rdY (rs:=[14]) ?_
   refine AllReadyH.cons rfl (fun K hK=>?_) rN
   go_simp
   have hS8:AH R A ds.length W0 (((w5.setCell ⟨G,0,none⟩ (.int .u8 V.1)).setCell ⟨G,1,none⟩ (.int .i64 V.2.1)).setCell ⟨G,2,none⟩ (.slice va vn vc)):=by
    have hGR:G≠R:=by have:=HG.out; have:=HZ0.out; omega
    have hGW:W0.heap.size≤G:=by have:=HG.out; omega
    refine⟨?_,?_,?_⟩
    ·rw[World.cell?_setCell_other _ _ _ _ bu,World.cell?_setCell_other _ _ _ _ bu,World.cell?_setCell_other _ _ _ _ bu]; exact hS6.1
    ·rw[World.cell?_setCell_other _ _ _ _ bu,World.cell?_setCell_other _ _ _ _ bu,World.cell?_setCell_other _ _ _ _ bu]; exact hS6.2.1
    ·exact((hS6.2.2.setCell (p:=⟨G,0,none⟩) hGW _).setCell (p:=⟨G,1,none⟩) hGW _).setCell (p:=⟨G,2,none⟩) hGW _
   have hS9:=hS8;unfold AH at hS9;rw[HG.out]at hS9
   refine hK.out _ _ hS9 (fun _=>?_)
   clear hK K;refine rdY (rs:=[15]) ?_
   refine AllReadyH.cons rfl (fun K hK=>?_) rN
   go_simp
   refine hK.out _ _ hS9 (fun _=>?_)
   clear hK K;refine rdY (rs:=[16]) ?_
   refine AllReadyH.cons rfl (fun K hK=>?_) rN
   go_simp
   refine hK.out _ _ hS9 (fun _=>?_)
   clear hK K;refine wpAnyH_done ai ?_ _;have gB:=bS (i:=2) (u:=.slice va vn vc) (bS (i:=1) (u:=.int .i64 V.2.1) (bS (i:=0) (u:=.int .u8 V.1) rB));have hz0:=HZ0.out;have hG:=HG.out;have hz1:=hzW.out;have hown:(((w5.setCell ⟨G,0,none⟩ (.int .u8 V.1)).setCell ⟨G,1,none⟩ (.int .i64 V.2.1)).setCell ⟨G,2,none⟩ (.slice va vn vc)).ownsRow W0.heap.size 3 1 (.slice va vn vc) V.2.2.1.length (V.2.2.1.map (Value.int .i64)) :=
    jG (fL (fL (fL HO.out ae) ae) ae) ae
   go_wp2_with fail
   go_meet
   exact⟨_,_,_,_,rfl,ae,rfl,rfl,gB,hown,hS8.2.2⟩
 case rest =>
  obtain⟨G,va,vn,vc,rfl,hG,rfl,rfl,gB,hown,hb⟩:=hcut;have g0:=ak (i:=0) gB;have g1:=ak (i:=1) gB;have g2:=ak (i:=2) gB;have HRc:=hid (HR.out.later hb);have KB:=hid (HB.out.trans (hb.mono HB.out.size));have HO:=hid hown;have HG:=hid gB;have rB:=au hb rb;have e1:=HRc.out.c1;have e2:=HRc.out.f1;obtain⟨c,a,l,q,x⟩:=V;dsimp only at *;clear d0 d1 HD hb hown HR
  by_cases hx:x=0
  rotate_left
  ·go_wp2_with fail;refine(mQ R _ _ x wc e1 hx).mono ?_;rintro e w2⟨rfl,rfl⟩;exact⟨rfl,.inl ⟨⟨x,_,hx,rfl⟩,KO.of_below KB.out⟩⟩
  subst hx;obtain⟨k0,k1,k2,k3,k4,k5,k6⟩:=Ev _ _ _ _ _ _ HRc.out.seg.2.2.2.1 HV.out;obtain⟨rs',hrs,hq⟩:=yS (new:=i7 c a l) (q:=q) rfl k6 k4 k5;have G1:=HRc;rw[hrs]at G1;have G2:=hid G1.out.go;have KG:=hid (Kept.trans (KO.of_below (R:=R) KB.out) (aw wc R 1 (.int .i64 ((ds.length+(i7 c a l).length:Nat):Int))));have HP:=hid (iR R _ q wc e1 e2);rw[← hq]at G2 KG;have hRw:=HRc.out.lt;have hRG:G≠R:=ae;have b1:(wc.setCell ⟨R,1,none⟩ (.int .i64 q)).heap[G]? =some (aF c a va vn vc):=(Kept.block (aw wc R 1 (.int .i64 q)) G (aJ HG.out) hRG).trans HG.out;have b2:(wc.setCell ⟨R,1,none⟩ (.int .i64 q)).heap[w.heap.size+1]? =some (aF 0 0 none 0 0):=(Kept.block (aw wc R 1 (.int .i64 q)) (w.heap.size+1) (aJ rB) ae).trans rB
  have HO2:=hid (fL (b:=R) (o:=1) (u:=.int .i64 q) HO.out (by have:=HZ0.out; omega))
  have HQQ:=hid hq;clear hq k4 k5 HV g0 g1 g2 rB gB e1 e2 G1 HRc;go_wp2_with fail;refine HP.out.mono ?_;rintro e w2⟨rfl,hw2⟩;rw[← hw2]at b1 b2 G2 KG HO2;clear hw2 HP;have HB1:=hid b1;have HB2:=hid b2;have m0:=ak (i:=0) b1;have m1:=ak (i:=1) b1;have m2:=ak (i:=2) b1;obtain⟨n0,n1,n2,n3,n4,n5⟩:=aB b2;have hl2:=aJ b2;have hne2:w.heap.size+1≠R:=ae;clear b1 b2;go_wp2_with fail;refine bodyPost_ret (v:=.agg #[.int .u8 c,.int .i64 a,.slice va vn vc]) ?_ rfl (.inr ⟨c,a,l,_,rfl,k0,k1,k2,?_,rs',hrs,?_,?_⟩)
  ·exact cu
  ·have hz0:=HZ0.out;exact jG (fL (fL (fL HO2.out ae) ae) ae) ae
  ·exact((G2.out.set ae).set ae).set ae
  ·exact KO.set (KO.set (KO.set KG.out ae) ae) ae
theorem L4(B:Nat)(v p n:Int)(w:World)(h:w.cell? ⟨B,0,none⟩=some (.int .i64 n))(hn:0≤n)(hn1:n<9223372036854775808):Calls Tryz.prog 185 #[.int .u64 v,.int .i64 p,.pointer (some ⟨B,0,none⟩)] w (kU (v<n) w):=by
 by_cases hv:v<n
 ·exact fh hv (rW B v p n w h hn hn1 hv)
 ·exact fD aj (tI B v p n w h hn hn1 ae)
theorem Mk(B:Nat)(v p n:Int)(w:World)(h:w.cell? ⟨B,0,none⟩=some (.int .i64 n))(hn:0≤n)(hn1:n<9223372036854775808):Calls Tryz.prog 193 #[.int .u64 v,.int .i64 p,.pointer (some ⟨B,0,none⟩)] w (kU (n≤v∧v≤64) w):=by
 by_cases hv:n≤v∧v≤64
 ·exact fh hv (sj B v p n w h hn hn1 hv.1 hv.2)
 ·exact fD aj (tL B v p n w h hn hn1 ae)
theorem Ca(s:ByteArray)(p:Int)(w:World)(hs:s.size≤65536):Calls Tryz.prog 183 #[.string s,.int .i64 p] w (kU (bO s 256=true) w):=by
 cases hl:bO s 256
 ·exact fD aj (gX s p w ae hl)
 ·exact fh rfl (dt s p w ae hl)
theorem LM(s p:ByteArray)(at_ beg:Int)(A B C:Nat)(aa:Option Addr)(an ac:Nat)(ah:List Sg)(w:World)(hs:s.size≤65536)(hah:b9 w aa an ah)
  (hA:w.cell? ⟨A,0,none⟩=some (.slice aa an ac)) (hB:w.cell? ⟨B,0,none⟩=some (.string p)) (hC:w.cell? ⟨C,0,none⟩=some (.int .i64 beg)) :
  Calls Tryz.prog 184 #[.string s,.int .i64 at_,.pointer (some ⟨A,0,none⟩),.pointer (some ⟨B,0,none⟩),.pointer (some ⟨C,0,none⟩)] w (kU (bO s 256=true∧ib ah (p,s)=false) w):=by
 cases hl:bO s 256
 ·exact fD aj (tW s at_ A B C w ae hl)
 ·cases ht:ib ah (p,s)
  ·exact fh ⟨rfl,rfl⟩ (rG s p at_ beg A B C aa an ac ah w ae hl hah ht hA hB hC)
  ·obtain⟨k,y,h1,h2,h3,h4⟩:=yq ht;exact fD aj (ol s p at_ beg A B C aa an ac ah w ae hl hah k ⟨y,h1,h2,h3⟩ h4 hA hB hC)
theorem NS(v p:Int)(w:World):Calls Tryz.prog 186 #[.int .u8 v,.int .i64 p] w (kU (isL v=true) w):=by
 cases hl:isL v
 ·exact fD aj (um v p w hl)
 ·exact fh rfl (nB v p w hl)
theorem NP(s:ByteArray)(p:Int)(w:World):Calls Tryz.prog 198 #[.string s,.int .i64 p] w (kU (s.size≠0) w):=by
 by_cases h:s.size=0
 ·exact fD aj (uj s p w h)
 ·exact fh h (rS s p w h)
theorem fE.from{R:Nat}{A:Option Addr×Nat×Nat}{ds rs new:List Int}{w w1 w':World}(hk:KO R w w1)(h:fE R A ds rs new w1 w'):fE R A ds rs new w w':=by
 obtain⟨rs',h1,h2,h3⟩:=h;exact⟨rs',h1,h2,hk.trans h3⟩
theorem Bad.from{R:Nat}{w w1 w':World}{e:Ending}(hk:KO R w w1)(h:Bad R w1 e w'):Bad R w e w':=⟨h.1,hk.trans h.2⟩
theorem fE.then{R:Nat}{A:Option Addr×Nat×Nat}{ds rs rs' new new':List Int}{w w1 w':World}(hr:rs=new++rs')(hk:KO R w w1)(h:fE R A (ds++new) rs' new' w1 w'):fE R A ds rs (new++new') w w':=by
 obtain⟨rs2,h1,h2,h3⟩:=h;refine⟨rs2,?_,?_,hk.trans h3⟩
 ·rw[hr,h1,List.append_assoc]
 ·rw[← List.append_assoc]; exact h2
theorem pE(R:Nat)(A:Option Addr×Nat×Nat)(ds rs:List Int)(x n:Int)(w:World)(h:Rr w R A ds rs)(hn:0≤n)(hn1:n<9223372036854775808) :
  Calls Tryz.prog 136 #[cR R,.int .i64 x,.int .i64 n] w fun e w'=>Bad R w e w'∨∃v,e=.returned (.int .i64 v)∧0≤v∧v<n∧fE R A ds rs (ax v) w w':=by
 have hm:=kw;have hc:=rJ;have B1:=hid (ag w (bq n));have NC:=hid (eB w (.int .i64 n) 3);have hRl:=h.lt
 have HN:=hid (pM R A ds rs (IntKind.u64.wrap x) 185 #[.pointer (some ⟨w.heap.size,0,none⟩)] (fun v=>v<n) _ (h.later B1.out) (fun _ _=>rfl) (fun v W _ _ hk=>L4 w.heap.size v _ n W (hk.cell NC.out ae) hn hn1))
 clear h
 go_enter Tryz.func136,Tryz.ntmps136
 go_wp2_with fail;refine HN.out.mono ?_
 rintro e w1 (⟨⟨y,p,hy,rfl⟩,hk⟩ | ⟨v,rfl,h0,h1,hok,hg⟩)
 ·exact⟨rfl,.inl ⟨⟨y,p,hy,rfl⟩,(KO.of_below B1.out).trans hk⟩⟩
 have hw:=i64_in v ae ae;have HG:=hid (hg.from (KO.of_below B1.out));clear hg hm hc;go_wp2_with fail;go_ret;exact .inr ⟨v,rfl,h0,hok,HG.out⟩
theorem tO(R:Nat)(A:Option Addr×Nat×Nat)(ds rs:List Int)(x n:Int)(w:World)(h:Rr w R A ds rs)(hn:0≤n)(hn1:n<9223372036854775808) :
  Calls Tryz.prog 140 #[cR R,.int .i64 x,.int .i64 n] w fun e w'=>Bad R w e w'∨∃v,e=.returned (.int .i64 v)∧n≤v∧v≤64∧fE R A ds rs (ax v) w w':=by
 have hm:=kw;have hc:=rJ;have B1:=hid (ag w (bq n));have NC:=hid (eB w (.int .i64 n) 3);have hRl:=h.lt
 have HN:=hid (pM R A ds rs (IntKind.u64.wrap x) 193 #[.pointer (some ⟨w.heap.size,0,none⟩)] (fun v=>n≤v∧v≤64) _ (h.later B1.out) (fun _ _=>rfl) (fun v W _ _ hk=>Mk w.heap.size v _ n W (hk.cell NC.out ae) hn hn1))
 clear h
 go_enter Tryz.func140,Tryz.ntmps140
 go_wp2_with fail;refine HN.out.mono ?_
 rintro e w1 (⟨⟨y,p,hy,rfl⟩,hk⟩ | ⟨v,rfl,h0,h1,hok,hg⟩)
 ·exact⟨rfl,.inl ⟨⟨y,p,hy,rfl⟩,(KO.of_below B1.out).trans hk⟩⟩
 have hw:=i64_in v ae ae;have HG:=hid (hg.from (KO.of_below B1.out));clear hg hm hc;go_wp2_with fail;go_ret;exact .inr ⟨v,rfl,hok.1,hok.2,HG.out⟩
theorem Ns(R:Nat)(A:Option Addr×Nat×Nat)(ds rs:List Int)(aa:Option Addr)(an ac:Nat)(ah:List Sg)(w:World)(h:Rr w R A ds rs)
  (hah:b9 w aa an ah) (hne:∀b off c,aa=some ⟨b,off,c⟩→b≠R) :
  Calls Tryz.prog 133 #[cR R,.agg #[.string ⟨#[]⟩,.string ⟨#[]⟩],.slice aa an ac] w fun e w'=>Bad R w e w'∨∃x:Sg,e=.returned (.agg #[.string x.1,.string x.2])∧cQ ah x=0∧fE R A ds rs (bK x) w w':=by
 obtain⟨B0,z0,x0,x1,x2,x3,x4⟩:=jW w ⟨#[]⟩ ⟨#[]⟩ aa an ac ds.length;have H4:=hid (h.later B0);have HAH:=hid (hah.later B0);have hRl:=h.lt;have hmp:=yG;have hcp:=GX;have hmt:=jT;have hct:=oP
 have c1:(((w.alloc (aX ⟨#[]⟩ ⟨#[]⟩)).alloc (iY aa an ac)).alloc (aX ⟨#[]⟩ ⟨#[]⟩)).cell? ⟨R,1,none⟩=some (.int .i64 ds.length):=by
  rw[(((Below.refl _ w).alloc (Nat.le_refl _) _).alloc bu _ |>.alloc bu _).cell (by exact hRl)]; exact h.c1
 have HW4:(((w.alloc (aX ⟨#[]⟩ ⟨#[]⟩)).alloc (iY aa an ac)).alloc (aX ⟨#[]⟩ ⟨#[]⟩)).alloc (bq ds.length)=mz w ⟨#[]⟩ ⟨#[]⟩ aa an ac ds.length:=rfl;generalize mz w ⟨#[]⟩ ⟨#[]⟩ aa an ac ds.length=W4 at *;have B4:=hid B0;have HNE:=hid hne;clear h hah B0 hne
 have HT1:=hid (oQ R A ds rs ⟨#[]⟩ 8 183 #[] (fun s=>bO s 256=true) W4 H4.out aj (fun _ _=>rfl) (fun s W _ hs _=>Ca s _ W hs))
 go_enter Tryz.func133,Tryz.ntmps133
 go_wp2_with fail;refine(GK R _ _ c1).mono ?_;rintro e w1⟨rfl,rfl⟩;clear c1;go_wp2_with fail;refine HT1.out.mono ?_
 rintro e w5 (⟨⟨y,q,hy,rfl⟩,hk⟩ | ⟨p,rfl,s1,-,l1,rs',hrs,hr5,hk5⟩)
 ·exact⟨rfl,.inl ⟨⟨y,q,hy,rfl⟩,(KO.of_below B4.out).trans hk⟩⟩
 have y0:=hk5.cell x0 ae;have y1:=hk5.cell x1 ae;have hl1:=block_lt_of_cell y1;have y2:=hk5.cell x2 ae;have y3:=hk5.cell x3 ae;have y4:=(hk5.block (b:=w.heap.size+1+1) ae ae).trans x4;have B6:=hid (ag w5 (bQ p));have N6:=hid (eB w5 (.string p) 9);have hz5:=hk5.size;have hl5:w.heap.size+4≤w5.heap.size:=ae;have R5:=hid hr5;have K5:=hid ((KO.of_below B4.out).trans hk5)
 have A5:=hid (HAH.out.kept hk5 (fun b off c ha=>HNE.out b off c ha))
 have HRS:=hid hrs;clear HT1 hk5 hr5 x0 x1 x2 x3 x4 H4 HW4 hrs;have hl2:=block_lt_of_cell y2;have hl3:=block_lt_of_cell y3
 have HT2:=hid (oQ R A (ds++ia p) rs' ⟨#[]⟩ 8 184 #[.pointer (some ⟨w.heap.size+1,0,none⟩),.pointer (some ⟨w5.heap.size,0,none⟩),.pointer (some ⟨w.heap.size+1+1+1,0,none⟩)] (fun s=>bO s 256=true∧ib ah (p,s)=false) _ (R5.out.later B6.out) aj (fun _ _=>rfl)
  (fun s W _ hs hk=>LM s p _ ds.length (w.heap.size+1) w5.heap.size (w.heap.size+1+1+1) aa an ac ah W hs ((A5.out.later B6.out).kept hk (fun b off c ha=>HNE.out b off c ha))
   (hk.cell ((B6.out.cell (by exact hl2)).trans y2) ae) (hk.cell N6.out ae) (hk.cell ((B6.out.cell (by exact hl3)).trans y3) ae)))
 clear y2;go_wp2_with fail;refine HT2.out.mono ?_
 rintro e w7 (⟨⟨y,q,hy,rfl⟩,hk⟩ | ⟨r,rfl,s2,-,⟨l2,t2⟩,hg⟩)
 ·exact⟨rfl,.inl ⟨⟨y,q,hy,rfl⟩,(K5.out.trans (KO.of_below B6.out)).trans hk⟩⟩
 obtain⟨rs2,hrs2,hr7,hk7⟩:=hg;have hz6:(w5.alloc (bQ p)).heap.size=w5.heap.size+1:=ar;have q0:=hk7.cell N6.out ae;have q1:=block_lt_of_cell q0;have q2:=(hk7.block (b:=w.heap.size+1+1) ae ae).trans ((B6.out.block _ ae).trans y4);obtain⟨q3,q4,q5,q6⟩:=bi q2;have hlq:=aJ q2;have R7:=hid hr7;have K7:=hid ((K5.out.trans (KO.of_below B6.out)).trans hk7);have HS2:=hid hrs2;clear hk7 hr7 HT2 y0 y1 y3 y4 q2 hz6 hrs2;go_wp2_with fail;refine bodyPost_ret (v:=.agg #[.string p,.string r]) ?_ rfl (.inr ⟨(p,r),rfl,?_,rs2,?_,?_,?_⟩)
 ·exact cu
 ·have e1:p.size≤8:=ae;have e2:r.size≤8:=ae;unfold cQ;rw[dH p 8 256 e1 ae,dH r 8 256 e2 ae,l1,l2,t2]
  simp
  omega
 ·rw[HRS.out,HS2.out]; simp[bK]
 ·have:=(R7.out.set (b:=w.heap.size+1+1) (o:=0) (v:=.string p) ae).set (b:=w.heap.size+1+1) (o:=1) (v:=.string r) ae
  simpa[bK,List.append_assoc] using this
 ·exact KO.set (KO.set K7.out ae) ae
theorem IL{R:Nat}{w w':World}{base:Nat}{e:TypeId}{k n j ac:Nat}{aa:Option Addr}{xs:List Value}(h:w.ownsRow base e k (.slice aa j ac) n xs)(hk:KO R w w')(hne:∀b,aa=some b→b.block≠R):w'.ownsRow base e k (.slice aa j ac) n xs :=
 aA h (fun B hB=>by
  obtain⟨a,h1,h2⟩:=dF hB
  exact KO.block hk (ay h hB) (by rw[← h2]; exact hne a h1))
theorem NZ(s:ByteArray)(p:Int)(A:Nat)(aa:Option Addr)(an ac:Nat)(ys:List Ex)(w:World)(hs:s.size≤65536)(hl:ys.length=an)(han:an≤100000)(hrow:w.ownsRow 0 83 2 (.slice aa an ac) an (ys.flatMap fM))(hA:w.cell? ⟨A,0,none⟩=some (.slice aa an ac)) :
  Calls Tryz.prog 199 #[.string s,.int .i64 p,.pointer (some ⟨A,0,none⟩)] w (kU (jb s=true∧gg ys s=false) w):=by
 cases hn:jb s
 ·exact fD aj (ub s p A w ae hn)
 ·cases ho:gg ys s
  ·exact fh ⟨rfl,rfl⟩ (nD s p A aa an ac ys w ae hn hl han hrow ho hA)
  ·exact fD aj (uq s p A aa an ac ys w ae hn hl han hrow ho hA)
theorem LA(R:Nat)(A:Option Addr×Nat×Nat)(ds rs:List Int)(nf:Int)(aa:Option Addr)(an ac:Nat)(ys:List Ex)(w:World)(h:Rr w R A ds rs)(hl:ys.length=an)(han:an≤100000)(hrow:w.ownsRow 0 83 2 (.slice aa an ac) an (ys.flatMap fM))(hne:∀b,aa=some b→b.block≠R)(hnf0:0≤nf)(hnf:nf<9223372036854775808) :
  Calls Tryz.prog 149 #[cR R,.agg #[.string ⟨#[]⟩,.int .i64 0],.slice aa an ac,.int .i64 nf] w fun e w'=>Bad R w e w'∨∃x:Ex,e=.returned (.agg #[.string x.1,.int .i64 x.2])∧fk nf ys x=0∧fE R A ds rs (eA x) w w':=by
 have hmt:=jT;have hct:=oP;obtain⟨B0,z0,x0,x1,x2⟩:=j5 w ⟨#[]⟩ 0 aa an ac;obtain⟨a0,a1,_,_⟩:=bi x0;have HW:((w.alloc (bj ⟨#[]⟩ 0)).alloc (.cells #[.slice aa an ac] 27)).alloc (bj ⟨#[]⟩ 0)=oN w ⟨#[]⟩ 0 aa an ac:=rfl;have hRl:=h.lt;generalize oN w ⟨#[]⟩ 0 aa an ac=W1 at *
 have hrow1:=aA (w':=W1) hrow (fun B hB=>B0.block B (ay hrow hB))
 have HT:=hid (oQ R A ds rs ⟨#[]⟩ 32 199 #[.pointer (some ⟨w.heap.size+1,0,none⟩)] (fun s=>jb s=true∧gg ys s=false) W1 (h.later B0) aj (fun _ _=>rfl) (fun s W _ hs hk=>NZ s _ (w.heap.size+1) aa an ac ys W hs hl han (IL hrow1 hk hne) (hk.cell x1 ae)))
 have BW:=hid B0;clear h B0 hrow hrow1
 go_enter Tryz.func149,Tryz.ntmps149
 go_wp2_with fail;refine HT.out.mono ?_
 rintro e w2 (⟨⟨y,p,hy,rfl⟩,hk⟩ | ⟨nm,rfl,s1,-,⟨n1,o1⟩,rs1,hrs1,hr2,hk2⟩)
 ·exact jc
 have y0:=(hk2.block (b:=w.heap.size) ae ae).trans x0;have y2:=(hk2.block (b:=w.heap.size+1+1) ae ae).trans x2;obtain⟨b0,b1,_,_⟩:=bi y0;have hlb:=aJ y0;have z2:=hk2.size;have HX:=hid (pE R A (ds++ia nm) rs1 0 nf w2 hr2 hnf0 hnf);have K2:=hid ((KO.of_below BW.out).trans hk2);have HR1:=hid hrs1;clear hk2 HT hr2 x0 x1 x2 a0 a1 hmt hct HW hrs1;go_wp2_with fail;refine HX.out.mono ?_
 rintro e w3 (⟨⟨y,p,hy,rfl⟩,hk⟩ | ⟨fn,rfl,f0,f1,rs2,hrs2,hr3,hk3⟩)
 ·exact⟨rfl,.inl ⟨⟨y,p,hy,rfl⟩,K2.out.trans hk⟩⟩
 have q2:=(hk3.block (b:=w.heap.size+1+1) ae ae).trans y2;obtain⟨c0,c1,c2,c3⟩:=bi q2;have hlq:=aJ q2;have R3:=hid hr3;have K3:=hid (K2.out.trans hk3);have HR2:=hid hrs2;clear hk3 HX y0 y2 b0 b1 hr3 hrs2 q2;go_wp2_with fail;refine bodyPost_ret (v:=.agg #[.string nm,.int .i64 fn]) ?_ rfl (.inr ⟨(nm,fn),rfl,?_,rs2,?_,?_,?_⟩)
 ·exact cu
 ·unfold fk dw;rw[n1,o1]
  simp
  omega
 ·rw[HR1.out,HR2.out]; simp[eA]
 ·have:=(R3.out.set (b:=w.heap.size+1+1) (o:=0) (v:=.string nm) ae).set (b:=w.heap.size+1+1) (o:=1) (v:=.int .i64 fn) ae
  simpa[eA,List.append_assoc] using this
 ·exact KO.set (KO.set K3.out ae) ae
theorem LB(v p room:Int)(A C:Nat)(aa:Option Addr)(an ac:Nat)(ys:List (Int×SL))(w:World)(hr:0≤room)(hr1:room≤1099511627776)(hv0:0≤v)(hl:ys.length=an)(han:an≤100000)(hys:∀y∈ys,0≤y.1∧y.1≤1099511627776∧y.2.2.1≤1099511627776)(hrow:w.ownsRow 0 81 2 (.slice aa an ac) an (ys.flatMap eX))
  (hA:w.cell? ⟨A,0,none⟩=some (.int .i64 room)) (hC:w.cell? ⟨C,0,none⟩=some (.slice aa an ac)) :
  Calls Tryz.prog 196 #[.int .u64 v,.int .i64 p,.pointer (some ⟨A,0,none⟩),.pointer (some ⟨C,0,none⟩)] w (kU (v≤room∧eU ys v=false) w):=by
 by_cases hv:v≤room
 ·cases ht:eU ys v
  ·exact fh ⟨hv,rfl⟩ (q9 v p room A C aa an ac ys w hr hr1 hv0 hv hl han hys hrow ht hA hC)
  ·exact fD aj (tG v p room A C aa an ac ys w hr hr1 hv0 hv hl han hys hrow ht hA hC)
 ·exact fD aj (ut v p room A C w hr hr1 ae hA)
theorem JO(R:Nat)(A:Option Addr×Nat×Nat)(ds rs:List Int)(room:Int)(aa:Option Addr)(an ac:Nat)(ys:List (Int×SL))(w:World)(h:Rr w R A ds rs)(hr:0≤room)(hr1:room≤1000000)(hl:ys.length=an)(han:an≤100000)(hys:∀y∈ys,0≤y.1∧y.1≤1099511627776∧y.2.2.1≤1099511627776)
  (hrow:w.ownsRow 0 81 2 (.slice aa an ac) an (ys.flatMap eX)) (hne:∀b,aa=some b→b.block≠R) :
  Calls Tryz.prog 146 #[cR R,.agg #[.int .i64 0,.slice none 0 0],.slice aa an ac,.int .i64 room] w fun e w'=>Bad R w e w'∨∃(pl:Int)(B n c:Nat)(zs:List Int),e=.returned (.agg #[.int .i64 pl,.slice (some ⟨B,0,none⟩) n c])∧w.heap.size≤B∧Seg w' (some ⟨B,0,none⟩) n c zs∧0≤pl∧jz room ys pl n=0∧zs.length=n∧fE R A ds rs (ax pl++(ax zs.length++zs)) w w':=by
 have hmn:=kw;have hcn:=rJ;have hmt:=jT;have hct:=oP;obtain⟨B0,z0,x0,x1,x2,x3,x4⟩:=km w 0 room none 0 0 aa an ac;have HW:(((w.alloc (aZ 0 none 0 0)).alloc (.cells #[.slice aa an ac] 26)).alloc (bq room)).alloc (aZ 0 none 0 0)=mA w 0 room none 0 0 aa an ac:=rfl;have hRl:=h.lt;generalize mA w 0 room none 0 0 aa an ac=W1 at *
 have hrow1:=aA (w':=W1) hrow (fun B hB=>B0.block B (ay hrow hB))
 have HT:=hid (pM R A ds rs 0 196 #[.pointer (some ⟨w.heap.size+1+1,0,none⟩),.pointer (some ⟨w.heap.size+1,0,none⟩)] (fun v=>v≤room∧eU ys v=false) W1 (h.later B0) (fun _ _=>rfl)
  (fun v W h0 _ hk=>LB v _ room (w.heap.size+1+1) (w.heap.size+1) aa an ac ys W hr ae h0 hl han hys (IL hrow1 hk hne) (hk.cell x3 ae) (hk.cell x2 ae)))
 have BW:=hid B0;clear h B0 hrow hrow1
 go_enter Tryz.func146,Tryz.ntmps146
 go_wp2_with fail;refine HT.out.mono ?_
 rintro e w2 (⟨⟨y,p,hy,rfl⟩,hk⟩ | ⟨pl,rfl,p0,-,⟨p1,t1⟩,rs1,hrs1,hr2,hk2⟩)
 ·exact jc
 have hip:wrap64 pl=pl:=dv;have hip2:=i64_in pl ae ae;have hsub:wrap64 (room-pl)=room-pl:=dv;have y0:=hk2.cell (b:=w.heap.size) x0 ae;have y1:=hk2.cell (b:=w.heap.size) x1 ae;have y3:=hk2.cell (b:=w.heap.size+1+1) x3 ae;have y4:=(hk2.block (b:=w.heap.size+1+1+1) ae ae).trans x4;have hly:=block_lt_of_cell y3;have hly1:=block_lt_of_cell y1;have hconv:=yu w2 none 0 0 [] ⟨rfl,Nat.le_refl _,ae,ar,.inl rfl⟩;rw[Fh]at hconv;have z2:=hk2.size
 have HX:=hid (oQ R A (ds++ax pl) rs1 ⟨#[]⟩ (room-pl) 198 #[] (fun s=>s.size≠0) w2 hr2 ae (fun _ _=>rfl) (fun s W _ _ _=>NP s _ W))
 have K2:=hid ((KO.of_below BW.out).trans hk2);have HR1:=hid hrs1;clear hk2 HT hr2 x0 x1 x2 x3 x4 hmn hcn HW hrs1;go_wp2_with fail;refine HX.out.mono ?_
 rintro e w3 (⟨⟨y,p,hy,rfl⟩,hk⟩ | ⟨sb,rfl,s1,s2,s0,rs2,hrs2,hr3,hk3⟩)
 ·exact⟨rfl,.inl ⟨⟨y,p,hy,rfl⟩,K2.out.trans hk⟩⟩
 obtain⟨c3,W4,hrun,hseg4,hbl4,hsz4⟩:=nZ w3 sb ae;have q4:=(hk3.block (b:=w.heap.size+1+1+1) ae ae).trans y4;have z3:=hk3.size;have q5:=(hbl4.block (w.heap.size+1+1+1) (aJ q4)).trans q4;obtain⟨k0,k1,k2,k3⟩:=bi q5;have hlq:=aJ q5;have R4:=hid (hr3.later hbl4);have K4:=hid ((K2.out.trans hk3).trans (KO.of_below hbl4));have SG:=hid hseg4;have HR2:=hid hrs2;have hB:w.heap.size+1+1+1<w3.heap.size:=aJ q4;clear hk3 HX y0 y1 y3 y4 hbl4 q4 hconv hr3 hseg4 hrs2 q5;go_wp2_with fail;refine bodyPost_ret (v:=.agg #[.int .i64 pl,.slice (some ⟨w3.heap.size,0,none⟩) sb.size c3]) ?_ rfl (.inr ⟨pl,w3.heap.size,sb.size,c3,bD sb,rfl,ae,?_,p0,?_,eu sb,rs2,?_,?_,?_⟩)
 ·exact cu
 ·exact gT (gT SG.out (aw W4 (w.heap.size+1+1+1) 0 (.int .i64 pl)) (fun b off c hb=>vN)) (aw _ (w.heap.size+1+1+1) 1 _) (fun b off c hb=>vN)
 ·unfold jz
  rw[if_neg ae,if_neg (by simp[t1]),if_neg ae,if_neg ae]
 ·rw[HR1.out,HR2.out,eu]; simp[ia]
 ·have:=(R4.out.set (b:=w.heap.size+1+1+1) (o:=0) (v:=.int .i64 pl) ae).set (b:=w.heap.size+1+1+1) (o:=1) (v:=.slice (some ⟨w3.heap.size,0,none⟩) sb.size c3) ae
  rw[eu]
  simpa[ia,List.append_assoc] using this
 ·exact KO.set (KO.set K4.out ae) ae
end Go.Proofs.YtheefojaplnnoaaGreatDoor
