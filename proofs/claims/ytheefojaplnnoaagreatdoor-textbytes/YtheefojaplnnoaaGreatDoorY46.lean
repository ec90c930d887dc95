/-
  Texts Yo Yp.
-/
import Derived.Test.YtheefojaplnnoaaGreatDoorY00
import Derived.Test.YtheefojaplnnoaaGreatDoorY18
import Derived.Test.YtheefojaplnnoaaGreatDoorY45
set_option linter.unusedVariables false
set_option maxRecDepth 100000
set_option maxHeartbeats 16000000
namespace Go.Proofs.YtheefojaplnnoaaGreatDoor
open Go.RowKit
theorem E0(a:Addr)(w:World):(nilAhead 481 146 (.pointer (some a)) "flagon/module.text").run Tryz.prog w=.ok (some false) w:=rfl
theorem AE{w:World}{base:Nat}{e:TypeId}{k n:Nat}{a:Option Addr}{m c:Nat}{xs:List Value}(h:w.ownsRow base e k (.slice a m c) n xs):m=n∧n≤c∧(n=0∨∃b,a=some ⟨b,0,none⟩):=by
 rcases h.2 with ⟨h1,h2⟩ | ⟨g,cp,cur,h1,h2,h3,h4,h5,_⟩
 ·injection h1 with e1 e2 e3
  exact⟨ae,ae,.inl h2⟩
 ·injection h1 with e1 e2 e3
  exact⟨e2,ae,.inr ⟨g,e1⟩⟩
abbrev slI(y:InM):Value:=.slice y.2.2.1.1 y.2.2.1.2.1 y.2.2.1.2.2
def EI(w:World)(y:InM):Prop:=(0≤y.1∧y.1≤255)∧w.ownsRow 0 3 1 (slI y) y.2.2.2.length (y.2.2.2.map (Value.int .i64))
def G9(y:InM)(b:Nat):Prop:=(slI y).ownBlock=some b
theorem C7(y:InM)(w w':World)(S:Nat→Prop)(h:EI w y)(hk:Kept S w w')(hb:∀b,G9 y b→¬S b):EI w' y :=
 ⟨h.1,aA h.2 (fun B hB=>hk.block B (ay h.2 hB) (hb B hB))⟩
theorem Dd(y:InM)(w:World)(b:Nat)(h:EI w y)(hb:G9 y b):b<w.heap.size:=ay h.2 hb
def OwI:Ow InM:=⟨EI,G9,C7,Dd⟩
abbrev ocI(y:InM):List Value:=lh (y.1,y.2.1,y.2.2.1)
abbrev slF(x:FuM):Value:=.slice x.2.2.1.1 x.2.2.1.2.1 x.2.2.1.2.2
def tF(w:World)(x:FuM):Prop:=0≤x.1∧x.2.2.2.length=x.2.2.1.2.1∧w.ownsRow 0 75 3 (slF x) x.2.2.1.2.1 (x.2.2.2.flatMap ocI)∧∀y∈x.2.2.2,EI w y
def vQ(x:FuM)(b:Nat):Prop:=(slF x).ownBlock=some b∨∃y∈x.2.2.2,G9 y b
theorem fQ(y:FuM)(w w':World)(S:Nat→Prop)(h:tF w y)(hk:Kept S w w')(hb:∀b,vQ y b→¬S b):tF w' y :=
 ⟨h.1,h.2.1,aA h.2.2.1 (fun B hB=>hk.block B (ay h.2.2.1 hB) (hb B (.inl hB))),fun z hz=>C7 z w w' S (h.2.2.2 z hz) hk (fun b hb'=>hb b (.inr ⟨z,hz,hb'⟩))⟩
theorem MP(y:FuM)(w:World)(b:Nat)(h:tF w y)(hb:vQ y b):b<w.heap.size:=by
 rcases hb with hb | ⟨z,hz,hb⟩
 ·exact ay h.2.2.1 hb
 ·exact Dd z w b (h.2.2.2 z hz) hb
def OwF:Ow FuM:=⟨tF,vQ,fQ,MP⟩
def ivT(Q:Nat→Prop)(R:Nat)(w:World)(α:Type):Iv Q R w α:=⟨fun _ _=>True,fun _ _=>trivial,fun _ _ _ _ _=>trivial⟩
theorem QW{w:World}{base:Nat}{e:TypeId}{k n b:Nat}{v:Value}{xs:List Value}(h:w.ownsRow base e k v n xs)(hb:v.ownBlock=some b):base≤b:=by
 rcases h.2 with ⟨rfl,_⟩ | ⟨g,cp,cur,rfl,hg,_⟩
 ·simp[Value.ownBlock]at hb
 ·simp[Value.ownBlock]at hb; omega
theorem JW(R:Nat)(A:Option Addr×Nat×Nat)(ds rs:List Int)(most:Int)(Ab:Nat)(w:World)(h:Rr w R A ds rs)(hk:aP w)(hR0:R≠0)(hA:w.cell? ⟨Ab,0,none⟩=some (cR R))(hAR:Ab≠R)(hm:most≤100000) :
  Calls Tryz.prog 194 #[cR R,.slice none 0 0,.int .i64 most,.func (.func 195) #[] #[.pointer (some ⟨Ab,0,none⟩)]] w fun e w'=>Bad R w e w'∨∃(xs:List InM)(aa:Option Addr)(n ac:Nat),e=.returned (.slice aa n ac)∧xs.length=n∧(n:Int)≤most∧aU (fun _ x=>dV x) [] xs=0∧w'.ownsRow 0 75 3 (.slice aa n ac) n (xs.flatMap ocI)∧(∀b,aa=some b→w.heap.size≤b.block)∧(∀y∈xs,EI w' y∧∀b,G9 y b→w.heap.size≤b)∧fE R A ds rs (ax n++xs.flatMap fF) w w':=by
 have hRl:=h.lt
 refine(He OwI (fun k=>k=R) (fun _ x=>dV x) fF R A ds rs most 195 #[.pointer (some ⟨Ab,0,none⟩)] w (ivT _ _ _ _) h rfl (fun k hk=>ae) (fun b off c hb hq=>h.ne b off c hb hq) hm (fun _ _=>rfl) ?_).mono ?_
 ·intro W ys aa j ac ds' rs' hkw hr hyl hjm hfe hrow hab hown _;have hcl:=LP R A ds' rs' aa j ac Ab W hr (hkw.cell hA hAR) (hk.kept hkw ae);refine hcl.mono ?_
  rintro e w' (hb | ⟨c,a,l,v,rfl,c0,c1,hx,ho,hg⟩)
  ·exact .inl hb
  ·obtain⟨va,vn,vc,rfl⟩:=iE ho
   exact .inr ⟨(c,a,(va,vn,vc),l),rfl,hx,⟨⟨c0,c1⟩,jG ho (Nat.zero_le _)⟩,fun b hb=>QW ho hb,trivial,hg⟩
 ·rintro e w' (hb | ⟨ys,aa,n,ac,rfl,hl,hn,hf,hrow,hab,how,hg⟩)
  ·exact .inl hb
  ·exact .inr ⟨ys,aa,n,ac,rfl,hl,hn,hf,hrow,hab,how,hg⟩
def pW(w:World)(R:Nat):World:=((w.alloc (cE (cR R))).alloc (aR 0 ⟨#[]⟩ none 0 0)).alloc (aR 0 ⟨#[]⟩ none 0 0)
theorem zi(w:World)(R:Nat):Below w.heap.size w (pW w R)∧(pW w R).heap.size=w.heap.size+1+1+1 ∧
  (pW w R).cell? ⟨w.heap.size,0,none⟩=some (cR R)∧(pW w R).heap[w.heap.size+1]? =some (aR 0 ⟨#[]⟩ none 0 0) ∧
  (pW w R).heap[w.heap.size+1+1]? =some (aR 0 ⟨#[]⟩ none 0 0):=by
 unfold pW;refine⟨(((Below.refl _ w).alloc (Nat.le_refl _) _).alloc ar _).alloc bu _,ar,cg,?_,?_⟩
 ·rw[(ag ((w.alloc (cE (cR R))).alloc (aR 0 ⟨#[]⟩ none 0 0)) _).block (w.heap.size+1) ar]
  have:=(MapKept.heap_alloc (w.alloc (cE (cR R))) (aR 0 ⟨#[]⟩ none 0 0)).1
  exact bJ
 ·have:=(MapKept.heap_alloc ((w.alloc (cE (cR R))).alloc (aR 0 ⟨#[]⟩ none 0 0)) (aR 0 ⟨#[]⟩ none 0 0)).1
  exact bJ
theorem NQ(R:Nat)(A:Option Addr×Nat×Nat)(ds rs:List Int)(sa:Option Addr)(sn sc:Nat)(sg:List Sg)(left:Int)(w:World)(h:Rr w R A ds rs)(hk:aP w)(hR0:R≠0)(hs:sn≤100000)(hsg:b9 w sa sn sg)(hne:∀b off c,sa=some ⟨b,off,c⟩→b≠R)(hp8:∀(t:Nat)p r,sg[t]? =some (p,r)→p.size≤8) :
  Calls Tryz.prog 143 #[cR R,.agg #[.int .i64 0,.string ⟨#[]⟩,.slice none 0 0],.slice sa sn sc,.int .i64 left] w fun e w'=>Bad R w e w'∨∃x:FuM,e=.returned (.agg #[.int .i64 x.1,.string x.2.1,slF x])∧fp sg left x.1 x.2.1 x.2.2.2=0∧tF w' x∧(∀b,vQ x b→w.heap.size≤b)∧fE R A ds rs (iI x.1 x.2.1 x.2.2.2) w w':=by
 obtain⟨B0,z0,x0,x1,x2⟩:=zi w R;have HW:((w.alloc (cE (cR R))).alloc (aR 0 ⟨#[]⟩ none 0 0)).alloc (aR 0 ⟨#[]⟩ none 0 0)=pW w R:=rfl;have hRl:=h.lt;have hlen:=hsg.1;generalize pW w R=W1 at *;have HX:=hid (pE R A ds rs 0 sn W1 (h.later B0) ae ae);have BW:=hid B0;have HSG:=hid (hsg.later B0);have HK1:=hid (hk.later B0 hk.pos);obtain⟨a0,a1,a2,_,_,_⟩:=aB x1;have hmt:=jT;have hct:=oP;have hnt:=E0;have HP8:=hid hp8;have HNE:=hid hne;clear h B0 hsg hk hp8 hne
 go_enter Tryz.func143,Tryz.ntmps143
 go_wp2_with fail;refine HX.out.mono ?_
 rintro e w2 (⟨⟨y,p,hy,rfl⟩,hkb⟩ | ⟨v,rfl,v0,v1,rs1,hrs1,hr2,hk2⟩)
 ·exact⟨rfl,.inl ⟨⟨y,p,hy,rfl⟩,(KO.of_below BW.out).trans hkb⟩⟩
 obtain⟨t,rfl⟩:=Int.eq_ofNat_of_zero_le v0;obtain⟨p,r,hp⟩:∃p r,sg[t]? =some (p,r):=⟨_,_,aO ae⟩;have hps:=HP8.out t p r hp
 have hsg2:=HSG.out.kept hk2 (fun b off c hb=>HNE.out b off c hb)
 obtain⟨sb,so,hsa,hsc⟩:∃b off,sa=some ⟨b,off,none⟩∧∀j x,sg[j]? =some x→w2.cell? ⟨b,off+j*2,none⟩=some (.string x.1)∧w2.cell? ⟨b,off+j*2+1,none⟩=some (.string x.2):=by
  rcases hsg2.2.2 with h0 | h
  ·omega
  ·exact h
 have hsbn:=HNE.out sb so none hsa;subst hsa;have ys:=(hsc t (p,r) hp).1
 simp only at ys
 have y0:=hk2.cell x0 ae;have y1:=(KO.block hk2 (b:=w.heap.size+1) ae ae).trans x1;have y2:=(KO.block hk2 (b:=w.heap.size+1+1) ae ae).trans x2;obtain⟨b0,b1,b2,_,_,_⟩:=aB y1;have K2:=hid ((KO.of_below BW.out).trans hk2);have HK2:=hid (HK1.out.kept hk2 ae);have R2:=hid hr2;have HR1:=hid hrs1
 have zw:w.heap.size+1+1<w2.heap.size:=by have:=hk2.size; omega
 have HSC:=hid (ud hp);have hsub:=i64_in (64-(p.size:Int)) ae ae;have hsub2:wrap64 (64-(p.size:Int))=64-p.size:=dv;have hbl:=block_lt_of_cell ys
 have HT1:=hid (show t<sg.length by omega)
 have htn:t<sn:=ae;clear hr2 hk2 HX x0 x1 x2 a0 a1 a2 HW hsg2 hsc hrs1 hp z0 hlen v0 v1;go_wp2_with fail
 have HTX:=hid (oQ R A (ds++ax (t:Int)) rs1 ⟨#[]⟩ (64-p.size) 183 #[] (fun s=>bO s 256=true) w2.drew (R2.out.later (Below.refl _ _).drew) ae (fun _ _=>rfl) (fun s W _ hs _=>Ca s _ W hs))
 refine wp_region_held_drew (S:=(fun W=>W.cell? ⟨w.heap.size,0,none⟩=some (cR R)∧W.cell? ⟨w.heap.size+1,1,none⟩=some (.string ⟨#[]⟩)∧W.cell? ⟨sb,so+t*2,none⟩=some (.string p))) ai ⟨y0,b1,ys⟩ (fun hHeld=>?_)
 refine tkC (i:=0) rfl ?_;(try simp only[Act.put,sIB]);refine tkC (i:=1) rfl ?_;(try simp only[Act.put]);refine tkC (i:=2) rfl ?_;(try simp only[Act.put]);refine tkC (i:=3) rfl ?_;(try simp only[Act.put]);refine tkC (i:=4) rfl ?_;(try simp only[Act.put]);refine tkC (i:=5) rfl ?_;(try simp only[Act.put]);refine tkC (i:=6) rfl ?_;(try simp only[Act.put]);refine tkC (i:=7) rfl ?_;(try simp only[Act.put]);refine tkC (i:=8) rfl ?_;(try simp only[Act.put]);refine tkC (i:=9) rfl ?_;(try simp only[Act.put]);refine tkC (i:=10) rfl ?_;(try simp only[Act.put]);refine rdY (rs:=[11]) ?_
 refine AllReadyH.cons rfl (fun K hK=>?_) rN
 go_simp
 refine hK.out _ _ hHeld (fun hHeld2=>?_)
 clear hK K;refine tkC (i:=12) rfl ?_;(try simp only[Act.put,sIB]);refine rdY (rs:=[13]) ?_
 refine AllReadyH.cons rfl (fun K hK=>?_) rN
 go_simp;refine HTX.out.mono ?_
 rintro e w3 (⟨⟨y,q,hy,rfl⟩,hkb⟩ | ⟨lo,rfl,s1,-,l1,rs2,hrs2,hr3,hk3⟩)
 ·exact⟨rfl,.inl ⟨⟨y,q,hy,rfl⟩,(K2.out.trans (KO.of_below (Below.refl _ _).drew)).trans hkb⟩⟩
 have q0:=KO.cell hk3 (b:=w.heap.size) y0 ae;have q1:=(KO.block hk3 (b:=w.heap.size+1) aI ae).trans y1;have q2:=(KO.block hk3 (b:=w.heap.size+1+1) aI ae).trans y2;have qs:=KO.cell hk3 (b:=sb) ys hsbn;obtain⟨e0,e1,e2,_,_,_⟩:=aB q1;have z3:w2.heap.size≤w3.heap.size:=hk3.size;have R3:=hid hr3;have K3:=hid ((K2.out.trans (KO.of_below (Below.refl _ _).drew)).trans hk3);have HK3:=hid ((HK2.out.later (Below.refl _ _).drew HK2.out.pos).kept hk3 ae);have HR2:=hid hrs2
 refine hK.out _ _ ⟨q0,e1,qs⟩ (fun hHeld3=>?_)
 clear hK K hr3 hk3 hrs2;refine tkC (i:=14) rfl ?_;(try simp only[Act.put,sIB]);refine wpAnyH_done ai ?_ _;clear hHeld hHeld2 hHeld3 y0 y1 y2 ys b0 b1 b2 HTX hsub hsub2;have HL:=hid (JW R A (ds++ax (t:Int)++ia lo) rs2 (min 2048 left) w.heap.size w3 R3.out HK3.out hR0 q0 ae ae);go_wp2_with fail;refine HL.out.mono ?_
 rintro e w4 (⟨⟨y,q,hy,rfl⟩,hkb⟩ | ⟨xs,aa,n,ac,rfl,hxl,hn,hfe,hrow,hab,how,rs3,hrs3,hr4,hk4⟩)
 ·exact⟨rfl,.inl ⟨⟨y,q,hy,rfl⟩,K3.out.trans hkb⟩⟩
 have f2:=(KO.block hk4 (b:=w.heap.size+1+1) ae ae).trans q2;obtain⟨k0,k1,k2,k3,k4,k5⟩:=aB f2;have hlf:=aJ f2;have R4:=hid hr4;have K4:=hid (K3.out.trans hk4);have HR3:=hid hrs3
 have HO:=hid (show tF w4 ((t:Int),lo,(aa,n,ac),xs) from⟨ae,hxl,hrow,fun y hy=>(how y hy).1⟩)
 have HB:=hid (show ∀b,vQ ((t:Int),lo,(aa,n,ac),xs) b→w3.heap.size≤b from fun b hb=>by
  rcases hb with hb | ⟨y,hy,hb⟩
  ·obtain⟨a,h1,h2⟩:=dF hb
   have:=hab a h1; omega
  ·exact(how y hy).2 b hb)
 have HF:=hid hfe;have HN:=hid hn;clear hr4 hk4 HL q0 q1 q2 qs e0 e1 e2 hrs3 hrow hab how hfe hn f2;go_wp2_with fail;refine bodyPost_ret (v:=.agg #[.int .i64 t,.string lo,.slice aa n ac]) ?_ rfl (.inr ⟨((t:Int),lo,(aa,n,ac),xs),rfl,?_,?_,?_,rs3,?_,?_,?_⟩)
 ·exact cu
 ·have h1:=HT1.out;have h2:=HN.out;have h3:=HSC.out;unfold fp;dsimp only;rw[if_neg ae,h3,if_neg ae,dH lo 64 256 ae ae,l1,if_neg ar,if_neg ae];exact HF.out
 ·have hb:=HB.out
  exact fQ _ _ _ _ (fQ _ _ _ _ (fQ _ _ _ _ HO.out (aw w4 (w.heap.size+1+1) 0 _) (fun b hb'=>nH)) (aw _ (w.heap.size+1+1) 1 _) (fun b hb'=>nH)) (aw _ (w.heap.size+1+1) 2 _) (fun b hb'=>nH)
 ·intro b hb
  have:=HB.out b hb
  omega
 ·rw[HR1.out,HR2.out,HR3.out]; simp[iI,hxl]
 ·have:=((R4.out.set (b:=w.heap.size+1+1) (o:=0) (v:=.int .i64 t) ae).set (b:=w.heap.size+1+1) (o:=1) (v:=.string lo) ae).set (b:=w.heap.size+1+1) (o:=2) (v:=.slice aa n ac) ae
  simpa[iI,hxl,List.append_assoc] using this
 ·exact KO.set (KO.set (KO.set K4.out ae) ae) ae
def OwT(α:Type):Ow α:=⟨fun _ _=>True,fun _ _=>False,fun _ _ _ _ _ _ _=>trivial,fun _ _ _ _ h=>h.elim⟩
def OwG:Ow Gl:=⟨fun _ y=>0≤y.1∧y.1≤255∧0≤y.2.2∧y.2.2<18446744073709551616,fun _ _=>False,fun _ _ _ _ h _ _=>h,fun _ _ _ _ h=>h.elim⟩
def AK(w:World)(x:DaM):Prop:=Seg w x.2.1.1 x.2.1.2.1 x.2.1.2.2 x.2.2∧∃B,x.2.1.1=some ⟨B,0,none⟩∧B<w.heap.size
def yA(x:DaM)(b:Nat):Prop:=x.2.1.1=some ⟨b,0,none⟩
theorem qI(y:DaM)(w w':World)(S:Nat→Prop)(h:AK w y)(hk:Kept S w w')(hb:∀b,yA y b→¬S b):AK w' y:=by
 obtain⟨h1,B,h2,h3⟩:=h
 refine⟨gT h1 hk (fun b off c hb'=>?_),B,h2,Nat.lt_of_lt_of_le h3 hk.size⟩
 rw[h2]at hb'
 simp at hb'
 rw[← hb'.1];exact hb B h2
theorem M9(y:DaM)(w:World)(b:Nat)(h:AK w y)(hb:yA y b):b<w.heap.size:=by
 obtain⟨h1,B,h2,h3⟩:=h;rw[yA,h2]at hb
 simp at hb
 omega
def OwD:Ow DaM:=⟨AK,yA,qI,M9⟩
theorem rK{α:Type}{f:List α→α→Int}{most:Int}{xs:List α}{n:Nat}(hl:xs.length=n)(hn:(n:Int)≤most)(h:aU f [] xs=0):bB f most xs=0:=by
 unfold bB;rw[if_neg ae];exact h
section
variable (R:Nat) (A:Option Addr×Nat×Nat) (ds rs:List Int) (Ab:Nat) (w:World)
theorem Pw(h:Rr w R A ds rs)(hA:w.cell? ⟨Ab,0,none⟩=some (cR R))(hAR:Ab≠R) :
  Calls Tryz.prog 131 #[cR R,.slice none 0 0,.int .i64 64,.func (.func 132) #[] #[.pointer (some ⟨Ab,0,none⟩)]] w fun e w'=>Bad R w e w'∨∃(ys:List Sg)(aa:Option Addr)(n ac:Nat),e=.returned (.slice aa n ac)∧ys.length=n∧bB cQ 64 ys=0∧w'.ownsRow 0 73 2 (.slice aa n ac) n (ys.flatMap eP)∧(∀b,aa=some b→w.heap.size≤b.block)∧fE R A ds rs (ax n++ys.flatMap bK) w w':=by
 have hRl:=h.lt
 refine(JY (OwT _) (fun k=>k=R) cQ bK R A ds rs 64 132 #[.pointer (some ⟨Ab,0,none⟩)] w (ivT _ _ _ _) h rfl (fun k hk=>ae) (fun b off c hb hq=>h.ne b off c hb hq) aj (fun _ _=>rfl) ?_).mono ?_
 ·intro W ys aa j ac ds' rs' hkw hr hyl hjm hfe hrow hab hown _
  have hne:∀b off c,aa=some ⟨b,off,c⟩→b≠R:=fun b off c hb=>by have:=hab _ hb; simp only at this; omega
  refine(ML R A ds' rs' aa j ac Ab ys W hr (hkw.cell hA hAR) (lA hyl ae hrow) hne).mono ?_;exact DW
 ·exact vB
theorem Qv(O:Nat)(ta:Option Addr)(tn tc:Nat)(h:Rr w R A ds rs)(hA:w.cell? ⟨Ab,0,none⟩=some (cR R))(hAR:Ab≠R)(hO:w.cell? ⟨O,0,none⟩=some (.slice ta tn tc))(hOR:O≠R)(ht:tn≤100000) :
  Calls Tryz.prog 134 #[cR R,.slice none 0 0,.int .i64 32,.func (.func 135) #[] #[.pointer (some ⟨Ab,0,none⟩),.pointer (some ⟨O,0,none⟩)]] w fun e w'=>Bad R w e w'∨∃(ys:List Int)(aa:Option Addr)(n ac:Nat),e=.returned (.slice aa n ac)∧ys.length=n∧bB (fun(_:List Int) x=>dw tn x) 32 ys=0∧w'.ownsRow 0 3 1 (.slice aa n ac) n (ys.flatMap jA)∧(∀b,aa=some b→w.heap.size≤b.block)∧fE R A ds rs (ax n++ys.flatMap (fun x=>ax x)) w w':=by
 have hRl:=h.lt
 refine(Jb (OwT _) (fun k=>k=R) (fun _ x=>dw tn x) (fun x=>ax x) R A ds rs 32 135 #[.pointer (some ⟨Ab,0,none⟩),.pointer (some ⟨O,0,none⟩)] w (ivT _ _ _ _) h rfl (fun k hk=>ae) (fun b off c hb hq=>h.ne b off c hb hq) aj (fun _ _=>rfl) ?_).mono ?_
 ·intro W ys aa j ac ds' rs' hkw hr hyl hjm hfe hrow hab hown _;refine(NV R A ds' rs' 0 aa j ac Ab O ta tn tc W hr (hkw.cell hA hAR) (hkw.cell hO hOR) ht).mono ?_
  rintro e w' (hb | ⟨x,rfl,h0,h1,hg⟩)
  ·exact .inl hb
  ·exact .inr ⟨x,rfl,by unfold dw; rw[if_neg ae],trivial,fun b hb=>hb.elim,trivial,hg⟩
 ·exact vB
theorem Ht(h:Rr w R A ds rs)(hA:w.cell? ⟨Ab,0,none⟩=some (cR R))(hAR:Ab≠R) :
  Calls Tryz.prog 137 #[cR R,.slice none 0 0,.int .i64 64,.func (.func 138) #[] #[.pointer (some ⟨Ab,0,none⟩)]] w fun e w'=>Bad R w e w'∨∃(ys:List Gl)(aa:Option Addr)(n ac:Nat),e=.returned (.slice aa n ac)∧ys.length=n∧bB (fun(_:List Gl) x=>gH x) 64 ys=0∧w'.ownsRow 0 102 3 (.slice aa n ac) n (ys.flatMap jL)∧(∀b,aa=some b→w.heap.size≤b.block)∧(∀y∈ys,0≤y.1∧y.1≤255∧0≤y.2.2∧y.2.2<18446744073709551616)∧fE R A ds rs (ax n++ys.flatMap cT) w w':=by
 have hRl:=h.lt
 refine(Ib OwG (fun k=>k=R) (fun _ x=>gH x) cT R A ds rs 64 138 #[.pointer (some ⟨Ab,0,none⟩)] w (ivT _ _ _ _) h rfl (fun k hk=>ae) (fun b off c hb hq=>h.ne b off c hb hq) aj (fun _ _=>rfl) ?_).mono ?_
 ·intro W ys aa j ac ds' rs' hkw hr hyl hjm hfe hrow hab hown _;refine(M8 R A ds' rs' aa j ac Ab W hr (hkw.cell hA hAR)).mono ?_
  rintro e w' (hb | ⟨x,rfl,hx,h0,h1,h2,h3,hg⟩)
  ·exact .inl hb
  ·exact .inr ⟨x,rfl,hx,⟨h0,h1,h2,h3⟩,fun b hb=>hb.elim,trivial,hg⟩
 ·rintro e w' (hb | ⟨ys,aa,n,ac,rfl,hl,hn,hf,hrow,hab,how,hg⟩)
  ·exact .inl hb
  ·exact .inr ⟨ys,aa,n,ac,rfl,hl,rK hl hn hf,hrow,hab,fun y hy=>(how y hy).1,hg⟩
theorem PW(ys:List DaM):ys.flatMap (fun y=>eX (y.1,y.2.1))=(ys.map (fun y=>(y.1,y.2.1))).flatMap eX:=by
 rw[List.flatMap_map]
theorem GP(ys:List DaM)(h:∀y∈ys,y.2.1.2.1=y.2.2.length)(v:Int):eU (ys.map (fun y=>(y.1,y.2.1))) v=iO ys v:=by
 unfold eU iO;rw[List.getLast?_map]
 cases hl:ys.getLast? with
 | none=>rfl
 | some y =>
  have hy:=h y (List.mem_of_getLast? hl)
  simp[hy]
theorem Qw(O:Nat)(fi:Int)(h:Rr w R A ds rs)(hA:w.cell? ⟨Ab,0,none⟩=some (cR R))(hAR:Ab≠R)(hO:w.cell? ⟨O,3,none⟩=some (.int .i64 fi))(hOR:O≠R)(hf0:0≤fi)(hf1:fi≤64) :
  Calls Tryz.prog 144 #[cR R,.slice none 0 0,.int .i64 64,.func (.func 145) #[] #[.pointer (some ⟨Ab,0,none⟩),.pointer (some ⟨O,0,none⟩)]] w fun e w'=>Bad R w e w'∨∃(ys:List DaM)(aa:Option Addr)(n ac:Nat),e=.returned (.slice aa n ac)∧ys.length=n∧bB (fun(ah:List DaM) x=>cX (fi*4096) ah x) 64 ys=0∧w'.ownsRow 0 81 2 (.slice aa n ac) n (ys.flatMap (fun y=>eX (y.1,y.2.1)))∧(∀b,aa=some b→w.heap.size≤b.block)∧(∀y∈ys,AK w' y∧∀b,yA y b→w.heap.size≤b)∧fE R A ds rs (ax n++ys.flatMap cN) w w':=by
 have hRl:=h.lt
 refine(Iy OwD (fun k=>k=R) (fun ah x=>cX (fi*4096) ah x) cN R A ds rs 64 145 #[.pointer (some ⟨Ab,0,none⟩),.pointer (some ⟨O,0,none⟩)] w (ivT _ _ _ _) h rfl (fun k hk=>ae) (fun b off c hb hq=>h.ne b off c hb hq) aj (fun _ _=>rfl) ?_).mono ?_
 ·intro W ys aa j ac ds' rs' hkw hr hyl hjm hfe hrow hab hown _
  have hln:∀y∈ys,y.2.1.2.1=y.2.2.length:=fun y hy=>(hown y hy).1.1.symm
  have hcs:∀y∈ys,0≤y.1∧y.1≤fi*4096∧(y.2.2.length:Int)≤fi*4096:=fun y hy=>by
   obtain⟨i,hi⟩:=List.getElem?_of_mem hy
   have:=bp _ ys [] hfe i y hi
   simp only[List.nil_append]at this
   unfold cX at this
   split at this
   ·cases this
   ·split at this
    ·cases this
    ·split at this
     ·cases this
     ·omega
  rw[PW]at hrow
  refine(LF R A ds' rs' aa j ac Ab O fi (ys.map (fun y=>(y.1,y.2.1))) W hr (hkw.cell hA hAR) (hkw.cell hO hOR) hf0 hf1 (by simpa using hyl) ae (fun y' hy'=>?_) hrow (fun b hb=>by have:=hab b hb; omega)).mono ?_
  ·obtain⟨y,hy,rfl⟩:=List.mem_map.1 hy';have h1:=hcs y hy;have h2:=hln y hy;dsimp only;omega
  rintro e w' (hb | ⟨pl,B,n,c,zs,rfl,hB,hsg,hp0,hx,hzn,hg⟩)
  ·exact .inl hb
  ·refine .inr ⟨(pl,(some ⟨B,0,none⟩,n,c),zs),rfl,?_,⟨hsg,B,rfl,?_⟩,fun b hb=>?_,trivial,hg⟩
   ·unfold jz at hx;rw[GP ys hln]at hx;unfold cX;dsimp only;rw[hzn];exact hx
   ·have hn0:n≠0:=by
     intro h0;subst h0;unfold jz at hx
     split at hx
     ·cases hx
     ·split at hx
      ·cases hx
      ·split at hx
       ·cases hx
       ·simp at hx
    rcases hsg.2.2.2.2 with h0 | ⟨b,off,hb,hc⟩
    ·exact absurd h0 hn0
    ·simp at hb
     have:=block_lt_of_cell (hc 0 ae)
     simp only at this
     omega
   ·simp[OwD,yA]at hb
    omega
 ·exact KE
theorem Kp(O:Nat)(fa:Option Addr)(fn fc:Nat)(h:Rr w R A ds rs)(hA:w.cell? ⟨Ab,0,none⟩=some (cR R))(hAR:Ab≠R)(hO:w.cell? ⟨O,5,none⟩=some (.slice fa fn fc))(hOR:O≠R)(hfn:fn≤100000) :
  Calls Tryz.prog 147 #[cR R,.slice none 0 0,.int .i64 64,.func (.func 148) #[] #[.pointer (some ⟨Ab,0,none⟩),.pointer (some ⟨O,0,none⟩)]] w fun e w'=>Bad R w e w'∨∃(ys:List Ex)(aa:Option Addr)(n ac:Nat),e=.returned (.slice aa n ac)∧ys.length=n∧bB (fun(ah:List Ex) x=>fk fn ah x) 64 ys=0∧w'.ownsRow 0 83 2 (.slice aa n ac) n (ys.flatMap fM)∧(∀b,aa=some b→w.heap.size≤b.block)∧fE R A ds rs (ax n++ys.flatMap eA) w w':=by
 have hRl:=h.lt
 refine(KP (OwT _) (fun k=>k=R) (fun ah x=>fk fn ah x) eA R A ds rs 64 148 #[.pointer (some ⟨Ab,0,none⟩),.pointer (some ⟨O,0,none⟩)] w (ivT _ _ _ _) h rfl (fun k hk=>ae) (fun b off c hb hq=>h.ne b off c hb hq) aj (fun _ _=>rfl) ?_).mono ?_
 ·intro W ys aa j ac ds' rs' hkw hr hyl hjm hfe hrow hab hown _
  refine(LY R A ds' rs' aa j ac Ab O fa fn fc ys W hr (hkw.cell hA hAR) (hkw.cell hO hOR) hfn hyl ae hrow (fun b hb=>by have:=hab b hb; omega)).mono ?_
  exact DW
 ·exact vB
end
abbrev QL(R L:Nat):Nat→Prop:=fun k=>k=R∨k=L
theorem My(R:Nat)(A:Option Addr×Nat×Nat)(ds rs:List Int)(aa:Option Addr)(an ac:Nat)(Ab O L:Nat)(ta:Option Addr)(tn tc:Nat)(sg:List Sg)(left:Int)(w:World)(h:Rr w R A ds rs)(hk:aP w)(hR0:R≠0)(hA:w.cell? ⟨Ab,0,none⟩=some (cR R))(hO:w.cell? ⟨O,0,none⟩=some (.slice ta tn tc))(hL:LAt w L left)(hLR:L≠R)(hLA:∀b off c,A.1=some ⟨b,off,c⟩→b≠L)(hs:tn≤100000)(hsg:b9 w ta tn sg)(hne:∀b off c,ta=some ⟨b,off,c⟩→b≠R)(hp8:∀(t:Nat)p r,sg[t]? =some (p,r)→p.size≤8)(hl1:left≤100000) :
  Calls Tryz.prog 142 #[.agg #[.int .i64 0,.string ⟨#[]⟩,.slice none 0 0],.slice aa an ac,.pointer (some ⟨Ab,0,none⟩),.pointer (some ⟨O,0,none⟩),.pointer (some ⟨L,0,none⟩)] w fun e w'=>kP (QL R L) w e w'∨∃x:FuM,e=.returned (.agg #[.int .i64 x.1,.string x.2.1,slF x])∧fp sg left x.1 x.2.1 x.2.2.2=0∧tF w' x∧(∀b,vQ x b→w.heap.size≤b)∧LAt w' L (left-x.2.2.2.length)∧gM (QL R L) R A ds rs (iI x.1 x.2.1 x.2.2.2) w w':=by
 obtain⟨B0,z0,x0,x1⟩:=dL w (aR 0 ⟨#[]⟩ none 0 0) (aR 0 ⟨#[]⟩ none 0 0);have hRl:=h.lt;have hLl:=hL.lt;have hA1:=(B0.cell eH).trans hA;have hO1:=(B0.cell (p:=⟨O,0,none⟩) j6).trans hO
 have hL1:=(B0.cell (p:=⟨L,0,none⟩) (by exact hLl)).trans hL.c
 have hLf1:=(B0.frozen (p:=⟨L,0,none⟩) (by exact hLl)).trans hL.f
 have HC:=hid (NQ R A ds rs ta tn tc sg left _ (h.later B0) (hk.later B0 hk.pos) hR0 hs (hsg.later B0) hne hp8);obtain⟨W1,hW1⟩:∃W1,(w.alloc (aR 0 ⟨#[]⟩ none 0 0)).alloc (aR 0 ⟨#[]⟩ none 0 0)=W1:=⟨_,rfl⟩;rw[hW1]at B0 z0 x0 x1 hA1 HC hO1 hL1 hLf1;have BW:=hid B0;obtain⟨a0,a1,a2,_,_,_⟩:=aB x0;clear h B0 hA hO hL hk hsg
 go_enter Tryz.func142,Tryz.ntmps142
 go_wp2_with fail;refine HC.out.mono ?_
 rintro e w5 (⟨⟨y,p,hy,rfl⟩,hkb⟩ | ⟨⟨ty,lo,⟨fa,fn,fc⟩,xs⟩,rfl,hchk,hown,hblk,rs',hrs,hr5,hk5⟩)
 ·exact⟨rfl,.inl ⟨⟨y,p,hy,rfl⟩,((KO.of_below BW.out).trans hkb).mono (fun k hk=>.inl hk)⟩⟩
 dsimp only at *;have hxl:xs.length=fn:=hown.2.1;have hle:=(pQ hchk).2.1;have hsub:wrap64 (left-(fn:Int))=left-fn:=dv;have q1:=(KO.block hk5 (b:=w.heap.size+1) ae ae).trans x1;have l1:=KO.cell hk5 (b:=L) hL1 hLR;have l2:=(aC (KO.block hk5 (b:=L) ae hLR) 0).trans hLf1;have z5:=hk5.size;have R5:=hid hr5;have K5:=hid ((KO.of_below BW.out).trans hk5);have BN:=hid (ag w5 (aR ty lo fa fn fc));have q2:=(BN.out.block (w.heap.size+1) ae).trans q1;have l3:=(BN.out.cell (p:=⟨L,0,none⟩) wQ).trans l1;have l4:=(BN.out.frozen (p:=⟨L,0,none⟩) wQ).trans l2;have nb:=(MapKept.heap_alloc w5 (aR ty lo fa fn fc)).1;obtain⟨k0,k1,k2,k3,k4,k5⟩:=aB q2;obtain⟨j0,j1,j2,_,_,_⟩:=aB nb
 have HO:=hid (fQ _ _ _ (fun _=>False) hown (aN BN.out) (fun _ _=>id))
 have HB:=hid hblk;have HCK:=hid hchk;have HRS:=hid hrs;have HXL:=hid hxl;have hz6:(w5.alloc (aR ty lo fa fn fc)).heap.size=w5.heap.size+1:=ar;clear hr5 hk5 x0 x1 q1 HC hL1 hLf1 l1 l2 hown hblk hchk hrs hxl hle;go_wp2_with fail;refine bodyPost_ret (v:=.agg #[.int .i64 ty,.string lo,.slice fa fn fc]) ?_ rfl (.inr ⟨(ty,lo,(fa,fn,fc),xs),rfl,HCK.out,?_,?_,⟨?_,?_⟩,rs',HRS.out,?_,?_⟩)
 ·exact cu
 ·have hb:=HB.out
  exact fQ _ _ _ _ (fQ _ _ _ _ (fQ _ _ _ _ (fQ _ _ _ _ HO.out (aw _ L 0 _) (fun b hb'=>nH)) (aw _ (w.heap.size+1) 0 _) (fun b hb'=>nH)) (aw _ (w.heap.size+1) 1 _) (fun b hb'=>nH)) (aw _ (w.heap.size+1) 2 _) (fun b hb'=>nH)
 ·intro b hb
  have:=HB.out b hb
  omega
 ·rw[World.cell?_setCell_other _ _ _ _ bu,World.cell?_setCell_other _ _ _ _ bu,World.cell?_setCell_other _ _ _ _ bu];dsimp only;rw[HXL.out];exact World.cell?_setCell_same _ _ _ l3
 ·simp only[World.frozen?_setCell]
  exact l4
 ·have r1:=(R5.out.later BN.out).kept (aw _ L 0 (.int .i64 (left-fn))) (Ne.symm hLR) (fun b off c hb=>hLA b off c hb)
  exact((r1.set (b:=w.heap.size+1) ae).set (b:=w.heap.size+1) ae).set (b:=w.heap.size+1) ae
 ·have hk:=(K5.out.mono (T:=QL R L) (fun k hk=>.inl hk)).trans (aN BN.out)
  have hk2:=hk.then (aw _ L 0 (.int .i64 (left-fn))) (fun k _ h=>.inr h)
  exact Gu
def ivL(R L:Nat)(w:World)(h:LAt w L 16384)(hLR:L≠R):Iv (QL R L) R w FuM where
 inv W ys:=LAt W L (16384-bG ys)
 i0 W hk:=by
  have:=hk.cell h.c hLR
  exact⟨by simpa[bG] using this,(aC (hk.block L h.lt hLR) 0).trans h.f⟩
 ik W W' ys hi hb:=by
  have hb':=hb L (.inr rfl) hLR;exact⟨(cell_of_block hb' 0).trans hi.c,(aC hb' 0).trans hi.f⟩
theorem SD(R:Nat)(A:Option Addr×Nat×Nat)(ds rs:List Int)(Ab O L:Nat)(ta:Option Addr)(tn tc:Nat)(sg:List Sg)(w:World)(h:Rr w R A ds rs)(hk:aP w)(hR0:R≠0)(hL0:L≠0)(hA:w.cell? ⟨Ab,0,none⟩=some (cR R))(hAR:Ab≠R)(hAL:Ab≠L)(hO:w.cell? ⟨O,0,none⟩=some (.slice ta tn tc))(hOR:O≠R)(hOL:O≠L)(hL:LAt w L 16384)(hLR:L≠R)(hLA:∀b off c,A.1=some ⟨b,off,c⟩→b≠L)(hs:tn≤100000)(hsg:b9 w ta tn sg)(hne:∀b off c,ta=some ⟨b,off,c⟩→b≠R∧b≠L)(hp8:∀(t:Nat)p r,sg[t]? =some (p,r)→p.size≤8) :
  Calls Tryz.prog 141 #[cR R,.slice none 0 0,.int .i64 128,.func (.func 142) #[] #[.pointer (some ⟨Ab,0,none⟩),.pointer (some ⟨O,0,none⟩),.pointer (some ⟨L,0,none⟩)]] w fun e w'=>kP (QL R L) w e w'∨∃(ys:List FuM)(aa:Option Addr)(n ac:Nat),e=.returned (.slice aa n ac)∧ys.length=n∧bB (fH sg) 128 ys=0∧w'.ownsRow 0 78 3 (.slice aa n ac) n (ys.flatMap (fun y=>iA (y.1,y.2.1,y.2.2.1)))∧(∀b,aa=some b→w.heap.size≤b.block)∧(∀y∈ys,tF w' y∧∀b,vQ y b→w.heap.size≤b)∧gM (QL R L) R A ds rs (ax n++ys.flatMap cK) w w':=by
 have hRl:=h.lt;have hLl:=hL.lt
 refine(Iz OwF (QL R L) (fH sg) cK R A ds rs 128 142 #[.pointer (some ⟨Ab,0,none⟩),.pointer (some ⟨O,0,none⟩),.pointer (some ⟨L,0,none⟩)] w (ivL R L w hL hLR) h (.inl rfl) (fun k hk=>by rcases hk with rfl | rfl <;> assumption) (fun b off c hb hq=>by rcases hq with hq | hq; exact h.ne b off c hb hq; exact hLA b off c hb hq) aj (fun _ _=>rfl) ?_).mono ?_
 ·intro W ys aa j ac ds' rs' hkw hr hyl hjm hfe hrow hab hown hinv;have hsum:(bG ys:Int) ≥ 0:=ae
  refine(My R A ds' rs' aa j ac Ab O L ta tn tc sg (16384-bG ys) W hr (hk.kept hkw ae) hR0 (hkw.cell hA ae) (hkw.cell hO ae) hinv hLR hLA hs (hsg.kept hkw (fun b off c hb=>by have:=hne b off c hb; omega)) (fun b off c hb=>(hne b off c hb).1) hp8 ae).mono ?_
  rintro e w' (hb | ⟨x,rfl,hx,ho,hb,hl,hg⟩)
  ·exact .inl hb
  ·refine .inr ⟨x,rfl,hx,ho,hb,?_,hg⟩
   show LAt w' L (16384-(bG (ys++[x]):Int))
   have e1:(16384-(bG (ys++[x]):Int))=16384-bG ys-x.2.2.2.length:=by
    simp[bG]; omega
   rw[e1];exact hl
 ·exact KE
end Go.Proofs.YtheefojaplnnoaaGreatDoor
