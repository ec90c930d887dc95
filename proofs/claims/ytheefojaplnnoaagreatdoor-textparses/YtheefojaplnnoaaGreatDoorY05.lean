/-
  Texts Wf Wq Sa Sb Lex We.
-/
import Derived.Test.YtheefojaplnnoaaGreatDoorY04
set_option linter.unusedVariables false
set_option maxRecDepth 100000
set_option maxHeartbeats 16000000
namespace Go.Proofs.YtheefojaplnnoaaGreatDoor
open Go.Proofs.Tryz
open Go.RowKit
theorem uD(a:Addr)(w:World):(nilAhead 481 150 (.pointer (some a)) "flagon/module.text").run prog w=.ok (some false) w:=rfl
abbrev SLv:=Option Addr×Nat×Nat
abbrev InM:=Int×Int×SLv×List Int
def qb(w:World)(R:Nat)(ty:Int)(lo:BAz)(ca:OAz)(cn cc:Nat):World :=
 ((w.alloc (gy (cW R))).alloc (aN ty lo ca cn cc)).alloc (aN 0 ⟨#[]⟩ none 0 0)
theorem lR(w:World)(R:Nat)(ty:Int)(lo:BAz)(ca:OAz)(cn cc:Nat):Zx w (qb w R ty lo ca cn cc)/\(qb w R ty lo ca cn cc).heap.size=w.heap.size+1+1+1 /\
  (qb w R ty lo ca cn cc).cell? (ZA w.heap.size 0)=some (cW R)/\(qb w R ty lo ca cn cc).heap[w.heap.size+1]? =some (aN ty lo ca cn cc) /\
  (qb w R ty lo ca cn cc).heap[w.heap.size+1+1]? =some (aN 0 ⟨#[]⟩ none 0 0):=by
 unfold qb;refine⟨(((ZT _ w).alloc lRn _).alloc av _).alloc bI _,av,dB,?_,?_⟩
 ·rw[(aj ((w.alloc (gy (cW R))).alloc (aN ty lo ca cn cc)) _).block (w.heap.size+1) av]
  have:=(ZZ (w.alloc (gy (cW R))) (aN ty lo ca cn cc)).1;exact cR
 have:=(ZZ ((w.alloc (gy (cW R))).alloc (aN ty lo ca cn cc)) (aN 0 ⟨#[]⟩ none 0 0)).1;exact cR
section
variable (R g cap:Nat) (bs:LIz) (t:Nat) (left:Int) (lo:BAz) (ca:OAz) (cn cc:Nat) (sa:OAz) (sn sc:Nat) (sg:List Sg) (w:World)
theorem JZ(ty:Int)(h:Wr w R g cap bs)(h0:-9223372036854775808<=ty)(h1:ty<9223372036854775808)(hbad:ty<0\/(sn:Int)<=ty)(hs:sn<=100000) :
  Zw 143 #[cW R,.agg #[ZI ty,.string lo,.slice ca cn cc],.slice sa sn sc,ZI left] w (aQ R g 30 w):=by
 obtain⟨B0,z0,x0,x1,x2⟩:=lR w R ty lo ca cn cc;have HW:((w.alloc (gy (cW R))).alloc (aN ty lo ca cn cc)).alloc (aN 0 ⟨#[]⟩ none 0 0)=qb w R ty lo ca cn cc:=rfl;generalize qb w R ty lo ca cn cc=W1 at *;have HX:=hid (mM R g cap bs ty sn W1 (h.later B0) h0 h1 hbad ae ae);have BW:=hid B0;obtain⟨a0,a1,a2,_,_,_⟩:=aI x1;clear h B0;go_enter func143,ntmps143
 go_wp2_with fail;refine HX.out.mono ?_;rintro e w2⟨⟨q,rfl⟩,hk⟩;exact⟨rfl,⟨q,rfl⟩,(bC BW.out).trans hk⟩
theorem Av(h:Wr w R g cap bs)(hb:bs.length+10000000<=1099511627776)(hs:sn<=100000)(ht:t<sn)(X1:dC w sa sn sg)(hne:∀b off c,sa=some ⟨b,off,c⟩->b≠R/\b≠g)(pm:∀p r,sg[t]? =some (p,r)->p.size<=8)(x:Int)
  (htx:∀W g1 An p r,sg[t]? =some (p,r)->p.size<=8->Wr W R g1 An (bs++aw t)->Zw 323 #[ZP R 0,.string lo,ZI (64-p.size),.func (.func 183) #[] #[]] W (aQ R g1 x W)) :
  Zw 143 #[cW R,.agg #[ZI t,.string lo,.slice ca cn cc],.slice sa sn sc,ZI left] w (aQ R g x w):=by
 obtain⟨B0,z0,x0,x1,x2⟩:=lR w R t lo ca cn cc;have HW:((w.alloc (gy (cW R))).alloc (aN t lo ca cn cc)).alloc (aN 0 ⟨#[]⟩ none 0 0)=qb w R t lo ca cn cc:=rfl;have OF:=h.lt;have hgl:=h.g_lt;have hlen:=X1.1;obtain⟨p,r,hp⟩:∃p r,sg[t]? =some (p,r):=⟨_,_,aD ae⟩;have hps:=pm p r hp
 obtain⟨sb,so,rfl,hsc⟩:∃b off,sa=some (ZA b off)/\∀j x,sg[j]? =some x->w.cell? (ZA b (off+j*2))=some (.string x.1)/\w.cell? (ZA b (off+j*2+1))=some (.string x.2):=by
  exact zD
 have hsp:=(hsc t (p,r) hp).1;simp only at hsp;have ka:=hne _ _ _ rfl;have qal:=ZQ hsp;have u1:=ay (t:Int);generalize qb w R t lo ca cn cc=W1 at *;have HX:=hid (iq R g cap bs t sn W1 (h.later B0) ae ae ae ae);have s0:=(B0.cell (p:=(ZA sb (so+t*2))) (by exact qal)).trans hsp;have BW:=hid B0;obtain⟨a0,a1,a2,_,_,_⟩:=aI x1;have hsub:=i64_in (64-(p.size:Int)) ae ae;have hmt:=eW;have hct:=fO;have hnt:=uD;clear h B0 hsc X1;go_enter func143,ntmps143
 go_wp2_with fail;refine HX.out.mono ?_;rintro e w2⟨rfl,g1,An,hw2,hs2⟩;have y0:=hs2.cell x0 ae ae;have y1:=(hs2.block (b:=w.heap.size+1) ae ae ae).trans x1;have y2:=(hs2.block (b:=w.heap.size+1+1) ae ae ae).trans x2;have ys:=hs2.cell s0 ka.1 ka.2;have n0:w.heap.size≠g1:=hs2.ne ae ae;have n1:w.heap.size+1≠g1:=hs2.ne ae ae;have n2:w.heap.size+1+1≠g1:=hs2.ne ae ae;have ns:sb≠g1:=hs2.ne ae ka.2;obtain⟨b0,b1,b2,_,_,_⟩:=aI y1;have S2:=hid ((Stp.of_below BW.out).trans hs2);have z2:=hs2.size;have W2:=hid hw2;clear hw2 hs2 HX x0 x1 x2 a0 a1 a2 s0 HW;go_wp2_with fail;have HTX:=hid (htx w2.drew g1 An p r hp hps (W2.out.later (ZT _ _).drew));clear htx
 refine ZX (S:=(fun W=>W.cell? (ZA w.heap.size 0)=some (cW R)/\W.cell? (ZA (w.heap.size+1) 1)=some (.string lo)/\W.cell? (ZA sb (so+t*2))=some (.string p))) ak ⟨y0,b1,ys⟩ (fun hHeld=>?_)
 refine tkC (i:=0) rfl ?_;(try simp only[Act.put,sIB]);refine tkC (i:=1) rfl ?_;(try simp only[Act.put]);refine tkC (i:=2) rfl ?_;(try simp only[Act.put]);refine tkC (i:=3) rfl ?_;(try simp only[Act.put]);refine tkC (i:=4) rfl ?_;(try simp only[Act.put]);refine tkC (i:=5) rfl ?_;(try simp only[Act.put]);refine tkC (i:=6) rfl ?_;(try simp only[Act.put]);refine tkC (i:=7) rfl ?_;(try simp only[Act.put]);refine tkC (i:=8) rfl ?_;(try simp only[Act.put]);refine tkC (i:=9) rfl ?_;(try simp only[Act.put]);refine tkC (i:=10) rfl ?_;(try simp only[Act.put]);refine rdY (rs:=[11]) ?_
 refine AllReadyH.cons rfl (fun K hK=>?_) rN;go_simp;refine hK.out _ _ hHeld (fun gd=>?_)
 clear hK K;refine tkC (i:=12) rfl ?_;(try simp only[Act.put,sIB]);refine rdY (rs:=[13]) ?_
 refine AllReadyH.cons rfl (fun K hK=>?_) rN;go_simp;refine HTX.out.mono ?_;rintro e w3⟨⟨q,rfl⟩,hk⟩;exact⟨rfl,⟨q,rfl⟩,(S2.out.trans (Stp.of_below (ZT _ _).drew)).throw hk⟩
theorem BQ(h:Wr w R g cap bs)(hb:bs.length+10000000<=1099511627776)(hs:sn<=100000)(ht:t<sn)(X1:dC w sa sn sg)(hne:∀b off c,sa=some ⟨b,off,c⟩->b≠R/\b≠g)(pm:∀p r,sg[t]? =some (p,r)->p.size<=8)(hlo:∀p r,sg[t]? =some (p,r)->lo.size+p.size<=64)(hlt:bY lo 64=true)(x:Int)
  (htl:∀W g2 cap2,Wr W R g2 cap2 (bs++aw t++gz lo)->Stp R g g2 w W->W.cell? (ZA w.heap.size 0)=some (cW R)->w.heap.size≠g2->Zw 194 #[cW R,.slice ca cn cc,ZI (min 2048 left),.func (.func 195) #[] #[.pointer (some ⟨w.heap.size,0,none⟩)]] W (aQ R g2 x W)) :
  Zw 143 #[cW R,.agg #[ZI t,.string lo,.slice ca cn cc],.slice sa sn sc,ZI left] w (aQ R g x w):=by
 have HTL:=hid htl;clear htl;obtain⟨B0,z0,x0,x1,x2⟩:=lR w R t lo ca cn cc;have HW:((w.alloc (gy (cW R))).alloc (aN t lo ca cn cc)).alloc (aN 0 ⟨#[]⟩ none 0 0)=qb w R t lo ca cn cc:=rfl;have OF:=h.lt;have hgl:=h.g_lt;have hlen:=X1.1;obtain⟨p,r,hp⟩:∃p r,sg[t]? =some (p,r):=⟨_,_,aD ae⟩;have hps:=pm p r hp;have hlo1:=hlo p r hp
 obtain⟨sb,so,rfl,hsc⟩:∃b off,sa=some (ZA b off)/\∀j x,sg[j]? =some x->w.cell? (ZA b (off+j*2))=some (.string x.1)/\w.cell? (ZA b (off+j*2+1))=some (.string x.2):=by
  exact zD
 have hsp:=(hsc t (p,r) hp).1;simp only at hsp;have ka:=hne _ _ _ rfl;have qal:=ZQ hsp;have u1:=ay (t:Int);generalize qb w R t lo ca cn cc=W1 at *;have HX:=hid (iq R g cap bs t sn W1 (h.later B0) ae ae ae ae);have s0:=(B0.cell (p:=(ZA sb (so+t*2))) (by exact qal)).trans hsp;have BW:=hid B0;obtain⟨a0,a1,a2,_,_,_⟩:=aI x1;have hsub:=i64_in (64-(p.size:Int)) ae ae;have hmt:=eW;have hct:=fO;have hnt:=uD;clear h B0 hsc X1;go_enter func143,ntmps143
 go_wp2_with fail;refine HX.out.mono ?_;rintro e w2⟨rfl,g1,An,hw2,hs2⟩;have y0:=hs2.cell x0 ae ae;have y1:=(hs2.block (b:=w.heap.size+1) ae ae ae).trans x1;have y2:=(hs2.block (b:=w.heap.size+1+1) ae ae ae).trans x2;have ys:=hs2.cell s0 ka.1 ka.2;have n0:w.heap.size≠g1:=hs2.ne ae ae;have n1:w.heap.size+1≠g1:=hs2.ne ae ae;have n2:w.heap.size+1+1≠g1:=hs2.ne ae ae;have ns:sb≠g1:=hs2.ne ae ka.2;obtain⟨b0,b1,b2,_,_,_⟩:=aI y1;have S2:=hid ((Stp.of_below BW.out).trans hs2);have z2:=hs2.size;have W2:=hid hw2;clear hw2 hs2 HX x0 x1 x2 a0 a1 a2 s0 HW;go_wp2_with fail
 have HTX:=hid (fg R g1 An (bs++aw t) lo (64-p.size) 183 #[] w2.drew (W2.out.later (ZT _ _).drew) ae ae aA (fun _ _=>rfl) (eY lo _ _ ae GC));refine ZX (S:=(fun W=>W.cell? (ZA w.heap.size 0)=some (cW R)/\W.cell? (ZA (w.heap.size+1) 1)=some (.string lo)/\W.cell? (ZA sb (so+t*2))=some (.string p))) ak ⟨y0,b1,ys⟩ (fun hHeld=>?_)
 refine tkC (i:=0) rfl ?_;(try simp only[Act.put,sIB]);refine tkC (i:=1) rfl ?_;(try simp only[Act.put]);refine tkC (i:=2) rfl ?_;(try simp only[Act.put]);refine tkC (i:=3) rfl ?_;(try simp only[Act.put]);refine tkC (i:=4) rfl ?_;(try simp only[Act.put]);refine tkC (i:=5) rfl ?_;(try simp only[Act.put]);refine tkC (i:=6) rfl ?_;(try simp only[Act.put]);refine tkC (i:=7) rfl ?_;(try simp only[Act.put]);refine tkC (i:=8) rfl ?_;(try simp only[Act.put]);refine tkC (i:=9) rfl ?_;(try simp only[Act.put]);refine tkC (i:=10) rfl ?_;(try simp only[Act.put]);refine rdY (rs:=[11]) ?_
 refine AllReadyH.cons rfl (fun K hK=>?_) rN;go_simp;refine hK.out _ _ hHeld (fun gd=>?_)
 clear hK K;refine tkC (i:=12) rfl ?_;(try simp only[Act.put,sIB]);refine rdY (rs:=[13]) ?_
 refine AllReadyH.cons rfl (fun K hK=>?_) rN;go_simp;refine HTX.out.mono ?_;rintro e w3⟨rfl,g2,cap2,hw3,hs3⟩;have q0:=hs3.cell (b:=w.heap.size) y0 ae n0;have q1:=(hs3.block (b:=w.heap.size+1) aA ae n1).trans y1;have q2:=(hs3.block (b:=w.heap.size+1+1) aA ae n2).trans y2;have qs:=hs3.cell (b:=sb) ys ka.1 ns;have m0:w.heap.size≠g2:=hs3.ne aA n0;have m2:w.heap.size+1+1≠g2:=hs3.ne aA n2;obtain⟨e0,e1,e2,_,_,_⟩:=aI q1;have z3:w2.heap.size<=w3.heap.size:=hs3.size;have W3:=hid hw3;have S3:=hid ((S2.out.trans (Stp.of_below (ZT _ _).drew)).trans hs3);refine hK.out _ _ ⟨q0,e1,qs⟩ (fun oR=>?_)
 clear hK K hw3 hs3;refine tkC (i:=14) rfl ?_;(try simp only[Act.put,sIB]);refine Z4 ak ?_ _;clear hHeld gd oR y0 y1 y2 ys b0 b1 b2;have HL:=hid (HTL.out w3 g2 cap2 W3.out S3.out q0 m0);clear HTL;go_wp2_with fail;refine HL.out.mono ?_;rintro e w4⟨⟨q,rfl⟩,hk⟩;exact⟨rfl,⟨q,rfl⟩,S3.out.throw hk⟩
theorem Eh(h:Wr w R g cap bs)(hb:bs.length+10000000<=1099511627776)(hs:sn<=100000)(ht:t<sn)(X1:dC w sa sn sg)(hne:∀b off c,sa=some ⟨b,off,c⟩->b≠R/\b≠g)(pm:∀p r,sg[t]? =some (p,r)->p.size<=8)(hlo:∀p r,sg[t]? =some (p,r)->lo.size+p.size<=64)(hlt:bY lo 64=true)(E:LIz)
  (htl:∀W g2 cap2,Wr W R g2 cap2 (bs++aw t++gz lo)->Stp R g g2 w W->W.cell? (ZA w.heap.size 0)=some (cW R)->w.heap.size≠g2->Zw 194 #[cW R,.slice ca cn cc,ZI (min 2048 left),.func (.func 195) #[] #[.pointer (some ⟨w.heap.size,0,none⟩)]] W (fun e w'=>∃(aa:OAz)(ac:Nat),e=.returned (.slice aa cn ac)/\∃g' cap',Wr w' R g' cap' (bs++aw t++gz lo++E)/\Stp R g2 g' W w')) :
  Zw 143 #[cW R,.agg #[ZI t,.string lo,.slice ca cn cc],.slice sa sn sc,ZI left] w (fun e w'=>∃(aa:OAz)(ac:Nat),e=.returned (.agg #[ZI t,.string lo,.slice aa cn ac])/\∃g' cap',Wr w' R g' cap' (bs++aw t++gz lo++E)/\Stp R g g' w w'):=by
 have HTL:=hid htl;clear htl;obtain⟨B0,z0,x0,x1,x2⟩:=lR w R t lo ca cn cc;have HW:((w.alloc (gy (cW R))).alloc (aN t lo ca cn cc)).alloc (aN 0 ⟨#[]⟩ none 0 0)=qb w R t lo ca cn cc:=rfl;have OF:=h.lt;have hgl:=h.g_lt;have hlen:=X1.1;obtain⟨p,r,hp⟩:∃p r,sg[t]? =some (p,r):=⟨_,_,aD ae⟩;have hps:=pm p r hp;have hlo1:=hlo p r hp
 obtain⟨sb,so,rfl,hsc⟩:∃b off,sa=some (ZA b off)/\∀j x,sg[j]? =some x->w.cell? (ZA b (off+j*2))=some (.string x.1)/\w.cell? (ZA b (off+j*2+1))=some (.string x.2):=by
  exact zD
 have hsp:=(hsc t (p,r) hp).1;simp only at hsp;have ka:=hne _ _ _ rfl;have qal:=ZQ hsp;have u1:=ay (t:Int);generalize qb w R t lo ca cn cc=W1 at *;have HX:=hid (iq R g cap bs t sn W1 (h.later B0) ae ae ae ae);have s0:=(B0.cell (p:=(ZA sb (so+t*2))) (by exact qal)).trans hsp;have BW:=hid B0;obtain⟨a0,a1,a2,_,_,_⟩:=aI x1;have hsub:=i64_in (64-(p.size:Int)) ae ae;have hmt:=eW;have hct:=fO;have hnt:=uD;clear h B0 hsc X1;go_enter func143,ntmps143
 go_wp2_with fail;refine HX.out.mono ?_;rintro e w2⟨rfl,g1,An,hw2,hs2⟩;have y0:=hs2.cell x0 ae ae;have y1:=(hs2.block (b:=w.heap.size+1) ae ae ae).trans x1;have y2:=(hs2.block (b:=w.heap.size+1+1) ae ae ae).trans x2;have ys:=hs2.cell s0 ka.1 ka.2;have n0:w.heap.size≠g1:=hs2.ne ae ae;have n1:w.heap.size+1≠g1:=hs2.ne ae ae;have n2:w.heap.size+1+1≠g1:=hs2.ne ae ae;have ns:sb≠g1:=hs2.ne ae ka.2;obtain⟨b0,b1,b2,_,_,_⟩:=aI y1;have S2:=hid ((Stp.of_below BW.out).trans hs2);have z2:=hs2.size;have W2:=hid hw2;clear hw2 hs2 HX x0 x1 x2 a0 a1 a2 s0 HW;go_wp2_with fail
 have HTX:=hid (fg R g1 An (bs++aw t) lo (64-p.size) 183 #[] w2.drew (W2.out.later (ZT _ _).drew) ae ae aA (fun _ _=>rfl) (eY lo _ _ ae GC));refine ZX (S:=(fun W=>W.cell? (ZA w.heap.size 0)=some (cW R)/\W.cell? (ZA (w.heap.size+1) 1)=some (.string lo)/\W.cell? (ZA sb (so+t*2))=some (.string p))) ak ⟨y0,b1,ys⟩ (fun hHeld=>?_)
 refine tkC (i:=0) rfl ?_;(try simp only[Act.put,sIB]);refine tkC (i:=1) rfl ?_;(try simp only[Act.put]);refine tkC (i:=2) rfl ?_;(try simp only[Act.put]);refine tkC (i:=3) rfl ?_;(try simp only[Act.put]);refine tkC (i:=4) rfl ?_;(try simp only[Act.put]);refine tkC (i:=5) rfl ?_;(try simp only[Act.put]);refine tkC (i:=6) rfl ?_;(try simp only[Act.put]);refine tkC (i:=7) rfl ?_;(try simp only[Act.put]);refine tkC (i:=8) rfl ?_;(try simp only[Act.put]);refine tkC (i:=9) rfl ?_;(try simp only[Act.put]);refine tkC (i:=10) rfl ?_;(try simp only[Act.put]);refine rdY (rs:=[11]) ?_
 refine AllReadyH.cons rfl (fun K hK=>?_) rN;go_simp;refine hK.out _ _ hHeld (fun gd=>?_)
 clear hK K;refine tkC (i:=12) rfl ?_;(try simp only[Act.put,sIB]);refine rdY (rs:=[13]) ?_
 refine AllReadyH.cons rfl (fun K hK=>?_) rN;go_simp;refine HTX.out.mono ?_;rintro e w3⟨rfl,g2,cap2,hw3,hs3⟩;have q0:=hs3.cell (b:=w.heap.size) y0 ae n0;have q1:=(hs3.block (b:=w.heap.size+1) aA ae n1).trans y1;have q2:=(hs3.block (b:=w.heap.size+1+1) aA ae n2).trans y2;have qs:=hs3.cell (b:=sb) ys ka.1 ns;have m0:w.heap.size≠g2:=hs3.ne aA n0;have m2:w.heap.size+1+1≠g2:=hs3.ne aA n2;obtain⟨e0,e1,e2,_,_,_⟩:=aI q1;have z3:w2.heap.size<=w3.heap.size:=hs3.size;have W3:=hid hw3;have S3:=hid ((S2.out.trans (Stp.of_below (ZT _ _).drew)).trans hs3);refine hK.out _ _ ⟨q0,e1,qs⟩ (fun oR=>?_)
 clear hK K hw3 hs3;refine tkC (i:=14) rfl ?_;(try simp only[Act.put,sIB]);refine Z4 ak ?_ _;clear hHeld gd oR y0 y1 y2 ys b0 b1 b2;have HL:=hid (HTL.out w3 g2 cap2 W3.out S3.out q0 m0);clear HTL;go_wp2_with fail;refine HL.out.mono ?_;rintro e w4⟨aa,ac,rfl,g3,Ly,hw4,hs4⟩;have f2:=(hs4.block (b:=w.heap.size+1+1) ae ae m2).trans q2;have m3:w.heap.size+1+1≠g3:=hs4.ne ae m2;obtain⟨k0,k1,k2,k3,k4,k5⟩:=aI f2;have W4:=hid hw4;have S4:=hid (S3.out.trans hs4);clear hw4 hs4 HL q0 q1 q2 qs e0 e1 e2;go_wp2_with fail;refine i4 (v:=.agg #[ZI t,.string lo,.slice aa cn ac]) ?_ rfl ⟨aa,ac,rfl,g3,Ly,?_,?_⟩
 ·exact iw
 ·exact((W4.out.set (b:=w.heap.size+1+1) ae m3).set (b:=w.heap.size+1+1) ae m3).set (b:=w.heap.size+1+1) ae m3
 exact((S4.out.set ae).set ae).set ae
end
theorem fh{α:Type}(f:List α->α->Int):∀(xs ah:List α),bj f ah xs≠0->∃k x,xs[k]? =some x/\bj f ah (xs.take k)=0/\f (ah++xs.take k) x≠0/\bj f ah xs=f (ah++xs.take k) x
 | [],ah,h=>absurd rfl h
 | x::r,ah,h=>by
  by_cases hx:f ah x=0
  ·have h':bj f ah (x::r)=bj f (ah++[x]) r:=by simp[bj,hx]
   rw[h']at h;obtain⟨k,y,h1,h2,h3,h4⟩:=fh f r (ah++[x]) h;refine⟨k+1,y,mJ,?_,?_,?_⟩
   ·simp[bj,hx,h2]
   ·simpa using h3
   rw[h',h4]; simp
  exact⟨0,x,rfl,rfl,oK,by simp[bj,hx]⟩
theorem br{α:Type}(f:List α->α->Int):∀(xs ah:List α),bj f ah xs=0->∀(j:Nat)x,xs[j]? =some x->f (ah++xs.take j) x=0
 | [],ah,_,j,x,hj=>by simp at hj
 | y::r,ah,h,j,x,hj=>by
  by_cases hy:f ah y=0
  ·have h':bj f (ah++[y]) r=0:=by simpa[bj,hy] using h
   cases j with
   | zero=>simp at hj; subst hj; simpa using hy
   | succ j =>
    have:=br f r (ah++[y]) h' j x zo;exact cR
  exfalso
  have:bj f ah (y::r)=f ah y:=by simp[bj,hy]
  rw[this]at h; exact hy h
theorem tX{α:Type}{f h:α->List Int}:∀{xs:List α},(∀z∈xs,f z=h z)->xs.flatMap f=xs.flatMap h
 | [],_=>rfl
 | x::r,hh=>by
  simp only[List.flatMap_cons];rw[hh x (Zad ..),tX (fun z hz=>hh z (Z9 _ hz))]
def d9(x:InM):Int:=chk (tkV x.1) (lgV x.1) x.2.1 x.2.2.2
def dZ(x:InM):List Int:=lS x.1 x.2.1 x.2.2.2
structure tu(w:World)(R g:Nat)(x:InM):Prop where
 r0:0<=x.1
 r1:x.1<=255
 seg:gW w x.2.2.1.1 x.2.2.1.2.1 x.2.2.1.2.2 x.2.2.2
 ne:∀b off c,nz x.2.2.1.2.1 x.2.2.1.1=some ⟨b,off,c⟩->b≠R/\b≠g
variable {S:Zam}{w w':World}{a:OAz}{n cap:Nat}{zs:LIz}
theorem gW.kept'(h:gW w a n cap zs)(hk:Kept S w w')(hS:∀b off c,nz n a=some ⟨b,off,c⟩->¬S b):gW w' a n cap zs:=by
 exact Ey
variable {W:World}{R g g1:Nat}{x:InM}
theorem tu.seg'(h:tu w R g x)(hs:Stp R g g1 w W):gW W x.2.2.1.1 x.2.2.1.2.1 x.2.2.1.2.2 x.2.2.2 :=
 h.seg.kept' hs.k (fun b off c hb=>by have:=h.ne b off c hb; simp; omega)
theorem aX.kept(h:aX w)(hk:Kept S w w')(h0:¬S 0):aX w':=fun j v hj=>hk.cell (h j v hj) h0
theorem jL(h:d9 x=0):(dZ x).length<=171:=by
 have:=qB h
 have h16:x.2.2.2.length<=16:=by
  by_cases ht:tkV x.1=3
  ·exact(this.2.2.2.1 ht).2.1
  rw[this.2.2.2.2 ht]; simp
 have:=Ai (tkV x.1) x.2.1 x.2.2.2 h16;simp[dZ,lS]; omega
section
variable (R g cap:Nat) (bs:LIz) (ca:OAz) (cn cc:Nat) (most:Int) (A:Nat) (xs:List InM) (w:World)
theorem GJ(h:Wr w R g cap bs)(hb:bs.length+300000000000<=1099511627776)(hn:cn<=100000)(my:R≠0)(hg0:g≠0)(hk:aX w)(hA:w.cell? (ZA A 0)=some (cW R))(TO:A≠R)(OR:A≠g)(hok:∀(j:Nat)x,xs[j]? =some x->tu w R g x)(hl:xs.length=cn)
  (k:Nat) (hall:∀(j:Nat)x,xs[j]? =some x->j<k->d9 x=0) (j:Nat) (x:InM) (hx:xs[j]? =some x) (hjk:j<k):CJ R g w 195 #[ZP A 0] bs cn xs dZ (fun _ _=>True) j x:=by
 intro ys W g1 An aa ac _ _ hst hwr _ _;have ho:=hok j x hx;have hlt:=aF hx
 have hlen:((xs.take j).flatMap dZ).length<=j*171:=by
  have:=cU dZ 171 (xs.take j) (fun i y hi=>by
   have hij:i<j:=ol;rw[List.getElem?_take_of_lt hij]at hi;exact jL (hall i y hi ae))
  exact FU
 have hu:=ay (cn:Int);refine(Cx R g1 An _ x.1 x.2.1 x.2.2.1.1 x.2.2.1.2.1 x.2.2.1.2.2 x.2.2.2 W A aa j ac hwr vg (hk.kept hst.k aA) ho.r0 ho.r1 (ho.seg' hst) (hst.cell hA TO OR) (hall j x hx hjk)).mono ?_;rintro e w' ⟨he,g',cap',hw',hs'⟩;exact⟨(x.1,x.2.1,x.2.2.1),he,trivial,g',cap',hw',hs'⟩
theorem Au(h:Wr w R g cap bs)(hb:bs.length+300000000000<=1099511627776)(hn:cn<=100000)(hm:(cn:Int)<=most)(my:R≠0)(hg0:g≠0)(hk:aX w)(hA:w.cell? (ZA A 0)=some (cW R))(TO:A≠R)(OR:A≠g)(hmem:AtIn w ca cn xs)(hne:∀b off c,nz cn ca=some ⟨b,off,c⟩->b≠R/\b≠g)(hok:∀(j:Nat)x,xs[j]? =some x->tu w R g x)
  (hx:bj (fun _ x=>d9 x) [] xs=0) :
  Zw 194 #[cW R,.slice ca cn cc,ZI most,.func (.func 195) #[] #[.pointer (some ⟨A,0,none⟩)]] w (fun e w'=>∃(aa:OAz)(ac:Nat),e=.returned (.slice aa cn ac)/\∃g' cap',Wr w' R g' cap' (bs++(aw cn++xs.flatMap dZ))/\Stp R g g' w w'):=by
 have hall:=br (fun _ x=>d9 x) xs [] hx
 refine(AJ R g cap bs ca cn cc most 195 _ w xs dZ (fun _ _=>True) 171 h hn hm hmem hne (fun _ _=>rfl) (fun j x hj=>jL (hall j x hj)) ae ae
  (fun j x hj=>GJ R g cap bs cn A xs w h hb hn my hg0 hk hA TO OR hok hmem.1 (j+1) (fun i y hi _=>hall i y hi) j x hj ae)).mono ?_
 rintro e w' ⟨aa,ac,ys,he,_,_,_,g',cap',_,hw',hs'⟩;exact⟨aa,ac,he,g',cap',xD,hs'⟩
theorem Dc(h:Wr w R g cap bs)(hb:bs.length+300000000000<=1099511627776)(hn:cn<=100000)(hm:(cn:Int)<=most)(my:R≠0)(hg0:g≠0)(hk:aX w)(hA:w.cell? (ZA A 0)=some (cW R))(TO:A≠R)(OR:A≠g)(hmem:AtIn w ca cn xs)(hne:∀b off c,nz cn ca=some ⟨b,off,c⟩->b≠R/\b≠g)(hok:∀(j:Nat)x,xs[j]? =some x->tu w R g x)
  (hx:bj (fun _ x=>d9 x) [] xs≠0) :
  Zw 194 #[cW R,.slice ca cn cc,ZI most,.func (.func 195) #[] #[.pointer (some ⟨A,0,none⟩)]] w (aQ R g (bj (fun _ x=>d9 x) [] xs) w):=by
 obtain⟨k,x,h1,h2,h3,h4⟩:=fh (fun _ x=>d9 x) xs [] hx;have hall:=br (fun _ x=>d9 x) (xs.take k) [] h2;have DO:∀(j:Nat)y,xs[j]? =some y->j<k->d9 y=0:=fun j y hj hjk=>hall j y (by rw[List.getElem?_take_of_lt hjk]; exact hj);rw[h4];have hM:∀(j:Nat)y,xs[j]? =some y->(dZ y).length<=100000000\/True:=fun _ _ _=>.inr trivial;refine CZ R g cap bs ca cn cc most 195 _ w xs (fun y=>if d9 y=0 then dZ y else []) (fun _ _=>True) 171 h hn hm hmem hne (fun _ _=>rfl) (fun j y hj=>?_) ae ae k x (d9 x) h1 (fun j y hj hjk=>?_) ?_
 ·split
  ·exact jL mF
  simp
 ·have he:=GJ R g cap bs cn A xs w h hb hn my hg0 hk hA TO OR hok hmem.1 k DO j y hj hjk;intro ys W g1 An aa ac q1 q2 hst hwr q3 q4
  have hfl:(xs.take j).flatMap (fun y=>if d9 y=0 then dZ y else [])=(xs.take j).flatMap dZ:=by
   apply tX;intro z hz;obtain⟨i,hi,rfl⟩:=List.getElem_of_mem hz
   have hi':i<j:=by simp at hi; omega
   have:d9 ((xs.take j)[i])=0:=by
    apply DO i _ _ ae;rw[List.getElem_take];exact aD (by simp at hi; omega)
   rw[if_pos this]
  rw[hfl]at hwr;refine(he ys W g1 An aa ac q1 q2 hst hwr q3 q4).mono ?_;rintro e w' ⟨y',e1,e2,g',cap',e3,e4⟩;refine⟨y',e1,e2,g',cap',?_,e4⟩;have hy:(fun y=>if d9 y=0 then dZ y else []) y=dZ y:=if_pos (DO j y hj hjk);rw[hfl,hy];exact e3
 intro ys W g1 An aa ac _ _ hst hwr _ _;have ho:=hok k x h1;exact JA R g1 An _ x.1 x.2.1 x.2.2.1.1 x.2.2.1.2.1 x.2.2.1.2.2 x.2.2.2 W A aa k ac hwr (hk.kept hst.k aA) ho.r0 ho.r1 (ho.seg' hst) (hst.cell hA TO OR) (show d9 x≠0 from h3)
end
variable {b i:Nat}{cs:AVz}{t:TypeId}
theorem Kz{v:Value}(h:w.heap[b]? =some (.cells cs t))(hi:i<cs.size):(w.setCell (ZA b i) v).heap[b]? =some (.cells (cs.setIfInBounds i v) t):=by
 have hb:b<w.heap.size:=by
  rcases Zae b w.heap.size with hl | hl
  ·exact hl
  rw[Zaf hl]at h; cases h
 have hg:w.heap[b]=.cells cs t:=by rw[Array.getElem?_eq_getElem hb]at h; simpa using h
 simp[World.setCell,hb,Array.getElem_modify,hg]
variable {v0 v1 v2 v3 v4 v5 v6 v7:Value}
theorem ax(h:w.heap[b]? =some (.cells #[v0,v1,v2,v3,v4,v5,v6,v7] t)) :
  (w.cell? (ZA b 0)=some v0/\w.cell? (ZA b 1)=some v1/\w.cell? (ZA b 2)=some v2/\w.cell? (ZA b 3)=some v3/\w.cell? (ZA b 4)=some v4/\w.cell? (ZA b 5)=some v5/\w.cell? (ZA b 6)=some v6/\w.cell? (ZA b 7)=some v7) /\
  (w.frozen? (ZA b 0)=false/\w.frozen? (ZA b 1)=false/\w.frozen? (ZA b 2)=false/\w.frozen? (ZA b 3)=false/\w.frozen? (ZA b 4)=false/\w.frozen? (ZA b 5)=false/\w.frozen? (ZA b 6)=false/\w.frozen? (ZA b 7)=false):=by
 simp[World.cell?,World.frozen?,h]
theorem ok_eq{α:Type}{xs ys:List α}(hl:ys.length<=xs.length)(h:∀(i:Nat)y,ys[i]? =some y->∃x,xs[i]? =some x/\y=x):ys=xs.take ys.length:=by
 apply List.ext_getElem?;intro i
 by_cases hi:i<ys.length
 ·rw[List.getElem?_take_of_lt hi];obtain⟨x,h1,h2⟩:=h i ys[i] (aD hi);rw[aD hi,h1,h2]
 rw[List.getElem?_eq_none ae,List.getElem?_eq_none aA]
variable {aa:OAz}{j ac:Nat}
theorem tJ{ys:List Sg}(hl:ys.length=j)(hj:j<=1099511627776)(h:w.ownsRow 0 73 2 (.slice aa j ac) j (ys.flatMap jR)):dC w aa j ys:=by
 refine⟨hl,hj,?_⟩
 rcases Nat.eq_zero_or_pos j with h0 | h0
 ·exact .inl h0
 right;obtain⟨y,hy⟩:=ZB ys 0 ae
 obtain⟨B,hB,_⟩:=lA (oc:=jR) (t:=0) (u:=.string y.1) (fun _=>rfl) h hy rfl;refine⟨B,0,hB,fun i x hi=>?_⟩;obtain⟨B1,hB1,c1⟩:=lA (oc:=jR) (t:=0) (u:=.string x.1) (fun _=>rfl) h hi rfl;obtain⟨B2,sq,c2⟩:=lA (oc:=jR) (t:=1) (u:=.string x.2) (fun _=>rfl) h hi rfl;rw[hB]at hB1 sq;simp at hB1 sq;subst hB1 sq;exact⟨by simpa using c1,by simpa using c2⟩
section
variable (R g cap:Nat) (bs:LIz) (ha:OAz) (n hc:Nat) (A:Nat) (w:World)
theorem Br(xs:List Sg)(h:Wr w R g cap bs)(hb:bs.length+300000000000<=1099511627776)(hn:n<=100000)(hA:w.cell? (ZA A 0)=some (cW R))(TO:A≠R)(OR:A≠g)(hl:xs.length=n)(enc:Sg->List Int)(k:Nat)(henc:∀(i:Nat)y,xs[i]? =some y->i<k->enc y=bP y)(hall:∀(i:Nat)y,xs[i]? =some y->i<k->cV (xs.take i) y=0)
  (j:Nat) (x:Sg) (hx:xs[j]? =some x) (hjk:j<k):Rt R g w 132 #[ZP A 0] bs n xs enc (fun x y=>y=x) j x:=by
 intro ys W g1 An aa ac ON hys hst hwr hrow hab;have hlt:=aF hx;have Q':=ok_eq ae hys;rw[ON]at Q';have If:=hall j x hx hjk;have hok:=eZ If
 have hlen:((xs.take j).flatMap enc).length<=j*36:=by
  have:=cU enc 36 (xs.take j) (fun i y hi=>by
   have hij:i<j:=ol;rw[List.getElem?_take_of_lt hij]at hi;rw[henc i y hi ae];have:=eZ (hall i y hi ae)
   exact iK y this.1 this.2.2.1)
  exact FU
 have hu:=ay (n:Int);have hRs:=hst.size;refine(Ek R g1 An _ x aa j ac A W hwr (hst.cell hA TO OR) (fun y=>y=x) (bs++aw n++(xs.take j).flatMap enc++enc x) (fun W2 hb2=>?_)).mono ?_
 ·have vn:=(tJ ON ae hrow).later hb2;rw[Q']at vn
  refine(CN R g1 An _ x.1 x.2 aa j ac (xs.take j) W2 (hwr.later hb2) vg vn (fun b off c hbb=>⟨?_,(hab _ hbb).2⟩) If).mono ?_
  ·have h1:=(hab _ hbb).1;have h2:=h.lt
   simp only at h1;omega
  rintro e w' ⟨he,g',cap',hw',hs'⟩;refine⟨x,he,rfl,g',cap',?_,hs'⟩;rw[henc j x hx hjk];exact hw'
 rintro e w' ⟨y,he,hy,g',cap',hw',hs'⟩;exact⟨y,he,hy,g',cap',hw',hs'⟩
theorem Jw(xs:List Sg)(h:Wr w R g cap bs)(hb:bs.length+300000000000<=1099511627776)(hA:w.cell? (ZA A 0)=some (cW R))(TO:A≠R)(OR:A≠g)(hmem:jP w ha n xs)(hne:∀b off c,ha=some ⟨b,off,c⟩->b≠R/\b≠g)(hx:bG cV 64 xs=0) :
  Zw 131 #[cW R,.slice ha n hc,ZI 64,.func (.func 132) #[] #[.pointer (some ⟨A,0,none⟩)]] w fun e w'=>∃(aa:OAz)(ac:Nat),e=.returned (.slice aa n ac)/\dC w' aa n xs/\∃g' cap',(∀b,aa=some b->w.heap.size<=b.block/\b.block≠g'/\b.block<w'.heap.size)/\Wr w' R g' cap' (bs++(aw n++xs.flatMap bP))/\Stp R g g' w w':=by
 have hl:=hmem.1;unfold bG at hx
 split at hx
 ·cases hx
 rename_i hm;have hall:=br cV xs [] hx
 have DO:∀(i:Nat)y,xs[i]? =some y->cV (xs.take i) y=0:=fun i y hi=>by simpa using hall i y hi
 refine(Ch R g cap bs ha n hc 64 132 _ w xs bP (fun x y=>y=x) 36 h ae ae hmem hne (fun _ _=>rfl) (fun j x hj=>by have:=eZ (DO j x hj); exact iK x this.1 this.2.2.1) ae ae
  (fun j x hj=>Br R g cap bs n A w xs h hb ae hA TO OR hl bP (j+1) (fun _ _ _ _=>rfl) (fun i y hi _=>DO i y hi) j x hj ae)).mono ?_
 rintro e w' ⟨aa,ac,ys,he,ON,hys,hrow,g',cap',hab,hw',hs'⟩;have Q':=ok_eq ae hys;rw[ON,ZY ae]at Q';subst Q';exact⟨aa,ac,he,tJ ON ae hrow,g',cap',fun b hb'=>⟨(hab b hb').1,(hab b hb').2,aL hrow (qW hrow hb')⟩,xD,hs'⟩
theorem OS(xs:List Sg)(h:Wr w R g cap bs)(hb:bs.length+300000000000<=1099511627776)(hA:w.cell? (ZA A 0)=some (cW R))(TO:A≠R)(OR:A≠g)(hmem:jP w ha n xs)(hne:∀b off c,ha=some ⟨b,off,c⟩->b≠R/\b≠g)(hx:bG cV 64 xs≠0) :
  Zw 131 #[cW R,.slice ha n hc,ZI 64,.func (.func 132) #[] #[.pointer (some ⟨A,0,none⟩)]] w (aQ R g (bG cV 64 xs) w):=by
 have hl:=hmem.1;unfold bG at hx ⊢
 by_cases hm:(64:Int)<xs.length
 ·rw[if_pos hm];exact wY R g cap bs ha n hc 64 _ w h ae
 rw[if_neg hm]at hx ⊢;obtain⟨k,x,h1,h2,h3,h4⟩:=fh cV xs [] hx;have hall:=br cV (xs.take k) [] h2
 have DO:∀(i:Nat)y,xs[i]? =some y->i<k->cV (xs.take i) y=0:=fun i y hi hik=>by
  have:=hall i y xu;rw[List.take_take]at this;have e:min i k=i:=ae;rw[e]at this;exact cR
 rw[h4];simp only[List.nil_append]at h3 h4 ⊢
 refine Cz R g cap bs ha n hc 64 132 _ w xs (fun y=>if y.1.size<=8/\y.2.size<=8 then bP y else []) (fun x y=>y=x) 36 h ae ae hmem hne (fun _ _=>rfl) (fun j y hj=>?_) ae ae k x _ h1
  (fun j y hj hjk=>Br R g cap bs n A w xs h hb ae hA TO OR hl _ k (fun i z hi hik=>?_) DO j y hj hjk) ?_
 ·show(if y.1.size<=8/\y.2.size<=8 then bP y else []).length<=36
  split
  ·rename_i hh; exact iK y hh.1 hh.2
  simp
 ·have:=eZ (DO i z hi hik)
  exact if_pos ⟨this.1,this.2.2.1⟩
 intro ys W g1 An aa ac ON hys hst hwr hrow hab;have hlt:=aF h1;have Q':=ok_eq ae hys;rw[ON]at Q';refine Kt R g1 An _ x aa k ac A W hwr (hst.cell hA TO OR) _ (fun W2 hb2=>?_);have vn:=(tJ ON ae hrow).later hb2;rw[Q']at vn
 have hbb2:((xs.take k).flatMap (fun y=>if y.1.size<=8/\y.2.size<=8 then bP y else [])).length<=k*36:=by
  have:=cU (fun y:Sg=>if y.1.size<=8/\y.2.size<=8 then bP y else []) 36 (xs.take k) (fun i y hi=>by
   show(if y.1.size<=8/\y.2.size<=8 then bP y else []).length<=36
   split
   ·rename_i hh; exact iK y hh.1 hh.2
   simp)
  rw[List.length_take]at this;have e:min k xs.length=k:=ae
  rwa [e]at this
 have hu:=ay (n:Int);exact KS R g1 An _ x.1 x.2 aa k ac (xs.take k) W2 (hwr.later hb2) vg vn (fun b off c hbb=>⟨by have q1:=(hab _ hbb).1; have q2:=h.lt; simp only at q1; omega,(hab _ hbb).2⟩) h3
end
section
theorem uB(R g cap:Nat)(bs:LIz)(n:Nat)(A:Nat)(w:World)(O:Nat)(ta:OAz)(tn tc:Nat)(xs:LIz)(h:Wr w R g cap bs)(hb:bs.length+300000000000<=1099511627776)(hn:n<=1000)(hA:w.cell? (ZA A 0)=some (cW R))(TO:A≠R)(OR:A≠g)(hO:w.cell? (ZA O 0)=some (.slice ta tn tc))(kl:O≠R)(kh:O≠g)(htn:tn<=100000)(hr:∀(j:Nat)x,xs[j]? =some x->-9223372036854775808<=x/\x<9223372036854775808)(hl:xs.length=n)(e:Int->List Int)(k:Nat)(he:∀(i:Nat)y,xs[i]? =some y->i<k->e y=(fun x=>aw x) y)(hall:∀(i:Nat)y,xs[i]? =some y->i<k->(fun(_:LIz) x=>cO tn x) (xs.take i) y=0)
  (j:Nat) (x:Int) (hx:xs[j]? =some x) (hjk:j<k):U6 R g w 135 #[ZP A 0,ZP O 0] bs n xs e (fun x y=>y=x) j x:=by
 intro ys W g1 An aa ac ON hys hst hwr hrow hab;have hlt:=aF hx;have If:=hall j x hx hjk
 try simp only at If
 have henc:=he j x hx hjk
 have hlen:((xs.take j).flatMap e).length<=j*10:=by
  have:=cU e 10 (xs.take j) (fun i y hi=>by
   have hij:i<j:=ol;rw[List.getElem?_take_of_lt hij]at hi;rw[he i y hi ae];have hc:=hall i y hi ae;exact(ay y).2)
  exact p9
 have hu:=ay (n:Int)
 have hbb:(bs++aw n++(xs.take j).flatMap e).length<=bs.length+10+1000*10:=by
  rw[ZV,ZV];have:j*10<=1000*10:=Nat.mul_le_mul_right _ ae;omega
 have hc':0<=x/\x<tn:=by
  unfold cO at If
  split at If
  ·cases If
  omega
 refine(C8 R g1 An _ x aa j ac A O ta tn tc W hwr ae (hst.cell hA TO OR) (hst.cell hO kl kh) hc'.1 hc'.2 htn).mono ?_;exact xN
theorem KC(R g cap:Nat)(bs:LIz)(ha:OAz)(n hc:Nat)(A:Nat)(w:World)(O:Nat)(ta:OAz)(tn tc:Nat)(xs:LIz)(h:Wr w R g cap bs)(hb:bs.length+300000000000<=1099511627776)(hA:w.cell? (ZA A 0)=some (cW R))(TO:A≠R)(OR:A≠g)(hO:w.cell? (ZA O 0)=some (.slice ta tn tc))(kl:O≠R)(kh:O≠g)(htn:tn<=100000)(hr:∀(j:Nat)x,xs[j]? =some x->-9223372036854775808<=x/\x<9223372036854775808)(hmem:mE w ha n xs)(hne:∀b off c,ha=some ⟨b,off,c⟩->b≠R/\b≠g)(hx:bG (fun(_:LIz) x=>cO tn x) 32 xs=0) :
  Zw 134 #[cW R,.slice ha n hc,ZI 32,.func (.func 135) #[] #[.pointer (some ⟨A,0,none⟩),.pointer (some ⟨O,0,none⟩)]] w fun e w'=>∃(aa:OAz)(ac:Nat)(ys:LIz),e=.returned (.slice aa n ac)/\ys.length=n/\(∀(i:Nat)y,ys[i]? =some y->∃x,xs[i]? =some x/\(fun x y=>y=x) x y)/\∃g' cap',Wr w' R g' cap' (bs++(aw n++xs.flatMap (fun x=>aw x)))/\Stp R g g' w w':=by
 have hl:=hmem.1;unfold bG at hx
 split at hx
 ·cases hx
 rename_i hm;have hall:=br (fun(_:LIz) x=>cO tn x) xs [] hx;have DO:∀(i:Nat)y,xs[i]? =some y->(fun(_:LIz) x=>cO tn x) (xs.take i) y=0:=fun i y hi=>hall i y hi
 refine(Aw R g cap bs ha n hc 32 135 _ w xs (fun x=>aw x) (fun x y=>y=x) 10 h ae ae hmem hne (fun _ _=>rfl) (fun j x hj=>by
   have hc:=DO j x hj;exact(ay x).2) ae ae
  (fun j x hj=>uB R g cap bs n A w O ta tn tc xs h hb ae hA TO OR hO kl kh htn hr hl (fun x=>aw x) (j+1) (fun _ _ _ _=>rfl) (fun i y hi _=>DO i y hi) j x hj ae)).mono ?_
 exact sI
theorem KY(R g cap:Nat)(bs:LIz)(ha:OAz)(n hc:Nat)(A:Nat)(w:World)(O:Nat)(ta:OAz)(tn tc:Nat)(xs:LIz)(h:Wr w R g cap bs)(hb:bs.length+300000000000<=1099511627776)(hA:w.cell? (ZA A 0)=some (cW R))(TO:A≠R)(OR:A≠g)(hO:w.cell? (ZA O 0)=some (.slice ta tn tc))(kl:O≠R)(kh:O≠g)(htn:tn<=100000)(hr:∀(j:Nat)x,xs[j]? =some x->-9223372036854775808<=x/\x<9223372036854775808)(hmem:mE w ha n xs)(hne:∀b off c,ha=some ⟨b,off,c⟩->b≠R/\b≠g)(hx:bG (fun(_:LIz) x=>cO tn x) 32 xs≠0) :
  Zw 134 #[cW R,.slice ha n hc,ZI 32,.func (.func 135) #[] #[.pointer (some ⟨A,0,none⟩),.pointer (some ⟨O,0,none⟩)]] w (aQ R g (bG (fun(_:LIz) x=>cO tn x) 32 xs) w):=by
 have hl:=hmem.1;unfold bG at hx ⊢
 by_cases hm:(32:Int)<xs.length
 ·rw[if_pos hm];exact zm R g cap bs ha n hc 32 _ w h ae
 rw[if_neg hm]at hx ⊢;obtain⟨k,x,h1,h2,h3,h4⟩:=fh (fun(_:LIz) x=>cO tn x) xs [] hx;have hall:=br (fun(_:LIz) x=>cO tn x) (xs.take k) [] h2
 have DO:∀(i:Nat)y,xs[i]? =some y->i<k->(fun(_:LIz) x=>cO tn x) (xs.take i) y=0:=fun i y hi hik=>by
  exact sB
 rw[h4];try simp only[List.nil_append]at h3 ⊢
 obtain⟨E,hE⟩:∃E:Int->List Int,E=fun y=>if ((fun x=>aw x) y).length<=10 then (fun x=>aw x) y else []:=⟨_,rfl⟩
 have hEl:∀y,(E y).length<=10:=fun y=>by
  rw[hE];show(if ((fun x=>aw x) y).length<=10 then (fun x=>aw x) y else []).length<=10
  split
  ·assumption
  simp
 have hEe:∀(i:Nat)z,xs[i]? =some z->i<k->E z=(fun x=>aw x) z:=fun i z hi hik=>by
  have hc:=DO i z hi hik
  have hq:((fun x=>aw x) z).length<=10:=by
   exact(ay z).2
  rw[hE];exact if_pos hq
 refine Dt R g cap bs ha n hc 32 135 _ w xs E (fun x y=>y=x) 10 h ae ae hmem hne (fun _ _=>rfl) (fun j y hj=>hEl y) ae ae k x _ h1
  (fun j y hj hjk=>uB R g cap bs n A w O ta tn tc xs h hb ae hA TO OR hO kl kh htn hr hl E k hEe DO j y hj hjk) ?_
 intro ys W g1 An aa ac ON hys hst hwr hrow hab;have hlt:=aF h1;have hu:=ay (n:Int)
 have hbb:(bs++aw n++(xs.take k).flatMap E).length<=bs.length+10+1000*10:=by
  have hf:=cU E 10 (xs.take k) (fun i y _=>hEl y);rw[List.length_take]at hf;have e1:min k xs.length=k:=ae;rw[e1]at hf;rw[ZV,ZV];have:k*10<=1000*10:=Nat.mul_le_mul_right _ ae;omega
 have hbad:x<0\/(tn:Int)<=x:=by
  unfold cO at h3
  by_cases hq:x<0\/(tn:Int)<=x
  ·exact hq
  rw[if_neg hq]at h3; exact absurd rfl h3
 have hq30:cO tn x=30:=by unfold cO; rw[if_pos hbad]
 rw[hq30];exact JS R g1 An _ x aa k ac A O ta tn tc W hwr (hst.cell hA TO OR) (hst.cell hO kl kh) (hr k x h1).1 (hr k x h1).2 hbad htn
theorem py(R g cap:Nat)(bs:LIz)(n:Nat)(A:Nat)(w:World)(xs:List Gl)(h:Wr w R g cap bs)(hb:bs.length+300000000000<=1099511627776)(hn:n<=1000)(hA:w.cell? (ZA A 0)=some (cW R))(TO:A≠R)(OR:A≠g)(hr:∀(j:Nat)x,xs[j]? =some x->0<=x.1/\x.1<=255/\0<=x.2.2/\x.2.2<18446744073709551616)(hl:xs.length=n)(e:Gl->List Int)(k:Nat)(he:∀(i:Nat)y,xs[i]? =some y->i<k->e y=(dE) y)(hall:∀(i:Nat)y,xs[i]? =some y->i<k->(fun(_:List Gl) x=>fe x) (xs.take i) y=0)
  (j:Nat) (x:Gl) (hx:xs[j]? =some x) (hjk:j<k):VD R g w 138 #[ZP A 0] bs n xs e (fun x y=>y=x) j x:=by
 intro ys W g1 An aa ac ON hys hst hwr hrow hab;have hlt:=aF hx;have If:=hall j x hx hjk
 try simp only at If
 have henc:=he j x hx hjk
 have hlen:((xs.take j).flatMap e).length<=j*12:=by
  have:=cU e 12 (xs.take j) (fun i y hi=>by
   have hij:i<j:=ol;rw[List.getElem?_take_of_lt hij]at hi;rw[he i y hi ae];have hc:=hall i y hi ae;exact lq y)
  exact p9
 have hu:=ay (n:Int)
 have hbb:(bs++aw n++(xs.take j).flatMap e).length<=bs.length+10+1000*12:=by
  rw[ZV,ZV];have:j*12<=1000*12:=Nat.mul_le_mul_right _ ae;omega
 have hrx:=hr j x hx
 have hc':isL x.1=true/\ib x.2.2 x.1=true:=by
  unfold fe at If
  split at If
  ·cases If
  split at If
  ·cases If
  simp_all
 have hv:x.1=119->x.2.2<4294967296:=fun h119=>by
  have:=hc'.2;rw[h119]at this
  simpa[ib] using this
 refine(DF R g1 An _ x aa j ac A W hwr (hst.cell hA TO OR) (fun y=>y=x) (bs++aw n++(xs.take j).flatMap e++e x) (fun W2 hb2=>?_)).mono ?_
 ·refine(Al R g1 An _ x.1 x.2.2 x.2.1 W2 (hwr.later hb2) ae hrx.1 hrx.2.1 hrx.2.2.1 hrx.2.2.2 hc'.1 hv).mono ?_;exact xN
 exact yj
theorem Ao(R g cap:Nat)(bs:LIz)(ha:OAz)(n hc:Nat)(A:Nat)(w:World)(xs:List Gl)(h:Wr w R g cap bs)(hb:bs.length+300000000000<=1099511627776)(hA:w.cell? (ZA A 0)=some (cW R))(TO:A≠R)(OR:A≠g)(hr:∀(j:Nat)x,xs[j]? =some x->0<=x.1/\x.1<=255/\0<=x.2.2/\x.2.2<18446744073709551616)(hmem:qI w ha n xs)(hne:∀b off c,ha=some ⟨b,off,c⟩->b≠R/\b≠g)(hx:bG (fun(_:List Gl) x=>fe x) 64 xs=0) :
  Zw 137 #[cW R,.slice ha n hc,ZI 64,.func (.func 138) #[] #[.pointer (some ⟨A,0,none⟩)]] w fun e w'=>∃(aa:OAz)(ac:Nat)(ys:List Gl),e=.returned (.slice aa n ac)/\ys.length=n/\(∀(i:Nat)y,ys[i]? =some y->∃x,xs[i]? =some x/\(fun x y=>y=x) x y)/\∃g' cap',Wr w' R g' cap' (bs++(aw n++xs.flatMap (dE)))/\Stp R g g' w w':=by
 have hl:=hmem.1;unfold bG at hx
 split at hx
 ·cases hx
 rename_i hm;have hall:=br (fun(_:List Gl) x=>fe x) xs [] hx;have DO:∀(i:Nat)y,xs[i]? =some y->(fun(_:List Gl) x=>fe x) (xs.take i) y=0:=fun i y hi=>hall i y hi
 refine(AB R g cap bs ha n hc 64 138 _ w xs (dE) (fun x y=>y=x) 12 h ae ae hmem hne (fun _ _=>rfl) (fun j x hj=>by
   have hc:=DO j x hj;exact lq x) ae ae
  (fun j x hj=>py R g cap bs n A w xs h hb ae hA TO OR hr hl (dE) (j+1) (fun _ _ _ _=>rfl) (fun i y hi _=>DO i y hi) j x hj ae)).mono ?_
 exact sI
theorem DD(R g cap:Nat)(bs:LIz)(ha:OAz)(n hc:Nat)(A:Nat)(w:World)(xs:List Gl)(h:Wr w R g cap bs)(hb:bs.length+300000000000<=1099511627776)(hA:w.cell? (ZA A 0)=some (cW R))(TO:A≠R)(OR:A≠g)(hr:∀(j:Nat)x,xs[j]? =some x->0<=x.1/\x.1<=255/\0<=x.2.2/\x.2.2<18446744073709551616)(hmem:qI w ha n xs)(hne:∀b off c,ha=some ⟨b,off,c⟩->b≠R/\b≠g)(hx:bG (fun(_:List Gl) x=>fe x) 64 xs≠0) :
  Zw 137 #[cW R,.slice ha n hc,ZI 64,.func (.func 138) #[] #[.pointer (some ⟨A,0,none⟩)]] w (aQ R g (bG (fun(_:List Gl) x=>fe x) 64 xs) w):=by
 have hl:=hmem.1;unfold bG at hx ⊢
 by_cases hm:(64:Int)<xs.length
 ·rw[if_pos hm];exact xg R g cap bs ha n hc 64 _ w h ae
 rw[if_neg hm]at hx ⊢;obtain⟨k,x,h1,h2,h3,h4⟩:=fh (fun(_:List Gl) x=>fe x) xs [] hx;have hall:=br (fun(_:List Gl) x=>fe x) (xs.take k) [] h2
 have DO:∀(i:Nat)y,xs[i]? =some y->i<k->(fun(_:List Gl) x=>fe x) (xs.take i) y=0:=fun i y hi hik=>by
  exact sB
 rw[h4];try simp only[List.nil_append]at h3 ⊢
 obtain⟨E,hE⟩:∃E:Gl->List Int,E=fun y=>if ((dE) y).length<=12 then (dE) y else []:=⟨_,rfl⟩
 have hEl:∀y,(E y).length<=12:=fun y=>by
  rw[hE];show(if ((dE) y).length<=12 then (dE) y else []).length<=12
  split
  ·assumption
  simp
 have hEe:∀(i:Nat)z,xs[i]? =some z->i<k->E z=(dE) z:=fun i z hi hik=>by
  have hc:=DO i z hi hik
  have hq:((dE) z).length<=12:=by
   exact lq z
  rw[hE];exact if_pos hq
 refine DC R g cap bs ha n hc 64 138 _ w xs E (fun x y=>y=x) 12 h ae ae hmem hne (fun _ _=>rfl) (fun j y hj=>hEl y) ae ae k x _ h1
  (fun j y hj hjk=>py R g cap bs n A w xs h hb ae hA TO OR hr hl E k hEe DO j y hj hjk) ?_
 intro ys W g1 An aa ac ON hys hst hwr hrow hab;have hlt:=aF h1;have hu:=ay (n:Int)
 have hbb:(bs++aw n++(xs.take k).flatMap E).length<=bs.length+10+1000*12:=by
  have hf:=cU E 12 (xs.take k) (fun i y _=>hEl y);rw[List.length_take]at hf;have e1:min k xs.length=k:=ae;rw[e1]at hf;rw[ZV,ZV];have:k*12<=1000*12:=Nat.mul_le_mul_right _ ae;omega
 have hrx:=hr k x h1;refine JY R g1 An _ x aa k ac A W hwr (hst.cell hA TO OR) _ (fun W2 hb2=>?_);unfold fe at h3 ⊢
 by_cases c1:isL x.1=false
 ·rw[if_pos c1];exact Em R g1 An _ x.1 x.2.2 x.2.1 W2 (hwr.later hb2) c1
 rw[if_neg c1]at h3 ⊢
 by_cases c2:ib x.2.2 x.1=false
 ·rw[if_pos c2]
  have h119:x.1=119:=by
   have c1':isL x.1=true:=by simpa using c1
   simp[isL]at c1'
   rcases c1' with h | h
   ·exact h
   rw[h]at c2; simp[ib]at c2
  rw[h119]at c2 ⊢;exact DI R g1 An _ x.2.2 x.2.1 W2 (hwr.later hb2) ae hrx.2.2.1 hrx.2.2.2 (by simp[ib]at c2; omega)
 rw[if_neg c2]at h3; exact absurd rfl h3
theorem UQ:∃i,prog.info? 83=some i/\i.zero=some (.agg #[.string ⟨#[]⟩,ZI 0])/\i.size=2/\i.bytes=24:=CH ak
def lu(y:Ex):List Value:=[.string y.1,ZI y.2]
abbrev Vj(x:Ex):Value:=.agg #[.string x.1,ZI x.2]
abbrev WI(y:Ex):Value:=.agg #[.string y.1,ZI y.2]
def qw(w:World)(a:OAz)(n:Nat)(xs:List Ex):Prop :=
 xs.length=n/\(n=0\/∃b off,a=some (ZA b off)/\∀(j:Nat)x,xs[j]? =some x->w.cell? (ZA b (off+j*2))=some (.string x.1)/\w.cell? (ZA b (off+j*2+1))=some (ZI x.2))
variable {S:Zam}{w w':World}{a:OAz}{n:Nat}
theorem qw.kept{xs:List Ex}(h:qw w a n xs)(hk:Kept S w w')(hS:∀b off c,a=some ⟨b,off,c⟩->¬S b):qw w' a n xs:=by
 exact zW
theorem AV(w:World)(y:Ex):∀j u,(lu y)[j]? =some u->(w.alloc (bK y.1 y.2)).cell? (((ZA w.heap.size 0):Addr).add j)=some u:=by
 intro j u hj;have hlt:=aF hj;have hl:(lu y).length=2:=rfl;rw[hl]at hlt;have hadd:((ZA w.heap.size 0):Addr).add j=(ZA w.heap.size j):=iI;rw[hadd];have hb:=(ZZ w (bK y.1 y.2)).1;simp only[World.cell?,hb]
 simpa[lu] using hj
theorem Be(y:Ex):∀u∈lu y,u.oneCell'=true:=by
 intro u hu;simp[lu]at hu
 rcases hu with rfl | rfl <;> rfl
abbrev Vp:=@rJ Ex Ex lu Vj WI 83 2
namespace LEx
abbrev oC0:=lu
abbrev cL(x:Ex):Obj:=.cells #[.string x.1,ZI x.2] 83
abbrev cM(y:Ex):Obj:=.cells #[.string y.1,ZI y.2] 83
theorem nC(w:World)(y:Ex):∀j u,(lu y)[j]? =some u->(w.alloc (cM y)).cell? (((ZA w.heap.size 0):Addr).add j)=some u:=AV w y
theorem oC(y:Ex):∀u∈lu y,u.oneCell'=true:=Be y
theorem uN:Tryz.prog.underlying 27=some (.slice 83):=Tryz.underlying27
end LEx
open LEx in
theorem Bw:qf 147 lu Vj WI qw 83 2:=by
 intro R g cap bs ha n hc most K cs w xs enc Ok M h hn hm hmem hne hK hlen hM hb Do;have du:=bH;have hcc:=cN;have HC:=hid (bU R g cap bs n most w h hm ae ae);have OF:=h.lt;have hgl:=h.g_lt;have hxl:=hmem.1;obtain⟨HM,ZD,HE⟩:=ZH hmem hne Do;obtain⟨i0,hi,hz0,hz1,hz2⟩:=UQ;clear h hmem Do hne;go_enter Tryz.func147,Tryz.ntmps147
 go_wp2_with fail;refine HC.out.mono ?_;rintro e w2⟨rfl,g1,An,hw2,hs2⟩;obtain⟨W2,S2⟩:=Zz hw2 hs2;clear hw2 hs2 HC du hcc;go_wp2_with fail
 go_loopw [9,17] (fun o i wr=>rV oC0 83 2 R g w bs n xs enc Ok n o i wr) (fun _ i _=>n-(intOf i).toNat)
 case atStart=>exact⟨0,[],none,0,g1,An,ae,rfl,rfl,rfl,(fun i y h=>ip),Z7 _ _ _ _,(fun b h=>bS),iu,S2.out⟩
 case round =>
  exact LG
open LEx in
theorem Dk:uy 147 lu Vj WI qw 83 2:=by
 intro R g cap bs ha n hc most K cs w xs enc Ok M h hn hm hmem hne hK hlen hM hb k xk er hk Do hno;have hkn:=aF hk;have du:=bH;have hcc:=cN;have HC:=hid (bU R g cap bs n most w h hm ae ae);have OF:=h.lt;have hgl:=h.g_lt;have hxl:=hmem.1;obtain⟨HM,ZD,HE,HN⟩:=ZF hmem hne Do hno;obtain⟨i0,hi,hz0,hz1,hz2⟩:=UQ;clear h hmem Do hne hno;go_enter Tryz.func147,Tryz.ntmps147
 go_wp2_with fail;refine HC.out.mono ?_;rintro e w2⟨rfl,g1,An,hw2,hs2⟩;obtain⟨W2,S2⟩:=Zz hw2 hs2;clear hw2 hs2 HC du hcc;go_wp2_with fail
 go_loopw [9,17] (fun o i wr=>rV oC0 83 2 R g w bs n xs enc Ok k o i wr) (fun _ i _=>n-(intOf i).toNat)
 case atStart=>exact⟨0,[],none,0,g1,An,ae,rfl,rfl,rfl,(fun i y h=>ip),Z7 _ _ _ _,(fun b h=>bS),iu,S2.out⟩
 case round =>
  exact Ox
theorem wW(R g cap:Nat)(bs:LIz)(ha:OAz)(n hc:Nat)(most:Int)(f:Value)(w:World)(h:Wr w R g cap bs)(hm:most<(n:Int)) :
  Calls Tryz.prog 147 #[cW R,.slice ha n hc,ZI most,f] w (aQ R g 20 w):=by
 have du:=bH;have hcc:=cN;have HC:=hid (fN R g cap bs n most w h hm);clear h;go_enter Tryz.func147,Tryz.ntmps147;exact lT
theorem qK(s:BAz)(w:World)(hs:s.size<=1000000):Calls Tryz.prog 200 #[.string s] w (ZC (.bool (kU s)) w):=by
 obtain⟨c,W,hrun,hseg,hbl,hsz⟩:=tQ w s hs
 have hc:∀j,j<s.size->W.cell? (ZA w.heap.size j)=some (ZU ((bh s).getD j 0)):=by
  rcases hseg.2.2.2.2 with h0 | ⟨b,off,hb,h⟩
  ·intro j hj; omega
  simp at hb;obtain⟨rfl,rfl⟩:=hb;intro j hj;have:=h j hj
  rwa [Nat.zero_add]at this
 have hcap:=hseg.2.1;have hsl:=gm s;have HB:=hid hbl;have HNM:Hid (kU s=((bh s).all (fun b=>decide (33<=b)&&decide (b<=126))&&!s.toList.isEmpty)):=rfl;generalize kU s=N at *;generalize bh s=zs at *;clear hseg hbl;go_enter Tryz.func200,Tryz.ntmps200
 go_wp2_with fail;clear hrun
 go_loopw [8] (fun i wr=>∃j:Nat,j<=s.size/\i=ZI j/\wr=W/\(zs.take j).all (fun b=>decide (33<=b)&&decide (b<=126))=true) (fun i _=>s.size-(intOf i).toNat)
 case atStart=>exact⟨0,ae,rfl,rfl,av⟩
 case round =>
  obtain⟨j,hj,rfl,rfl,hall⟩:=hrel;have HALL:=hid hall;clear hall
  by_cases hlt:j<s.size
  ·have lP:=hc j hlt;have hjz:j<zs.length:=ae
   have hgd:zs.getD j 0=zs[j]:=by simp[List.getD,hjz]
   have HZ:=hid hgd;rw[hgd]at lP;have HJ:=hid (List.take_succ_eq_append_getElem hjz);have HMEM:Hid (zs[j]∈zs):=List.getElem_mem hjz;generalize zs[j]=b at *;clear hgd hc
   by_cases h33:b<33
   ·have d1:decide (b<33)=true:=by simp[h33]
    exact Qs
   have d1:decide (b<33)=false:=aA
   by_cases h126:126<b
   ·have d2:decide (126<b)=true:=by simp[h126]
    exact Qs
   have d2:decide (126<b)=false:=aA;go_wp2_with fail
   go_roundw
   ·refine⟨j+1,ae,rfl,?_,?_⟩
    ·first | rfl | trivial
    rw[HJ.out,List.all_append,HALL.out];simp; omega
   simp[intOf]; omega
  obtain rfl:j=s.size:=ae;have ht:zs.take s.size=zs:=ZY ae;rw[ht]at HALL;go_wp2_with fail;go_ret;refine⟨?_,HB.out⟩;rw[HNM.out,HALL.out];simp
section
variable (s:BAz) (p:Int) (A:Nat) (aa:OAz) (an ac:Nat) (ys:List Ex) (w:World)
theorem KV(hs:s.size<=1000000)(hn:kU s=false):Calls Tryz.prog 199 #[.string s,ZI p,ZP A 0] w (nT 23 w):=by
 have HI:=hid (qK s w hs);rw[hn]at HI;go_enter Tryz.func199,Tryz.ntmps199
 go_wp2_with fail;refine HI.out.mono ?_;rintro e w1⟨rfl,hb⟩;have HB:=hid hb;clear hb HI;go_wp2_with fail;refine(gi rfl).mono ?_;rintro e w1⟨rfl,rfl⟩;exact⟨rfl,⟨_,rfl⟩,HB.out⟩
theorem vI(hl:ys.length=an)(hrow:w.ownsRow 0 83 2 (.slice aa an ac) an (ys.flatMap lu))(h0:0<an):∃B y,aa=some (ZA B 0)/\ys.getLast? =some y/\w.cell? (ZA B ((an-1)*2))=some (.string y.1):=by
 obtain⟨y,hy⟩:=ZB ys (an-1) ae;obtain⟨B,hB,hc⟩:=lA (oc:=lu) (t:=0) (u:=.string y.1) (fun _=>rfl) hrow hy rfl;refine⟨B,y,hB,?_,hc⟩;rw[List.getLast?_eq_getElem?,hl];exact hy
theorem uu(hs:s.size<=1000000)(hn:kU s=true)(hl:ys.length=an)(sd:an<=100000)(hrow:w.ownsRow 0 83 2 (.slice aa an ac) an (ys.flatMap lu))(ho:gP ys s=false)(hA:w.cell? (ZA A 0)=some (.slice aa an ac)) :
  Calls Tryz.prog 199 #[.string s,ZI p,ZP A 0] w (nV w):=by
 have HI:=hid (qK s w hs);rw[hn]at HI;have hAl:=ZQ hA;obtain⟨HA,HR⟩:=Zz hA hrow;clear hA hrow;go_enter Tryz.func199,Tryz.ntmps199
 go_wp2_with fail;refine HI.out.mono ?_;rintro e w1⟨rfl,hb⟩;have HB:=hid hb
 have io:=(hb.cell (by exact hAl)).trans HA.out;have R1:=hid (aV HR.out (fun B hB=>hb.block B (aL HR.out hB)));clear hb HI
 by_cases h0:an=0
 ·subst h0;go_wp2_with fail;refine(dG rfl).mono ?_;rintro e w1⟨rfl,rfl⟩;go_wp2_with fail;refine(dG rfl).mono ?_;rintro e w1⟨rfl,rfl⟩;go_wp2_with fail;go_end0;exact⟨rfl,HB.out⟩
 obtain⟨B,y,rfl,hy,hcell⟩:=vI aa an ac ys w1 hl R1.out ae
 have hg:(!Op.bytesLess s.toList y.1.toList&&!s.toList==y.1.toList)=true:=by
  have:=ho;unfold gP at this;rw[hy]at this
  simpa[sGt] using this
 have hz:((an:Int)==0)=false:=aA;go_wp2_with fail;refine(dG rfl).mono ?_;rintro e w1⟨rfl,rfl⟩;go_wp2_with fail
 refine(dG (by first | rfl | exact hg)).mono ?_
 rintro e w1⟨rfl,rfl⟩;go_wp2_with fail;go_end0;exact⟨rfl,HB.out⟩
theorem JK(hs:s.size<=1000000)(hn:kU s=true)(hl:ys.length=an)(sd:an<=100000)(hrow:w.ownsRow 0 83 2 (.slice aa an ac) an (ys.flatMap lu))(ho:gP ys s=true)(hA:w.cell? (ZA A 0)=some (.slice aa an ac)) :
  Calls Tryz.prog 199 #[.string s,ZI p,ZP A 0] w (nT 18 w):=by
 have HI:=hid (qK s w hs);rw[hn]at HI;have hAl:=ZQ hA;obtain⟨HA,HR⟩:=Zz hA hrow;clear hA hrow;go_enter Tryz.func199,Tryz.ntmps199
 go_wp2_with fail;refine HI.out.mono ?_;rintro e w1⟨rfl,hb⟩;have HB:=hid hb
 have io:=(hb.cell (by exact hAl)).trans HA.out;have R1:=hid (aV HR.out (fun B hB=>hb.block B (aL HR.out hB)));clear hb HI
 have h0:0<an:=by
  rcases Nat.eq_zero_or_pos an with h | h
  ·have:ys=[]:=Z6 ae;subst this
   simp[gP]at ho
  exact h
 obtain⟨B,y,rfl,hy,hcell⟩:=vI aa an ac ys w1 hl R1.out h0
 have hg:(!Op.bytesLess s.toList y.1.toList&&!s.toList==y.1.toList)=false:=by
  have:=ho;unfold gP at this;rw[hy]at this
  cases hq:(!Op.bytesLess s.toList y.1.toList&&!s.toList==y.1.toList)
  ·rfl
  simp[sGt,hq]at this
 have hz:((an:Int)==0)=false:=aA;go_wp2_with fail;refine(dG rfl).mono ?_;rintro e w1⟨rfl,rfl⟩;go_wp2_with fail
 refine(gi (by first | rfl | exact hg)).mono ?_
 rintro e w1⟨rfl,rfl⟩;exact⟨rfl,⟨_,rfl⟩,HB.out⟩
end
def rX(w:World)(nm:BAz)(fn:Int)(aa:OAz)(an ac:Nat):World :=
 ((w.alloc (bK nm fn)).alloc (.cells #[.slice aa an ac] 27)).alloc (bK ⟨#[]⟩ 0)
theorem pn(w:World)(nm:BAz)(fn:Int)(aa:OAz)(an ac:Nat):Zx w (rX w nm fn aa an ac)/\(rX w nm fn aa an ac).heap.size=w.heap.size+1+1+1 /\
  (rX w nm fn aa an ac).heap[w.heap.size]? =some (bK nm fn)/\(rX w nm fn aa an ac).cell? (ZA (w.heap.size+1) 0)=some (.slice aa an ac)/\(rX w nm fn aa an ac).heap[w.heap.size+1+1]? =some (bK ⟨#[]⟩ 0):=by
 unfold rX;refine⟨(((ZT _ w).alloc lRn _).alloc av _).alloc bI _,av,?_,dB,?_⟩
 ·rw[(aj ((w.alloc (bK nm fn)).alloc (.cells #[.slice aa an ac] 27)) _).block w.heap.size bI,(aj (w.alloc (bK nm fn)) _).block w.heap.size av];exact(ZZ w _).1
 have:=(ZZ ((w.alloc (bK nm fn)).alloc (.cells #[.slice aa an ac] 27)) (bK ⟨#[]⟩ 0)).1;exact cR
section
variable (R g cap:Nat) (bs:LIz) (nm:BAz) (fn nf:Int) (aa:OAz) (an ac:Nat) (ys:List Ex) (w:World)
theorem ve(h:Wr w R g cap bs)(x:Int)(hrow:w.ownsRow 0 83 2 (.slice aa an ac) an (ys.flatMap lu))
  (ht:∀W,Wr W R g cap bs->W.ownsRow 0 83 2 (.slice aa an ac) an (ys.flatMap lu)->W.cell? (ZA (w.heap.size+1) 0)=some (.slice aa an ac)->Calls Tryz.prog 323 #[ZP R 0,.string nm,ZI 32,.func (.func 199) #[] #[.pointer (some ⟨w.heap.size+1,0,none⟩)]] W (aQ R g x W)) :
  Calls Tryz.prog 149 #[cW R,.agg #[.string nm,ZI fn],.slice aa an ac,ZI nf] w (aQ R g x w):=by
 have hmt:=eW;have hct:=fO;obtain⟨B0,z0,x0,x1,x2⟩:=pn w nm fn aa an ac;obtain⟨a0,a1,_,_⟩:=cS x0;have HW:((w.alloc (bK nm fn)).alloc (.cells #[.slice aa an ac] 27)).alloc (bK ⟨#[]⟩ 0)=rX w nm fn aa an ac:=rfl;generalize rX w nm fn aa an ac=W1 at *;have HT:=hid (ht W1 (h.later B0) (aV hrow (fun B hB=>B0.block B (aL hrow hB))) x1);have BW:=hid B0;clear ht h B0 hrow;go_enter Tryz.func149,Tryz.ntmps149;exact F9
theorem C6(h:Wr w R g cap bs)(hb:bs.length+200<=1099511627776)(hl:ys.length=an)(sd:an<=100000)(hrow:w.ownsRow 0 83 2 (.slice aa an ac) an (ys.flatMap lu))(hne:∀b,aa=some b->b.block≠R/\b.block≠g)
  (vf:-9223372036854775808<=fn) (qk:fn<9223372036854775808) (hnf0:0<=nf) (hnf:nf<9223372036854775808) (hx:eI nf ys (nm,fn)=0) :
  Calls Tryz.prog 149 #[cW R,.agg #[.string nm,ZI fn],.slice aa an ac,ZI nf] w (qX R g bs (eJ (nm,fn)) (.agg #[.string nm,ZI fn]) w):=by
 have hx':nm.size<=32/\kU nm=true/\gP ys nm=false/\0<=fn/\fn<nf:=by
  unfold eI cO at hx;simp only at hx
  split at hx
  ·cases hx
  split at hx
  ·cases hx
  split at hx
  ·cases hx
  split at hx
  ·cases hx
  refine⟨ae,by simp_all,by simp_all,ae,ae⟩
 obtain⟨s1,n1,o1,f0,f1⟩:=hx';clear hx;have hmt:=eW;have hct:=fO;obtain⟨B0,z0,x0,x1,x2⟩:=pn w nm fn aa an ac;obtain⟨a0,a1,_,_⟩:=cS x0;have HW:((w.alloc (bK nm fn)).alloc (.cells #[.slice aa an ac] 27)).alloc (bK ⟨#[]⟩ 0)=rX w nm fn aa an ac:=rfl;have OF:=h.lt;have hgl:=h.g_lt;have u1:=ek nm 32 s1;generalize rX w nm fn aa an ac=W1 at *;have HT:=hid (fg R g cap bs nm 32 199 #[ZP (w.heap.size+1) 0] W1 (h.later B0) ae ae ae (fun _ _=>rfl) (uu nm _ (w.heap.size+1) aa an ac ys W1 ae n1 hl sd (aV hrow (fun B hB=>B0.block B (aL hrow hB))) o1 x1));have BW:=hid B0;clear h B0 hrow;go_enter Tryz.func149,Tryz.ntmps149
 go_wp2_with fail;refine HT.out.mono ?_;rintro e w2⟨rfl,g1,An,hw2,hs2⟩;have y0:=(hs2.block (b:=w.heap.size) ae ae ae).trans x0;have y2:=(hs2.block (b:=w.heap.size+1+1) ae ae ae).trans x2;have n2:w.heap.size+1+1≠g1:=hs2.ne ae ae;obtain⟨b0,b1,_,_⟩:=cS y0;have S2:=hid ((Stp.of_below BW.out).trans hs2);have z2:=hs2.size;have HX:=hid (iq R g1 An (bs++gz nm) fn nf w2 hw2 aA f0 f1 hnf);clear hs2 HT hw2 x0 x1 x2 a0 a1 hmt hct HW;go_wp2_with fail;refine HX.out.mono ?_;rintro e w3⟨rfl,g2,cap2,hw3,hs3⟩;have q2:=(hs3.block (b:=w.heap.size+1+1) ae ae n2).trans y2;have n3:w.heap.size+1+1≠g2:=hs3.ne ae n2;obtain⟨c0,c1,c2,c3⟩:=cS q2;have W3:=hid hw3;have S3:=hid (S2.out.trans hs3);clear hw3 hs3 HX y0 y2 b0 b1;go_wp2_with fail;refine i4 (v:=.agg #[.string nm,ZI fn]) ?_ rfl ⟨rfl,g2,cap2,?_,?_⟩
 ·exact iw
 ·have:=(W3.out.set (b:=w.heap.size+1+1) (o:=0) (v:=.string nm) ae n3).set (b:=w.heap.size+1+1) (o:=1) (v:=ZI fn) ae n3
  simpa[eJ,Z2] using this
 exact(S3.out.set ae).set ae
theorem Ko(h:Wr w R g cap bs)(hb:bs.length+200<=1099511627776)(hl:ys.length=an)(sd:an<=100000)(hrow:w.ownsRow 0 83 2 (.slice aa an ac) an (ys.flatMap lu))
  (vf:-9223372036854775808<=fn) (qk:fn<9223372036854775808) (hnf0:0<=nf) (hnf:nf<9223372036854775808) (s1:nm.size<=32) (n1:kU nm=true) (o1:gP ys nm=false) (hbad:fn<0\/nf<=fn) :
  Calls Tryz.prog 149 #[cW R,.agg #[.string nm,ZI fn],.slice aa an ac,ZI nf] w (aQ R g 30 w):=by
 have hmt:=eW;have hct:=fO;obtain⟨B0,z0,x0,x1,x2⟩:=pn w nm fn aa an ac;obtain⟨a0,a1,_,_⟩:=cS x0;have HW:((w.alloc (bK nm fn)).alloc (.cells #[.slice aa an ac] 27)).alloc (bK ⟨#[]⟩ 0)=rX w nm fn aa an ac:=rfl;have OF:=h.lt;have hgl:=h.g_lt;generalize rX w nm fn aa an ac=W1 at *;have HT:=hid (fg R g cap bs nm 32 199 #[ZP (w.heap.size+1) 0] W1 (h.later B0) ae ae ae (fun _ _=>rfl) (uu nm _ (w.heap.size+1) aa an ac ys W1 ae n1 hl sd (aV hrow (fun B hB=>B0.block B (aL hrow hB))) o1 x1));have BW:=hid B0;clear h B0 hrow;go_enter Tryz.func149,Tryz.ntmps149
 go_wp2_with fail;refine HT.out.mono ?_;rintro e w2⟨rfl,g1,An,hw2,hs2⟩;have y0:=(hs2.block (b:=w.heap.size) ae ae ae).trans x0;obtain⟨b0,b1,_,_⟩:=cS y0;have S2:=hid ((Stp.of_below BW.out).trans hs2);have HX:=hid (mM R g1 An _ fn nf w2 hw2 vf qk hbad hnf0 hnf);clear hs2 HT hw2 x0 x1 x2 a0 a1 hmt hct HW;exact FH
theorem Ku(h:Wr w R g cap bs)(hb:bs.length+200<=1099511627776)(hs:nm.size<=1000000\/32<nm.size)(hl:ys.length=an)(sd:an<=100000)(hrow:w.ownsRow 0 83 2 (.slice aa an ac) an (ys.flatMap lu))
  (vf:-9223372036854775808<=fn) (qk:fn<9223372036854775808) (hnf0:0<=nf) (hnf:nf<9223372036854775808) (hx:eI nf ys (nm,fn)≠0) :
  Calls Tryz.prog 149 #[cW R,.agg #[.string nm,ZI fn],.slice aa an ac,ZI nf] w (aQ R g (eI nf ys (nm,fn)) w):=by
 unfold eI cO at hx ⊢;simp only at hx ⊢
 by_cases s1:32<nm.size
 ·rw[if_pos s1]
  exact ve R g cap bs nm fn nf aa an ac ys w h 13 hrow (fun W hW _ _=>ie R g cap bs nm 32 _ W hW ae)
 rw[if_neg s1]at hx ⊢
 by_cases n1:kU nm=false
 ·rw[if_pos n1]
  exact ve R g cap bs nm fn nf aa an ac ys w h 23 hrow (fun W hW _ _=>gQ R g cap bs nm 32 199 _ 23 W hW ae (fun _ _=>rfl) (KV nm _ _ W ae n1))
 rw[if_neg n1]at hx ⊢
 have n1':kU nm=true:=by simpa using n1
 by_cases o1:gP ys nm=true
 ·rw[if_pos o1]
  exact ve R g cap bs nm fn nf aa an ac ys w h 18 hrow (fun W hW hr hc=>gQ R g cap bs nm 32 199 _ 18 W hW ae (fun _ _=>rfl) (JK nm _ _ aa an ac ys W ae n1' hl sd hr o1 hc))
 rw[if_neg o1]at hx ⊢
 have o1':gP ys nm=false:=by simpa using o1
 by_cases f1:fn<0\/nf<=fn
 ·rw[if_pos f1];exact Ko R g cap bs nm fn nf aa an ac ys w h hb hl sd hrow vf qk hnf0 hnf ae n1' o1' f1
 rw[if_neg f1]at hx; exact absurd rfl hx
end
end
end Go.Proofs.YtheefojaplnnoaaGreatDoor
