/-
  Texts Wf Wq.
-/
import Derived.Test.YtheefojaplnnoaaGreatDoorY00
import Derived.Test.YtheefojaplnnoaaGreatDoorY01
import Derived.Test.YtheefojaplnnoaaGreatDoorY10
import Derived.Test.YtheefojaplnnoaaGreatDoorY13
set_option linter.unusedVariables false
set_option maxRecDepth 100000
set_option maxHeartbeats 16000000
namespace Go.Proofs.YtheefojaplnnoaaGreatDoor
open Go.RowKit
theorem ry(a:Addr)(w:World):(nilAhead 481 150 (.pointer (some a)) "flagon/module.text").run Tryz.prog w=.ok (some false) w:=rfl
abbrev SLv:=Option Addr×Nat×Nat
abbrev InM:=Int×Int×SLv×List Int
def nT(w:World)(R:Nat)(ty:Int)(lo:ByteArray)(ca:Option Addr)(cn cc:Nat):World :=
 ((w.alloc (cE (cW R))).alloc (aR ty lo ca cn cc)).alloc (aR 0 ⟨#[]⟩ none 0 0)
theorem kq(w:World)(R:Nat)(ty:Int)(lo:ByteArray)(ca:Option Addr)(cn cc:Nat):Below w.heap.size w (nT w R ty lo ca cn cc)∧(nT w R ty lo ca cn cc).heap.size=w.heap.size+1+1+1 ∧
  (nT w R ty lo ca cn cc).cell? ⟨w.heap.size,0,none⟩=some (cW R)∧(nT w R ty lo ca cn cc).heap[w.heap.size+1]? =some (aR ty lo ca cn cc) ∧
  (nT w R ty lo ca cn cc).heap[w.heap.size+1+1]? =some (aR 0 ⟨#[]⟩ none 0 0):=by
 unfold nT;refine⟨(((Below.refl _ w).alloc (Nat.le_refl _) _).alloc ar _).alloc bu _,ar,cg,?_,?_⟩
 ·rw[(ag ((w.alloc (cE (cW R))).alloc (aR ty lo ca cn cc)) _).block (w.heap.size+1) ar]
  have:=(MapKept.heap_alloc (w.alloc (cE (cW R))) (aR ty lo ca cn cc)).1
  exact bJ
 ·have:=(MapKept.heap_alloc ((w.alloc (cE (cW R))).alloc (aR ty lo ca cn cc)) (aR 0 ⟨#[]⟩ none 0 0)).1
  exact bJ
section
variable (R g cap:Nat) (bs:List Int) (t:Nat) (left:Int) (lo:ByteArray) (ca:Option Addr) (cn cc:Nat) (sa:Option Addr) (sn sc:Nat) (sg:List Sg) (w:World)
theorem Fz(ty:Int)(h:Wr w R g cap bs)(h0:-9223372036854775808≤ty)(h1:ty<9223372036854775808)(hbad:ty<0∨(sn:Int)≤ty)(hs:sn≤100000) :
  Calls Tryz.prog 143 #[cW R,.agg #[.int .i64 ty,.string lo,.slice ca cn cc],.slice sa sn sc,.int .i64 left] w (aT R g 30 w):=by
 obtain⟨B0,z0,x0,x1,x2⟩:=kq w R ty lo ca cn cc;have HW:((w.alloc (cE (cW R))).alloc (aR ty lo ca cn cc)).alloc (aR 0 ⟨#[]⟩ none 0 0)=nT w R ty lo ca cn cc:=rfl;generalize nT w R ty lo ca cn cc=W1 at *;have HX:=hid (lj R g cap bs ty sn W1 (h.later B0) h0 h1 hbad ae ae);have BW:=hid B0;obtain⟨a0,a1,a2,_,_,_⟩:=aB x1;clear h B0
 go_enter Tryz.func143,Tryz.ntmps143
 go_wp2_with fail;refine HX.out.mono ?_;rintro e w2⟨⟨q,rfl⟩,hk⟩;exact⟨rfl,⟨q,rfl⟩,(aN BW.out).trans hk⟩
theorem xO(h:Wr w R g cap bs)(hb:bs.length+10000000≤1099511627776)(hs:sn≤100000)(ht:t<sn)(hsg:b9 w sa sn sg)(hne:∀b off c,sa=some ⟨b,off,c⟩→b≠R∧b≠g)(hp8:∀p r,sg[t]? =some (p,r)→p.size≤8)(x:Int)
  (htx:∀W g1 cap1 p r,sg[t]? =some (p,r)→p.size≤8→Wr W R g1 cap1 (bs++ax t)→Calls Tryz.prog 323 #[.pointer (some ⟨R,0,none⟩),.string lo,.int .i64 (64-p.size),.func (.func 183) #[] #[]] W (aT R g1 x W)) :
  Calls Tryz.prog 143 #[cW R,.agg #[.int .i64 t,.string lo,.slice ca cn cc],.slice sa sn sc,.int .i64 left] w (aT R g x w):=by
 obtain⟨B0,z0,x0,x1,x2⟩:=kq w R t lo ca cn cc;have HW:((w.alloc (cE (cW R))).alloc (aR t lo ca cn cc)).alloc (aR 0 ⟨#[]⟩ none 0 0)=nT w R t lo ca cn cc:=rfl;have hRl:=h.lt;have hgl:=h.g_lt;have hlen:=hsg.1;obtain⟨p,r,hp⟩:∃p r,sg[t]? =some (p,r):=⟨_,_,aO ae⟩;have hps:=hp8 p r hp
 obtain⟨sb,so,rfl,hsc⟩:∃b off,sa=some ⟨b,off,none⟩∧∀j x,sg[j]? =some x→w.cell? ⟨b,off+j*2,none⟩=some (.string x.1)∧w.cell? ⟨b,off+j*2+1,none⟩=some (.string x.2):=by
  exact vS
 have hsp:=(hsc t (p,r) hp).1
 simp only at hsp
 have hsbn:=hne _ _ _ rfl;have hsbl:=block_lt_of_cell hsp;have u1:=aG (t:Int);generalize nT w R t lo ca cn cc=W1 at *;have HX:=hid (gI R g cap bs t sn W1 (h.later B0) ae ae ae ae)
 have s0:=(B0.cell (p:=⟨sb,so+t*2,none⟩) (by exact hsbl)).trans hsp
 have BW:=hid B0;obtain⟨a0,a1,a2,_,_,_⟩:=aB x1;have hsub:=i64_in (64-(p.size:Int)) ae ae;have hmt:=dQ;have hct:=eZ;have hnt:=ry;clear h B0 hsc hsg
 go_enter Tryz.func143,Tryz.ntmps143
 go_wp2_with fail;refine HX.out.mono ?_;rintro e w2⟨rfl,g1,cap1,hw2,hs2⟩;have y0:=hs2.cell x0 ae ae;have y1:=(hs2.block (b:=w.heap.size+1) ae ae ae).trans x1;have y2:=(hs2.block (b:=w.heap.size+1+1) ae ae ae).trans x2;have ys:=hs2.cell s0 hsbn.1 hsbn.2;have n0:w.heap.size≠g1:=hs2.ne ae ae;have n1:w.heap.size+1≠g1:=hs2.ne ae ae;have n2:w.heap.size+1+1≠g1:=hs2.ne ae ae;have ns:sb≠g1:=hs2.ne ae hsbn.2;obtain⟨b0,b1,b2,_,_,_⟩:=aB y1;have S2:=hid ((Stp.of_below BW.out).trans hs2);have z2:=hs2.size;have W2:=hid hw2;clear hw2 hs2 HX x0 x1 x2 a0 a1 a2 s0 HW;go_wp2_with fail;have HTX:=hid (htx w2.drew g1 cap1 p r hp hps (W2.out.later (Below.refl _ _).drew));clear htx
 refine wp_region_held_drew (S:=(fun W=>W.cell? ⟨w.heap.size,0,none⟩=some (cW R)∧W.cell? ⟨w.heap.size+1,1,none⟩=some (.string lo)∧W.cell? ⟨sb,so+t*2,none⟩=some (.string p))) ai ⟨y0,b1,ys⟩ (fun hHeld=>?_)
 refine tkC (i:=0) rfl ?_;(try simp only[Act.put,sIB]);refine tkC (i:=1) rfl ?_;(try simp only[Act.put]);refine tkC (i:=2) rfl ?_;(try simp only[Act.put]);refine tkC (i:=3) rfl ?_;(try simp only[Act.put]);refine tkC (i:=4) rfl ?_;(try simp only[Act.put]);refine tkC (i:=5) rfl ?_;(try simp only[Act.put]);refine tkC (i:=6) rfl ?_;(try simp only[Act.put]);refine tkC (i:=7) rfl ?_;(try simp only[Act.put]);refine tkC (i:=8) rfl ?_;(try simp only[Act.put]);refine tkC (i:=9) rfl ?_;(try simp only[Act.put]);refine tkC (i:=10) rfl ?_;(try simp only[Act.put]);refine rdY (rs:=[11]) ?_
 refine AllReadyH.cons rfl (fun K hK=>?_) rN
 go_simp
 refine hK.out _ _ hHeld (fun hHeld2=>?_)
 clear hK K;refine tkC (i:=12) rfl ?_;(try simp only[Act.put,sIB]);refine rdY (rs:=[13]) ?_
 refine AllReadyH.cons rfl (fun K hK=>?_) rN
 go_simp;refine HTX.out.mono ?_;rintro e w3⟨⟨q,rfl⟩,hk⟩;exact⟨rfl,⟨q,rfl⟩,(S2.out.trans (Stp.of_below (Below.refl _ _).drew)).throw hk⟩
theorem zk(h:Wr w R g cap bs)(hb:bs.length+10000000≤1099511627776)(hs:sn≤100000)(ht:t<sn)(hsg:b9 w sa sn sg)(hne:∀b off c,sa=some ⟨b,off,c⟩→b≠R∧b≠g)(hp8:∀p r,sg[t]? =some (p,r)→p.size≤8)(hlo:∀p r,sg[t]? =some (p,r)→lo.size+p.size≤64)(hlt:bO lo 64=true)(x:Int)
  (htl:∀W g2 cap2,Wr W R g2 cap2 (bs++ax t++ia lo)→Stp R g g2 w W→W.cell? ⟨w.heap.size,0,none⟩=some (cW R)→w.heap.size≠g2→Calls Tryz.prog 194 #[cW R,.slice ca cn cc,.int .i64 (min 2048 left),.func (.func 195) #[] #[.pointer (some ⟨w.heap.size,0,none⟩)]] W (aT R g2 x W)) :
  Calls Tryz.prog 143 #[cW R,.agg #[.int .i64 t,.string lo,.slice ca cn cc],.slice sa sn sc,.int .i64 left] w (aT R g x w):=by
 have HTL:=hid htl;clear htl;obtain⟨B0,z0,x0,x1,x2⟩:=kq w R t lo ca cn cc;have HW:((w.alloc (cE (cW R))).alloc (aR t lo ca cn cc)).alloc (aR 0 ⟨#[]⟩ none 0 0)=nT w R t lo ca cn cc:=rfl;have hRl:=h.lt;have hgl:=h.g_lt;have hlen:=hsg.1;obtain⟨p,r,hp⟩:∃p r,sg[t]? =some (p,r):=⟨_,_,aO ae⟩;have hps:=hp8 p r hp;have hlo1:=hlo p r hp
 obtain⟨sb,so,rfl,hsc⟩:∃b off,sa=some ⟨b,off,none⟩∧∀j x,sg[j]? =some x→w.cell? ⟨b,off+j*2,none⟩=some (.string x.1)∧w.cell? ⟨b,off+j*2+1,none⟩=some (.string x.2):=by
  exact vS
 have hsp:=(hsc t (p,r) hp).1
 simp only at hsp
 have hsbn:=hne _ _ _ rfl;have hsbl:=block_lt_of_cell hsp;have u1:=aG (t:Int);generalize nT w R t lo ca cn cc=W1 at *;have HX:=hid (gI R g cap bs t sn W1 (h.later B0) ae ae ae ae)
 have s0:=(B0.cell (p:=⟨sb,so+t*2,none⟩) (by exact hsbl)).trans hsp
 have BW:=hid B0;obtain⟨a0,a1,a2,_,_,_⟩:=aB x1;have hsub:=i64_in (64-(p.size:Int)) ae ae;have hmt:=dQ;have hct:=eZ;have hnt:=ry;clear h B0 hsc hsg
 go_enter Tryz.func143,Tryz.ntmps143
 go_wp2_with fail;refine HX.out.mono ?_;rintro e w2⟨rfl,g1,cap1,hw2,hs2⟩;have y0:=hs2.cell x0 ae ae;have y1:=(hs2.block (b:=w.heap.size+1) ae ae ae).trans x1;have y2:=(hs2.block (b:=w.heap.size+1+1) ae ae ae).trans x2;have ys:=hs2.cell s0 hsbn.1 hsbn.2;have n0:w.heap.size≠g1:=hs2.ne ae ae;have n1:w.heap.size+1≠g1:=hs2.ne ae ae;have n2:w.heap.size+1+1≠g1:=hs2.ne ae ae;have ns:sb≠g1:=hs2.ne ae hsbn.2;obtain⟨b0,b1,b2,_,_,_⟩:=aB y1;have S2:=hid ((Stp.of_below BW.out).trans hs2);have z2:=hs2.size;have W2:=hid hw2;clear hw2 hs2 HX x0 x1 x2 a0 a1 a2 s0 HW;go_wp2_with fail
 have HTX:=hid (dU R g1 cap1 (bs++ax t) lo (64-p.size) 183 #[] w2.drew (W2.out.later (Below.refl _ _).drew) ae ae aI (fun _ _=>rfl) (dt lo _ _ ae Ef))
 refine wp_region_held_drew (S:=(fun W=>W.cell? ⟨w.heap.size,0,none⟩=some (cW R)∧W.cell? ⟨w.heap.size+1,1,none⟩=some (.string lo)∧W.cell? ⟨sb,so+t*2,none⟩=some (.string p))) ai ⟨y0,b1,ys⟩ (fun hHeld=>?_)
 refine tkC (i:=0) rfl ?_;(try simp only[Act.put,sIB]);refine tkC (i:=1) rfl ?_;(try simp only[Act.put]);refine tkC (i:=2) rfl ?_;(try simp only[Act.put]);refine tkC (i:=3) rfl ?_;(try simp only[Act.put]);refine tkC (i:=4) rfl ?_;(try simp only[Act.put]);refine tkC (i:=5) rfl ?_;(try simp only[Act.put]);refine tkC (i:=6) rfl ?_;(try simp only[Act.put]);refine tkC (i:=7) rfl ?_;(try simp only[Act.put]);refine tkC (i:=8) rfl ?_;(try simp only[Act.put]);refine tkC (i:=9) rfl ?_;(try simp only[Act.put]);refine tkC (i:=10) rfl ?_;(try simp only[Act.put]);refine rdY (rs:=[11]) ?_
 refine AllReadyH.cons rfl (fun K hK=>?_) rN
 go_simp
 refine hK.out _ _ hHeld (fun hHeld2=>?_)
 clear hK K;refine tkC (i:=12) rfl ?_;(try simp only[Act.put,sIB]);refine rdY (rs:=[13]) ?_
 refine AllReadyH.cons rfl (fun K hK=>?_) rN
 go_simp;refine HTX.out.mono ?_;rintro e w3⟨rfl,g2,cap2,hw3,hs3⟩;have q0:=hs3.cell (b:=w.heap.size) y0 ae n0;have q1:=(hs3.block (b:=w.heap.size+1) aI ae n1).trans y1;have q2:=(hs3.block (b:=w.heap.size+1+1) aI ae n2).trans y2;have qs:=hs3.cell (b:=sb) ys hsbn.1 ns;have m0:w.heap.size≠g2:=hs3.ne aI n0;have m2:w.heap.size+1+1≠g2:=hs3.ne aI n2;obtain⟨e0,e1,e2,_,_,_⟩:=aB q1;have z3:w2.heap.size≤w3.heap.size:=hs3.size;have W3:=hid hw3;have S3:=hid ((S2.out.trans (Stp.of_below (Below.refl _ _).drew)).trans hs3)
 refine hK.out _ _ ⟨q0,e1,qs⟩ (fun hHeld3=>?_)
 clear hK K hw3 hs3;refine tkC (i:=14) rfl ?_;(try simp only[Act.put,sIB]);refine wpAnyH_done ai ?_ _;clear hHeld hHeld2 hHeld3 y0 y1 y2 ys b0 b1 b2;have HL:=hid (HTL.out w3 g2 cap2 W3.out S3.out q0 m0);clear HTL;go_wp2_with fail;refine HL.out.mono ?_;rintro e w4⟨⟨q,rfl⟩,hk⟩;exact⟨rfl,⟨q,rfl⟩,S3.out.throw hk⟩
theorem zS(h:Wr w R g cap bs)(hb:bs.length+10000000≤1099511627776)(hs:sn≤100000)(ht:t<sn)(hsg:b9 w sa sn sg)(hne:∀b off c,sa=some ⟨b,off,c⟩→b≠R∧b≠g)(hp8:∀p r,sg[t]? =some (p,r)→p.size≤8)(hlo:∀p r,sg[t]? =some (p,r)→lo.size+p.size≤64)(hlt:bO lo 64=true)(E:List Int)
  (htl:∀W g2 cap2,Wr W R g2 cap2 (bs++ax t++ia lo)→Stp R g g2 w W→W.cell? ⟨w.heap.size,0,none⟩=some (cW R)→w.heap.size≠g2→Calls Tryz.prog 194 #[cW R,.slice ca cn cc,.int .i64 (min 2048 left),.func (.func 195) #[] #[.pointer (some ⟨w.heap.size,0,none⟩)]] W (fun e w'=>∃(aa:Option Addr)(ac:Nat),e=.returned (.slice aa cn ac)∧∃g' cap',Wr w' R g' cap' (bs++ax t++ia lo++E)∧Stp R g2 g' W w')) :
  Calls Tryz.prog 143 #[cW R,.agg #[.int .i64 t,.string lo,.slice ca cn cc],.slice sa sn sc,.int .i64 left] w (fun e w'=>∃(aa:Option Addr)(ac:Nat),e=.returned (.agg #[.int .i64 t,.string lo,.slice aa cn ac])∧∃g' cap',Wr w' R g' cap' (bs++ax t++ia lo++E)∧Stp R g g' w w'):=by
 have HTL:=hid htl;clear htl;obtain⟨B0,z0,x0,x1,x2⟩:=kq w R t lo ca cn cc;have HW:((w.alloc (cE (cW R))).alloc (aR t lo ca cn cc)).alloc (aR 0 ⟨#[]⟩ none 0 0)=nT w R t lo ca cn cc:=rfl;have hRl:=h.lt;have hgl:=h.g_lt;have hlen:=hsg.1;obtain⟨p,r,hp⟩:∃p r,sg[t]? =some (p,r):=⟨_,_,aO ae⟩;have hps:=hp8 p r hp;have hlo1:=hlo p r hp
 obtain⟨sb,so,rfl,hsc⟩:∃b off,sa=some ⟨b,off,none⟩∧∀j x,sg[j]? =some x→w.cell? ⟨b,off+j*2,none⟩=some (.string x.1)∧w.cell? ⟨b,off+j*2+1,none⟩=some (.string x.2):=by
  exact vS
 have hsp:=(hsc t (p,r) hp).1
 simp only at hsp
 have hsbn:=hne _ _ _ rfl;have hsbl:=block_lt_of_cell hsp;have u1:=aG (t:Int);generalize nT w R t lo ca cn cc=W1 at *;have HX:=hid (gI R g cap bs t sn W1 (h.later B0) ae ae ae ae)
 have s0:=(B0.cell (p:=⟨sb,so+t*2,none⟩) (by exact hsbl)).trans hsp
 have BW:=hid B0;obtain⟨a0,a1,a2,_,_,_⟩:=aB x1;have hsub:=i64_in (64-(p.size:Int)) ae ae;have hmt:=dQ;have hct:=eZ;have hnt:=ry;clear h B0 hsc hsg
 go_enter Tryz.func143,Tryz.ntmps143
 go_wp2_with fail;refine HX.out.mono ?_;rintro e w2⟨rfl,g1,cap1,hw2,hs2⟩;have y0:=hs2.cell x0 ae ae;have y1:=(hs2.block (b:=w.heap.size+1) ae ae ae).trans x1;have y2:=(hs2.block (b:=w.heap.size+1+1) ae ae ae).trans x2;have ys:=hs2.cell s0 hsbn.1 hsbn.2;have n0:w.heap.size≠g1:=hs2.ne ae ae;have n1:w.heap.size+1≠g1:=hs2.ne ae ae;have n2:w.heap.size+1+1≠g1:=hs2.ne ae ae;have ns:sb≠g1:=hs2.ne ae hsbn.2;obtain⟨b0,b1,b2,_,_,_⟩:=aB y1;have S2:=hid ((Stp.of_below BW.out).trans hs2);have z2:=hs2.size;have W2:=hid hw2;clear hw2 hs2 HX x0 x1 x2 a0 a1 a2 s0 HW;go_wp2_with fail
 have HTX:=hid (dU R g1 cap1 (bs++ax t) lo (64-p.size) 183 #[] w2.drew (W2.out.later (Below.refl _ _).drew) ae ae aI (fun _ _=>rfl) (dt lo _ _ ae Ef))
 refine wp_region_held_drew (S:=(fun W=>W.cell? ⟨w.heap.size,0,none⟩=some (cW R)∧W.cell? ⟨w.heap.size+1,1,none⟩=some (.string lo)∧W.cell? ⟨sb,so+t*2,none⟩=some (.string p))) ai ⟨y0,b1,ys⟩ (fun hHeld=>?_)
 refine tkC (i:=0) rfl ?_;(try simp only[Act.put,sIB]);refine tkC (i:=1) rfl ?_;(try simp only[Act.put]);refine tkC (i:=2) rfl ?_;(try simp only[Act.put]);refine tkC (i:=3) rfl ?_;(try simp only[Act.put]);refine tkC (i:=4) rfl ?_;(try simp only[Act.put]);refine tkC (i:=5) rfl ?_;(try simp only[Act.put]);refine tkC (i:=6) rfl ?_;(try simp only[Act.put]);refine tkC (i:=7) rfl ?_;(try simp only[Act.put]);refine tkC (i:=8) rfl ?_;(try simp only[Act.put]);refine tkC (i:=9) rfl ?_;(try simp only[Act.put]);refine tkC (i:=10) rfl ?_;(try simp only[Act.put]);refine rdY (rs:=[11]) ?_
 refine AllReadyH.cons rfl (fun K hK=>?_) rN
 go_simp
 refine hK.out _ _ hHeld (fun hHeld2=>?_)
 clear hK K;refine tkC (i:=12) rfl ?_;(try simp only[Act.put,sIB]);refine rdY (rs:=[13]) ?_
 refine AllReadyH.cons rfl (fun K hK=>?_) rN
 go_simp;refine HTX.out.mono ?_;rintro e w3⟨rfl,g2,cap2,hw3,hs3⟩;have q0:=hs3.cell (b:=w.heap.size) y0 ae n0;have q1:=(hs3.block (b:=w.heap.size+1) aI ae n1).trans y1;have q2:=(hs3.block (b:=w.heap.size+1+1) aI ae n2).trans y2;have qs:=hs3.cell (b:=sb) ys hsbn.1 ns;have m0:w.heap.size≠g2:=hs3.ne aI n0;have m2:w.heap.size+1+1≠g2:=hs3.ne aI n2;obtain⟨e0,e1,e2,_,_,_⟩:=aB q1;have z3:w2.heap.size≤w3.heap.size:=hs3.size;have W3:=hid hw3;have S3:=hid ((S2.out.trans (Stp.of_below (Below.refl _ _).drew)).trans hs3)
 refine hK.out _ _ ⟨q0,e1,qs⟩ (fun hHeld3=>?_)
 clear hK K hw3 hs3;refine tkC (i:=14) rfl ?_;(try simp only[Act.put,sIB]);refine wpAnyH_done ai ?_ _;clear hHeld hHeld2 hHeld3 y0 y1 y2 ys b0 b1 b2;have HL:=hid (HTL.out w3 g2 cap2 W3.out S3.out q0 m0);clear HTL;go_wp2_with fail;refine HL.out.mono ?_;rintro e w4⟨aa,ac,rfl,g3,cap3,hw4,hs4⟩;have f2:=(hs4.block (b:=w.heap.size+1+1) ae ae m2).trans q2;have m3:w.heap.size+1+1≠g3:=hs4.ne ae m2;obtain⟨k0,k1,k2,k3,k4,k5⟩:=aB f2;have W4:=hid hw4;have S4:=hid (S3.out.trans hs4);clear hw4 hs4 HL q0 q1 q2 qs e0 e1 e2;go_wp2_with fail;refine bodyPost_ret (v:=.agg #[.int .i64 t,.string lo,.slice aa cn ac]) ?_ rfl ⟨aa,ac,rfl,g3,cap3,?_,?_⟩
 ·exact cu
 ·exact((W4.out.set (b:=w.heap.size+1+1) ae m3).set (b:=w.heap.size+1+1) ae m3).set (b:=w.heap.size+1+1) ae m3
 ·exact((S4.out.set ae).set ae).set ae
end
theorem dW{α:Type}(f:List α→α→Int):∀(xs ah:List α),aU f ah xs≠0→∃k x,xs[k]? =some x∧aU f ah (xs.take k)=0∧f (ah++xs.take k) x≠0∧aU f ah xs=f (ah++xs.take k) x
 | [],ah,h=>absurd rfl h
 | x::r,ah,h=>by
  by_cases hx:f ah x=0
  ·have h':aU f ah (x::r)=aU f (ah++[x]) r:=by simp[aU,hx]
   rw[h']at h;obtain⟨k,y,h1,h2,h3,h4⟩:=dW f r (ah++[x]) h;refine⟨k+1,y,rx,?_,?_,?_⟩
   ·simp[aU,hx,h2]
   ·simpa using h3
   ·rw[h',h4]; simp
  ·exact⟨0,x,rfl,rfl,xx,by simp[aU,hx]⟩
theorem bp{α:Type}(f:List α→α→Int):∀(xs ah:List α),aU f ah xs=0→∀(j:Nat)x,xs[j]? =some x→f (ah++xs.take j) x=0
 | [],ah,_,j,x,hj=>by simp at hj
 | y::r,ah,h,j,x,hj=>by
  by_cases hy:f ah y=0
  ·have h':aU f (ah++[y]) r=0:=by simpa[aU,hy] using h
   cases j with
   | zero=>simp at hj; subst hj; simpa using hy
   | succ j =>
    have:=bp f r (ah++[y]) h' j x (by simpa using hj)
    exact bJ
  ·exfalso
   have:aU f ah (y::r)=f ah y:=by simp[aU,hy]
   rw[this]at h; exact hy h
theorem sX{α:Type}{f h:α→List Int}:∀{xs:List α},(∀z∈xs,f z=h z)→xs.flatMap f=xs.flatMap h
 | [],_=>rfl
 | x::r,hh=>by
  simp only[List.flatMap_cons]
  rw[hh x (List.mem_cons_self ..),sX (fun z hz=>hh z (List.mem_cons_of_mem _ hz))]
def dV(x:InM):Int:=chk (tkV x.1) (lgV x.1) x.2.1 x.2.2.2
def fF(x:InM):List Int:=i7 x.1 x.2.1 x.2.2.2
structure qQ(w:World)(R g:Nat)(x:InM):Prop where
 r0:0≤x.1
 r1:x.1≤255
 seg:jK w x.2.2.1.1 x.2.2.1.2.1 x.2.2.1.2.2 x.2.2.2
 ne:∀b off c,nz x.2.2.1.2.1 x.2.2.1.1=some ⟨b,off,c⟩→b≠R∧b≠g
theorem jK.kept'{S:Nat→Prop}{w w':World}{a:Option Addr}{n cap:Nat}{zs:List Int}(h:jK w a n cap zs)(hk:Kept S w w')(hS:∀b off c,nz n a=some ⟨b,off,c⟩→¬S b):jK w' a n cap zs:=by
 exact Gy
theorem qQ.seg'{w W:World}{R g g1:Nat}{x:InM}(h:qQ w R g x)(hs:Stp R g g1 w W):jK W x.2.2.1.1 x.2.2.1.2.1 x.2.2.1.2.2 x.2.2.2 :=
 h.seg.kept' hs.k (fun b off c hb=>by have:=h.ne b off c hb; simp; omega)
theorem aP.kept{S:Nat→Prop}{w w':World}(h:aP w)(hk:Kept S w w')(h0:¬S 0):aP w':=fun j v hj=>hk.cell (h j v hj) h0
theorem oO{x:InM}(h:dV x=0):(fF x).length≤171:=by
 have:=mM h
 have h16:x.2.2.2.length≤16:=by
  by_cases ht:tkV x.1=3
  ·exact(this.2.2.2.1 ht).2.1
  ·rw[this.2.2.2.2 ht]; simp
 have:=ze (tkV x.1) x.2.1 x.2.2.2 h16
 simp[fF,i7]; omega
section
variable (R g cap:Nat) (bs:List Int) (ca:Option Addr) (cn cc:Nat) (most:Int) (A:Nat) (xs:List InM) (w:World)
theorem Br(h:Wr w R g cap bs)(hb:bs.length+300000000000≤1099511627776)(hn:cn≤100000)(hR0:R≠0)(hg0:g≠0)(hk:aP w)(hA:w.cell? ⟨A,0,none⟩=some (cW R))(hAR:A≠R)(hAg:A≠g)(hok:∀(j:Nat)x,xs[j]? =some x→qQ w R g x)(hl:xs.length=cn)
  (k:Nat) (hall:∀(j:Nat)x,xs[j]? =some x→j<k→dV x=0) (j:Nat) (x:InM) (hx:xs[j]? =some x) (hjk:j<k):zI R g w 195 #[.pointer (some ⟨A,0,none⟩)] bs cn xs fF (fun _ _=>True) j x:=by
 intro ys W g1 cap1 aa ac _ _ hst hwr _ _;have ho:=hok j x hx;have hlt:=aK hx
 have hlen:((xs.take j).flatMap fF).length≤j*171:=by
  have:=dI fF 171 (xs.take j) (fun i y hi=>by
   have hij:i<j:=mL;rw[List.getElem?_take_of_lt hij]at hi;exact oO (hall i y hi ae))
  exact Du
 have hu:=aG (cn:Int);refine(zx R g1 cap1 _ x.1 x.2.1 x.2.2.1.1 x.2.2.1.2.1 x.2.2.1.2.2 x.2.2.2 W A aa j ac hwr sf (hk.kept hst.k aI) ho.r0 ho.r1 (ho.seg' hst) (hst.cell hA hAR hAg) (hall j x hx hjk)).mono ?_;rintro e w' ⟨he,g',cap',hw',hs'⟩;exact⟨(x.1,x.2.1,x.2.2.1),he,trivial,g',cap',hw',hs'⟩
theorem xH(h:Wr w R g cap bs)(hb:bs.length+300000000000≤1099511627776)(hn:cn≤100000)(hm:(cn:Int)≤most)(hR0:R≠0)(hg0:g≠0)(hk:aP w)(hA:w.cell? ⟨A,0,none⟩=some (cW R))(hAR:A≠R)(hAg:A≠g)(hmem:AtIn w ca cn xs)(hne:∀b off c,nz cn ca=some ⟨b,off,c⟩→b≠R∧b≠g)(hok:∀(j:Nat)x,xs[j]? =some x→qQ w R g x)
  (hx:aU (fun _ x=>dV x) [] xs=0) :
  Calls Tryz.prog 194 #[cW R,.slice ca cn cc,.int .i64 most,.func (.func 195) #[] #[.pointer (some ⟨A,0,none⟩)]] w (fun e w'=>∃(aa:Option Addr)(ac:Nat),e=.returned (.slice aa cn ac)∧∃g' cap',Wr w' R g' cap' (bs++(ax cn++xs.flatMap fF))∧Stp R g g' w w'):=by
 have hall:=bp (fun _ x=>dV x) xs [] hx
 refine(yE R g cap bs ca cn cc most 195 _ w xs fF (fun _ _=>True) 171 h hn hm hmem hne (fun _ _=>rfl) (fun j x hj=>oO (hall j x hj)) ae ae
  (fun j x hj=>Br R g cap bs cn A xs w h hb hn hR0 hg0 hk hA hAR hAg hok hmem.1 (j+1) (fun i y hi _=>hall i y hi) j x hj ae)).mono ?_
 rintro e w' ⟨aa,ac,ys,he,_,_,_,g',cap',_,hw',hs'⟩;exact⟨aa,ac,he,g',cap',wZ,hs'⟩
theorem Aj(h:Wr w R g cap bs)(hb:bs.length+300000000000≤1099511627776)(hn:cn≤100000)(hm:(cn:Int)≤most)(hR0:R≠0)(hg0:g≠0)(hk:aP w)(hA:w.cell? ⟨A,0,none⟩=some (cW R))(hAR:A≠R)(hAg:A≠g)(hmem:AtIn w ca cn xs)(hne:∀b off c,nz cn ca=some ⟨b,off,c⟩→b≠R∧b≠g)(hok:∀(j:Nat)x,xs[j]? =some x→qQ w R g x)
  (hx:aU (fun _ x=>dV x) [] xs≠0) :
  Calls Tryz.prog 194 #[cW R,.slice ca cn cc,.int .i64 most,.func (.func 195) #[] #[.pointer (some ⟨A,0,none⟩)]] w (aT R g (aU (fun _ x=>dV x) [] xs) w):=by
 obtain⟨k,x,h1,h2,h3,h4⟩:=dW (fun _ x=>dV x) xs [] hx
 have hall:=bp (fun _ x=>dV x) (xs.take k) [] h2
 have hall':∀(j:Nat)y,xs[j]? =some y→j<k→dV y=0:=fun j y hj hjk=>hall j y (by rw[List.getElem?_take_of_lt hjk]; exact hj)
 rw[h4]
 have hM:∀(j:Nat)y,xs[j]? =some y→(fF y).length≤100000000∨True:=fun _ _ _=>.inr trivial
 refine A4 R g cap bs ca cn cc most 195 _ w xs (fun y=>if dV y=0 then fF y else []) (fun _ _=>True) 171 h hn hm hmem hne (fun _ _=>rfl) (fun j y hj=>?_) ae ae k x (dV x) h1 (fun j y hj hjk=>?_) ?_
 ·split
  ·exact oO lg
  ·simp
 ·have he:=Br R g cap bs cn A xs w h hb hn hR0 hg0 hk hA hAR hAg hok hmem.1 k hall' j y hj hjk;intro ys W g1 cap1 aa ac q1 q2 hst hwr q3 q4
  have hfl:(xs.take j).flatMap (fun y=>if dV y=0 then fF y else [])=(xs.take j).flatMap fF:=by
   apply sX
   intro z hz;obtain⟨i,hi,rfl⟩:=List.getElem_of_mem hz
   have hi':i<j:=by simp at hi; omega
   have:dV ((xs.take j)[i])=0:=by
    apply hall' i _ _ ae
    rw[List.getElem_take]
    exact aO (by simp at hi; omega)
   rw[if_pos this]
  rw[hfl]at hwr;refine(he ys W g1 cap1 aa ac q1 q2 hst hwr q3 q4).mono ?_;rintro e w' ⟨y',e1,e2,g',cap',e3,e4⟩;refine⟨y',e1,e2,g',cap',?_,e4⟩
  have hy:(fun y=>if dV y=0 then fF y else []) y=fF y:=if_pos (hall' j y hj hjk)
  rw[hfl,hy];exact e3
 ·intro ys W g1 cap1 aa ac _ _ hst hwr _ _;have ho:=hok k x h1;exact Et R g1 cap1 _ x.1 x.2.1 x.2.2.1.1 x.2.2.1.2.1 x.2.2.1.2.2 x.2.2.2 W A aa k ac hwr (hk.kept hst.k aI) ho.r0 ho.r1 (ho.seg' hst) (hst.cell hA hAR hAg) (show dV x≠0 from h3)
end
end Go.Proofs.YtheefojaplnnoaaGreatDoor
