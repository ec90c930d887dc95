/-
  Texts Vk Vl Vm List Vo.
-/
import Derived.Test.YtepcmfegggdjfaaGreatDoorM00
import Derived.Test.YtepcmfegggdjfaaGreatDoorM06
set_option linter.unusedVariables false
set_option maxRecDepth 100000
set_option maxHeartbeats 16000000
namespace Go.Proofs.YtepcmfegggdjfaaGreatDoor
open Go.Proofs.Tryz
open Go.RowKit
variable {C X i g j:Nat}{lv u:Value}{w W:World}
theorem loS.putG{op q:Int}(h:loS C X i lv op q w W)(hC:C≠g)(hX:X≠g)(hg:w.heap.size<=g):loS C X i lv op q w (W.setCell ⟨g,j,none⟩ u) :=
 ⟨aU h.1 hC,aU h.2.1 hX,aU h.2.2.1 hX,bA h.2.2.2 hg h.2.2.2.size⟩
variable {b o Y:Nat}{x:Value}
theorem eH(h:W.frozen? ⟨b,o,none⟩=false):(W.setCell ⟨Y,i,none⟩ x).frozen? ⟨b,o,none⟩=false:=by
 rw[World.frozen?_setCell]; exact h
section
variable {v:Ev} {w1 w:World} {s:Cs} {m:MM} {lo:LIz}
variable {q:Nat}{c x:Int}{mu:Bool}
theorem py(hA:EvA v w1)(hM:EvM v w1 m lo)(h:CI v w1 w s)(L:Value)(hq:m.globals[q]? =some (c,mu,x)) :
  Calls prog 128 #[.pointer (some ⟨v.C,0,none⟩),.agg #[.int .u8 21,.int .i64 q,L]] w (Rdz w (if 21=21\/mu=true then 0 else 39) (.agg #[.string (jS 21 (ltr c)),.string (jG 21 (ltr c))])):=by
 have BW:Below w.heap.size w ((w.alloc (au 21 q L)).alloc (aO ⟨#[]⟩ ⟨#[]⟩)):=((Below.refl _ _).alloc lRn _).alloc aw _;have x1:((w.alloc (au 21 q L)).alloc (aO ⟨#[]⟩ ⟨#[]⟩)).cell? ⟨w.heap.size,1,none⟩=some (.int .i64 q):=aG;have x0:((w.alloc (au 21 q L)).alloc (aO ⟨#[]⟩ ⟨#[]⟩)).cell? ⟨w.heap.size,0,none⟩=some (.int .u8 21):=aG;have y0:((w.alloc (au 21 q L)).alloc (aO ⟨#[]⟩ ⟨#[]⟩)).cell? ⟨w.heap.size+1,0,none⟩=some (.string ⟨#[]⟩):=aG;have y1:((w.alloc (au 21 q L)).alloc (aO ⟨#[]⟩ ⟨#[]⟩)).cell? ⟨w.heap.size+1,1,none⟩=some (.string ⟨#[]⟩):=aG;have z0:((w.alloc (au 21 q L)).alloc (aO ⟨#[]⟩ ⟨#[]⟩)).frozen? ⟨w.heap.size+1,0,none⟩=false:=aG;have z1:((w.alloc (au 21 q L)).alloc (aO ⟨#[]⟩ ⟨#[]⟩)).frozen? ⟨w.heap.size+1,1,none⟩=false:=aG;obtain⟨c0,c1,c2,c5⟩:=h.mc;rw[hM.mv]at c2
 change w.cell? ⟨v.C,2,none⟩=some (.slice m.ga m.gn m.gc) at c2
 have pg:=hM.pg.kept h.kept hM.gS
 have hqn:q<m.gn:=by rw[<- pg.1]; exact az hq
 obtain⟨gb,goff,hga,hgc⟩:∃b off,m.ga=some ⟨b,off,none⟩/\∀(j:Nat)x,m.globals[j]? =some x->w.cell? ⟨b,off+j*3,none⟩=some (.int .u8 x.1)/\w.cell? ⟨b,off+j*3+1,none⟩=some (.bool x.2.1)/\w.cell? ⟨b,off+j*3+2,none⟩=some (.int .u64 x.2.2):=by
  rcases pg.2 with h0 | hx
  ·omega
  exact hx
 rw[hga]at c2;obtain⟨f0,f1,f2⟩:=hgc q _ hq;simp only at f0 f1 f2;have HF:=hid (fun W (hb:Below w.heap.size w W)=>qq (w:=W) (cap:=m.gc) hqn yu (ag hb f0) (ag hb f1) (ag hb f2));have HH:=hid (fun W=>jD (w:=W) 21 c (hM.gL _ (List.mem_of_getElem? hq)) ae);have d2:=ag BW c2;have HB:=hid BW;have HK:=hid h.kept.size;clear h c0 c1 c2 c5 f0 f1 f2 hgc hq BW pg;generalize jS 21 (ltr c)=P at *;generalize jG 21 (ltr c)=R at *;have hCl:v.C<w.heap.size:=Nat.lt_of_lt_of_le hA.c HK.out;obtain⟨E,hE⟩:∃E:Int,(if 21=21\/mu=true then 0 else 39)=E:=⟨_,rfl⟩;rw[hE];have HE:=hid hE;clear hE;go_enter func128,ntmps128
 go_wp2_with fail;generalize (w.alloc (au 21 q L)).alloc (aO ⟨#[]⟩ ⟨#[]⟩)=W0 at *;have BD:=hid (below_drewN W0 1)
 refine wp_region_held_drew (S:=loS v.C w.heap.size 2 (.slice (some ⟨gb,goff,none⟩) m.gn m.gc) 21 q w) ar ⟨d2,x0,x1,HB.out.drew⟩ (fun hHeld=>?_)
 refine tkC (i:=0) rfl ?_;(try simp only[Act.put,sIB]);refine tkC (i:=1) rfl ?_;(try simp only[Act.put]);refine tkC (i:=2) rfl ?_;(try simp only[Act.put]);refine tkC (i:=3) rfl ?_;(try simp only[Act.put]);refine tkC (i:=4) rfl ?_;(try simp only[Act.put]);refine tkC (i:=5) rfl ?_;(try simp only[Act.put]);refine tkC (i:=6) rfl ?_;(try simp only[Act.put]);refine rdY (rs:=[7,8]) ?_
 refine AllReadyH.cons rfl (fun K hK=>?_) (AllReadyH.cons rfl (fun K hK=>?_) rN)
 ·go_simp;refine(HF.out _ hHeld.2.2.2).mono ?_;rintro e w5⟨rfl,hb5⟩;have hS5:=loS.later hHeld hb5;have k0:=ag hb5 (show World.cell? _ _=_ from y0);have k1:=ag hb5 (show World.cell? _ _=_ from y1);have j0:=aH hb5 (show World.cell? _ _=_ from y0) (show World.frozen? _ _=_ from z0);have j1:=aH hb5 (show World.cell? _ _=_ from y1) (show World.frozen? _ _=_ from z1)
  refine hK.out _ _ hS5 (fun hHeld2=>?_);clear hK K hb5;refine rdY (rs:=[8]) ?_;refine AllReadyH.cons rfl (fun K hK=>?_) rN;go_simp;refine hK.out _ _ (hS5.later (aj _ _)) (fun hHeld3=>?_);clear hK K;refine rdY (rs:=[9]) ?_;refine AllReadyH.cons rfl (fun K hK=>?_) rN;go_simp;have BN:=aj w5 (aZ c mu x);refine hK.out _ _ (hS5.later BN) (fun hHeld4=>?_);clear hK K;refine wpAnyH_done ar ?_ _;have g0:(w5.alloc (aZ c mu x)).cell? ⟨w5.heap.size,0,none⟩=some (.int .u8 c):=aG;have g1:(w5.alloc (aZ c mu x)).cell? ⟨w5.heap.size,1,none⟩=some (.bool mu):=aG;have m0:=ag BN k0;have m1:=ag BN k1;have n0:=aH BN k0 j0;have n1:=aH BN k1 j1;have hS:=hS5.later BN;generalize w5.alloc (aZ c mu x)=WR at *;generalize w5.heap.size=G at *;clear k0 k1 j0 j1 BN hS5 hHeld hHeld2 hHeld3 hHeld4;exact J0
 go_simp;have BN:=(aj W0 (aZ 0 false 0)).drew;have hS5:=loS.later (W:=W0) ⟨d2,x0,x1,HB.out⟩ BN;have k0:=ag BN y0;have k1:=ag BN y1;have j0:=aH BN y0 z0;have j1:=aH BN y1 z1;have g0:((W0.alloc (aZ 0 false 0)).drew).cell? ⟨W0.heap.size,0,none⟩=some (.int .u8 0):=aG;have g1:((W0.alloc (aZ 0 false 0)).drew).cell? ⟨W0.heap.size,1,none⟩=some (.bool false):=aG;have g2:((W0.alloc (aZ 0 false 0)).drew).cell? ⟨W0.heap.size,2,none⟩=some (.int .u64 0):=aG;have q0:((W0.alloc (aZ 0 false 0)).drew).frozen? ⟨W0.heap.size,0,none⟩=false:=aG;have q1:((W0.alloc (aZ 0 false 0)).drew).frozen? ⟨W0.heap.size,1,none⟩=false:=aG;have q2:((W0.alloc (aZ 0 false 0)).drew).frozen? ⟨W0.heap.size,2,none⟩=false:=aG;have hGY:w.heap.size+1<W0.heap.size:=block_lt_of_cell y0;refine hK.out _ _ hS5 (fun hHeld2=>?_);clear hK K;generalize (W0.alloc (aZ 0 false 0)).drew=W1 at *;refine rdY (rs:=[7]) ?_;refine AllReadyH.cons rfl (fun K hK=>?_) rN;go_simp;refine(HF.out _ hS5.2.2.2).mono ?_;rintro e w5⟨rfl,hb5⟩;have hS6:=loS.later hS5 hb5;have k0:=ag hb5 k0;have k1:=ag hb5 k1;have j0:=aH hb5 bJ j0;have j1:=aH hb5 bJ j1;have r0:=ag hb5 g0;have r1:=ag hb5 g1;have r2:=ag hb5 g2;have t0:=aH hb5 g0 q0;have t1:=aH hb5 g1 q1;have t2:=aH hb5 g2 q2;refine hK.out _ _ hS6 (fun hHeld3=>?_);clear hK K hb5 g0 g1 g2 q0 q1 q2;generalize W0.heap.size=G at *;refine rdY (rs:=[9]) ?_;refine AllReadyH.cons rfl (fun K hK=>?_) rN;go_simp;have hS:=((hS6.putG (g:=G) (j:=0) (u:=.int .u8 c) ae ae ae).putG (g:=G) (j:=1) (u:=.bool mu) ae ae ae).putG (g:=G) (j:=2) (u:=.int .u64 x) ae ae ae;refine hK.out _ _ hS (fun hHeld4=>?_);clear hK K;refine wpAnyH_done ar ?_ _
 have g0:(((w5.setCell ⟨G,0,none⟩ (.int .u8 c)).setCell ⟨G,1,none⟩ (.bool mu)).setCell ⟨G,2,none⟩ (.int .u64 x)).cell? ⟨G,0,none⟩=some (.int .u8 c):=by
  exact GD
 have g1:(((w5.setCell ⟨G,0,none⟩ (.int .u8 c)).setCell ⟨G,1,none⟩ (.bool mu)).setCell ⟨G,2,none⟩ (.int .u64 x)).cell? ⟨G,1,none⟩=some (.bool mu):=by
  exact KO
 have m0:=aU (i:=2) (x:=.int .u64 x) (aU (i:=1) (x:=.bool mu) (aU (i:=0) (x:=.int .u8 c) k0 (by omega:_≠G)) (by omega:_≠G)) (by omega:_≠G);have m1:=aU (i:=2) (x:=.int .u64 x) (aU (i:=1) (x:=.bool mu) (aU (i:=0) (x:=.int .u8 c) k1 (by omega:_≠G)) (by omega:_≠G)) (by omega:_≠G);have n0:=eH (Y:=G) (i:=2) (x:=.int .u64 x) (eH (Y:=G) (i:=1) (x:=.bool mu) (eH (Y:=G) (i:=0) (x:=.int .u8 c) j0));have n1:=eH (Y:=G) (i:=2) (x:=.int .u64 x) (eH (Y:=G) (i:=1) (x:=.bool mu) (eH (Y:=G) (i:=0) (x:=.int .u8 c) j1));generalize ((w5.setCell ⟨G,0,none⟩ (.int .u8 c)).setCell ⟨G,1,none⟩ (.bool mu)).setCell ⟨G,2,none⟩ (.int .u64 x)=WR at *;clear k0 k1 j0 j1 r0 r1 r2 t0 t1 t2 hS5 hS6 hHeld hHeld2 hHeld3 hHeld4;exact J0
theorem pu(hA:EvA v w1)(hM:EvM v w1 m lo)(h:CI v w1 w s)(L:Value)(hq:m.globals[q]? =some (c,mu,x)) :
  Calls prog 128 #[.pointer (some ⟨v.C,0,none⟩),.agg #[.int .u8 22,.int .i64 q,L]] w (Rdz w (if 22=21\/mu=true then 0 else 39) (.agg #[.string (jS 22 (ltr c)),.string (jG 22 (ltr c))])):=by
 have BW:Below w.heap.size w ((w.alloc (au 22 q L)).alloc (aO ⟨#[]⟩ ⟨#[]⟩)):=((Below.refl _ _).alloc lRn _).alloc aw _;have x1:((w.alloc (au 22 q L)).alloc (aO ⟨#[]⟩ ⟨#[]⟩)).cell? ⟨w.heap.size,1,none⟩=some (.int .i64 q):=aG;have x0:((w.alloc (au 22 q L)).alloc (aO ⟨#[]⟩ ⟨#[]⟩)).cell? ⟨w.heap.size,0,none⟩=some (.int .u8 22):=aG;have y0:((w.alloc (au 22 q L)).alloc (aO ⟨#[]⟩ ⟨#[]⟩)).cell? ⟨w.heap.size+1,0,none⟩=some (.string ⟨#[]⟩):=aG;have y1:((w.alloc (au 22 q L)).alloc (aO ⟨#[]⟩ ⟨#[]⟩)).cell? ⟨w.heap.size+1,1,none⟩=some (.string ⟨#[]⟩):=aG;have z0:((w.alloc (au 22 q L)).alloc (aO ⟨#[]⟩ ⟨#[]⟩)).frozen? ⟨w.heap.size+1,0,none⟩=false:=aG;have z1:((w.alloc (au 22 q L)).alloc (aO ⟨#[]⟩ ⟨#[]⟩)).frozen? ⟨w.heap.size+1,1,none⟩=false:=aG;obtain⟨c0,c1,c2,c5⟩:=h.mc;rw[hM.mv]at c2
 change w.cell? ⟨v.C,2,none⟩=some (.slice m.ga m.gn m.gc) at c2
 have pg:=hM.pg.kept h.kept hM.gS
 have hqn:q<m.gn:=by rw[<- pg.1]; exact az hq
 obtain⟨gb,goff,hga,hgc⟩:∃b off,m.ga=some ⟨b,off,none⟩/\∀(j:Nat)x,m.globals[j]? =some x->w.cell? ⟨b,off+j*3,none⟩=some (.int .u8 x.1)/\w.cell? ⟨b,off+j*3+1,none⟩=some (.bool x.2.1)/\w.cell? ⟨b,off+j*3+2,none⟩=some (.int .u64 x.2.2):=by
  rcases pg.2 with h0 | hx
  ·omega
  exact hx
 rw[hga]at c2;obtain⟨f0,f1,f2⟩:=hgc q _ hq;simp only at f0 f1 f2;have HF:=hid (fun W (hb:Below w.heap.size w W)=>qq (w:=W) (cap:=m.gc) hqn yu (ag hb f0) (ag hb f1) (ag hb f2));have HH:=hid (fun W=>jD (w:=W) 22 c (hM.gL _ (List.mem_of_getElem? hq)) ae);have d2:=ag BW c2;have HB:=hid BW;have HK:=hid h.kept.size;clear h c0 c1 c2 c5 f0 f1 f2 hgc hq BW pg;generalize jS 22 (ltr c)=P at *;generalize jG 22 (ltr c)=R at *;have hCl:v.C<w.heap.size:=Nat.lt_of_lt_of_le hA.c HK.out;obtain⟨E,hE⟩:∃E:Int,(if 22=21\/mu=true then 0 else 39)=E:=⟨_,rfl⟩;rw[hE];have HE:=hid hE;clear hE;go_enter func128,ntmps128
 go_wp2_with fail;generalize (w.alloc (au 22 q L)).alloc (aO ⟨#[]⟩ ⟨#[]⟩)=W0 at *;have BD:=hid (below_drewN W0 1)
 refine wp_region_held_drew (S:=loS v.C w.heap.size 2 (.slice (some ⟨gb,goff,none⟩) m.gn m.gc) 22 q w) ar ⟨d2,x0,x1,HB.out.drew⟩ (fun hHeld=>?_)
 refine tkC (i:=0) rfl ?_;(try simp only[Act.put,sIB]);refine tkC (i:=1) rfl ?_;(try simp only[Act.put]);refine tkC (i:=2) rfl ?_;(try simp only[Act.put]);refine tkC (i:=3) rfl ?_;(try simp only[Act.put]);refine tkC (i:=4) rfl ?_;(try simp only[Act.put]);refine tkC (i:=5) rfl ?_;(try simp only[Act.put]);refine tkC (i:=6) rfl ?_;(try simp only[Act.put]);refine rdY (rs:=[7,8]) ?_
 refine AllReadyH.cons rfl (fun K hK=>?_) (AllReadyH.cons rfl (fun K hK=>?_) rN)
 ·go_simp;refine(HF.out _ hHeld.2.2.2).mono ?_;rintro e w5⟨rfl,hb5⟩;have hS5:=loS.later hHeld hb5;have k0:=ag hb5 (show World.cell? _ _=_ from y0);have k1:=ag hb5 (show World.cell? _ _=_ from y1);have j0:=aH hb5 (show World.cell? _ _=_ from y0) (show World.frozen? _ _=_ from z0);have j1:=aH hb5 (show World.cell? _ _=_ from y1) (show World.frozen? _ _=_ from z1)
  refine hK.out _ _ hS5 (fun hHeld2=>?_);clear hK K hb5;refine rdY (rs:=[8]) ?_;refine AllReadyH.cons rfl (fun K hK=>?_) rN;go_simp;refine hK.out _ _ (hS5.later (aj _ _)) (fun hHeld3=>?_);clear hK K;refine rdY (rs:=[9]) ?_;refine AllReadyH.cons rfl (fun K hK=>?_) rN;go_simp;have BN:=aj w5 (aZ c mu x);refine hK.out _ _ (hS5.later BN) (fun hHeld4=>?_);clear hK K;refine wpAnyH_done ar ?_ _;have g0:(w5.alloc (aZ c mu x)).cell? ⟨w5.heap.size,0,none⟩=some (.int .u8 c):=aG;have g1:(w5.alloc (aZ c mu x)).cell? ⟨w5.heap.size,1,none⟩=some (.bool mu):=aG;have m0:=ag BN k0;have m1:=ag BN k1;have n0:=aH BN k0 j0;have n1:=aH BN k1 j1;have hS:=hS5.later BN;generalize w5.alloc (aZ c mu x)=WR at *;generalize w5.heap.size=G at *;clear k0 k1 j0 j1 BN hS5 hHeld hHeld2 hHeld3 hHeld4;exact Nn
 go_simp;have BN:=(aj W0 (aZ 0 false 0)).drew;have hS5:=loS.later (W:=W0) ⟨d2,x0,x1,HB.out⟩ BN;have k0:=ag BN y0;have k1:=ag BN y1;have j0:=aH BN y0 z0;have j1:=aH BN y1 z1;have g0:((W0.alloc (aZ 0 false 0)).drew).cell? ⟨W0.heap.size,0,none⟩=some (.int .u8 0):=aG;have g1:((W0.alloc (aZ 0 false 0)).drew).cell? ⟨W0.heap.size,1,none⟩=some (.bool false):=aG;have g2:((W0.alloc (aZ 0 false 0)).drew).cell? ⟨W0.heap.size,2,none⟩=some (.int .u64 0):=aG;have q0:((W0.alloc (aZ 0 false 0)).drew).frozen? ⟨W0.heap.size,0,none⟩=false:=aG;have q1:((W0.alloc (aZ 0 false 0)).drew).frozen? ⟨W0.heap.size,1,none⟩=false:=aG;have q2:((W0.alloc (aZ 0 false 0)).drew).frozen? ⟨W0.heap.size,2,none⟩=false:=aG;have hGY:w.heap.size+1<W0.heap.size:=block_lt_of_cell y0;refine hK.out _ _ hS5 (fun hHeld2=>?_);clear hK K;generalize (W0.alloc (aZ 0 false 0)).drew=W1 at *;refine rdY (rs:=[7]) ?_;refine AllReadyH.cons rfl (fun K hK=>?_) rN;go_simp;refine(HF.out _ hS5.2.2.2).mono ?_;rintro e w5⟨rfl,hb5⟩;have hS6:=loS.later hS5 hb5;have k0:=ag hb5 k0;have k1:=ag hb5 k1;have j0:=aH hb5 bJ j0;have j1:=aH hb5 bJ j1;have r0:=ag hb5 g0;have r1:=ag hb5 g1;have r2:=ag hb5 g2;have t0:=aH hb5 g0 q0;have t1:=aH hb5 g1 q1;have t2:=aH hb5 g2 q2;refine hK.out _ _ hS6 (fun hHeld3=>?_);clear hK K hb5 g0 g1 g2 q0 q1 q2;generalize W0.heap.size=G at *;refine rdY (rs:=[9]) ?_;refine AllReadyH.cons rfl (fun K hK=>?_) rN;go_simp;have hS:=((hS6.putG (g:=G) (j:=0) (u:=.int .u8 c) ae ae ae).putG (g:=G) (j:=1) (u:=.bool mu) ae ae ae).putG (g:=G) (j:=2) (u:=.int .u64 x) ae ae ae;refine hK.out _ _ hS (fun hHeld4=>?_);clear hK K;refine wpAnyH_done ar ?_ _
 have g0:(((w5.setCell ⟨G,0,none⟩ (.int .u8 c)).setCell ⟨G,1,none⟩ (.bool mu)).setCell ⟨G,2,none⟩ (.int .u64 x)).cell? ⟨G,0,none⟩=some (.int .u8 c):=by
  exact GD
 have g1:(((w5.setCell ⟨G,0,none⟩ (.int .u8 c)).setCell ⟨G,1,none⟩ (.bool mu)).setCell ⟨G,2,none⟩ (.int .u64 x)).cell? ⟨G,1,none⟩=some (.bool mu):=by
  exact KO
 have m0:=aU (i:=2) (x:=.int .u64 x) (aU (i:=1) (x:=.bool mu) (aU (i:=0) (x:=.int .u8 c) k0 (by omega:_≠G)) (by omega:_≠G)) (by omega:_≠G);have m1:=aU (i:=2) (x:=.int .u64 x) (aU (i:=1) (x:=.bool mu) (aU (i:=0) (x:=.int .u8 c) k1 (by omega:_≠G)) (by omega:_≠G)) (by omega:_≠G);have n0:=eH (Y:=G) (i:=2) (x:=.int .u64 x) (eH (Y:=G) (i:=1) (x:=.bool mu) (eH (Y:=G) (i:=0) (x:=.int .u8 c) j0));have n1:=eH (Y:=G) (i:=2) (x:=.int .u64 x) (eH (Y:=G) (i:=1) (x:=.bool mu) (eH (Y:=G) (i:=0) (x:=.int .u8 c) j1));generalize ((w5.setCell ⟨G,0,none⟩ (.int .u8 c)).setCell ⟨G,1,none⟩ (.bool mu)).setCell ⟨G,2,none⟩ (.int .u64 x)=WR at *;clear k0 k1 j0 j1 r0 r1 r2 t0 t1 t2 hS5 hS6 hHeld hHeld2 hHeld3 hHeld4;exact Nn
variable {z:Int}
theorem ma(hA:EvA v w1)(hM:EvM v w1 m lo)(h:CI v w1 w s)(L:Value)(hz:z<0\/(m.gn:Int)<=z) :
  Calls prog 128 #[.pointer (some ⟨v.C,0,none⟩),.agg #[.int .u8 21,.int .i64 z,L]] w (Rdz w 30 (.agg #[.string ⟨#[]⟩,.string ⟨#[]⟩])):=by
 have BW:Below w.heap.size w ((w.alloc (au 21 z L)).alloc (aO ⟨#[]⟩ ⟨#[]⟩)):=((Below.refl _ _).alloc lRn _).alloc aw _;have x1:((w.alloc (au 21 z L)).alloc (aO ⟨#[]⟩ ⟨#[]⟩)).cell? ⟨w.heap.size,1,none⟩=some (.int .i64 z):=aG;have x0:((w.alloc (au 21 z L)).alloc (aO ⟨#[]⟩ ⟨#[]⟩)).cell? ⟨w.heap.size,0,none⟩=some (.int .u8 21):=aG;obtain⟨c0,c1,c2,c5⟩:=h.mc;rw[hM.mv]at c2
 change w.cell? ⟨v.C,2,none⟩=some (.slice m.ga m.gn m.gc) at c2
 have HF:=hid (fun W=>rQ (w:=W) (a:=m.ga) (cap:=m.gc) hz yu);have d2:=ag BW c2;have HB:=hid BW;clear h c0 c1 c2 c5 BW;go_enter func128,ntmps128
 go_wp2_with fail;generalize (w.alloc (au 21 z L)).alloc (aO ⟨#[]⟩ ⟨#[]⟩)=W0 at *
 refine wp_region_held_drew (S:=loS v.C w.heap.size 2 (.slice m.ga m.gn m.gc) 21 z w) ar ⟨d2,x0,x1,HB.out.drew⟩ (fun hHeld=>?_);exact Lu
theorem mg(hA:EvA v w1)(hM:EvM v w1 m lo)(h:CI v w1 w s)(L:Value)(hz:z<0\/(m.gn:Int)<=z) :
  Calls prog 128 #[.pointer (some ⟨v.C,0,none⟩),.agg #[.int .u8 22,.int .i64 z,L]] w (Rdz w 30 (.agg #[.string ⟨#[]⟩,.string ⟨#[]⟩])):=by
 have BW:Below w.heap.size w ((w.alloc (au 22 z L)).alloc (aO ⟨#[]⟩ ⟨#[]⟩)):=((Below.refl _ _).alloc lRn _).alloc aw _;have x1:((w.alloc (au 22 z L)).alloc (aO ⟨#[]⟩ ⟨#[]⟩)).cell? ⟨w.heap.size,1,none⟩=some (.int .i64 z):=aG;have x0:((w.alloc (au 22 z L)).alloc (aO ⟨#[]⟩ ⟨#[]⟩)).cell? ⟨w.heap.size,0,none⟩=some (.int .u8 22):=aG;obtain⟨c0,c1,c2,c5⟩:=h.mc;rw[hM.mv]at c2
 change w.cell? ⟨v.C,2,none⟩=some (.slice m.ga m.gn m.gc) at c2
 have HF:=hid (fun W=>rQ (w:=W) (a:=m.ga) (cap:=m.gc) hz yu);have d2:=ag BW c2;have HB:=hid BW;clear h c0 c1 c2 c5 BW;go_enter func128,ntmps128
 go_wp2_with fail;generalize (w.alloc (au 22 z L)).alloc (aO ⟨#[]⟩ ⟨#[]⟩)=W0 at *
 refine wp_region_held_drew (S:=loS v.C w.heap.size 2 (.slice m.ga m.gn m.gc) 22 z w) ar ⟨d2,x0,x1,HB.out.drew⟩ (fun hHeld=>?_);exact Lu
def plainO(c:Int):Prop:=c≠11/\c≠12/\c≠16/\c≠17/\c≠18/\c≠19/\c≠20/\c≠21/\c≠22
variable {a:Int}
theorem qI(hA:EvA v w1)(hM:EvM v w1 m lo)(h:CI v w1 w s)(L:Value)(hc:plainO c)(h0:0<=c)(h1:c<=255) :
  Calls prog 128 #[.pointer (some ⟨v.C,0,none⟩),.agg #[.int .u8 c,.int .i64 a,L]] w (Rdz w 0 (.agg #[.string (ofV c).1.2.2.2.1,.string (ofV c).1.2.2.2.2.1])):=by
 have BW:Below w.heap.size w ((w.alloc (au c a L)).alloc (aO ⟨#[]⟩ ⟨#[]⟩)):=((Below.refl _ _).alloc lRn _).alloc aw _;have x1:((w.alloc (au c a L)).alloc (aO ⟨#[]⟩ ⟨#[]⟩)).cell? ⟨w.heap.size,1,none⟩=some (.int .i64 a):=aG;have x0:((w.alloc (au c a L)).alloc (aO ⟨#[]⟩ ⟨#[]⟩)).cell? ⟨w.heap.size,0,none⟩=some (.int .u8 c):=aG;have y0:((w.alloc (au c a L)).alloc (aO ⟨#[]⟩ ⟨#[]⟩)).cell? ⟨w.heap.size+1,0,none⟩=some (.string ⟨#[]⟩):=aG;have y1:((w.alloc (au c a L)).alloc (aO ⟨#[]⟩ ⟨#[]⟩)).cell? ⟨w.heap.size+1,1,none⟩=some (.string ⟨#[]⟩):=aG;have z0:((w.alloc (au c a L)).alloc (aO ⟨#[]⟩ ⟨#[]⟩)).frozen? ⟨w.heap.size+1,0,none⟩=false:=aG;have z1:((w.alloc (au c a L)).alloc (aO ⟨#[]⟩ ⟨#[]⟩)).frozen? ⟨w.heap.size+1,1,none⟩=false:=aG;have hk:=(hM.kinds.kept h.kept (fun h=>by have:=hM.kS 0 h; omega)).later BW (block_lt_of_cell (hM.kinds.kept h.kept (fun h=>by have:=hM.kS 0 h; omega) 0 _ rfl));have HO:=hid (of6 c _ hk h0 h1);have HB:=hid BW;obtain⟨p11,p12,p16,p17,p18,p19,p20,p21,p22⟩:=hc;generalize (ofV c).1=V at *;generalize (ofV c).2=b at *;obtain⟨r1,r2,r3,r4,r5,r6⟩:=V;unfold rv cx at HO;dsimp only at HO;clear h BW hk hM hA;go_enter func128,ntmps128
 go_wp2_with fail;generalize (w.alloc (au c a L)).alloc (aO ⟨#[]⟩ ⟨#[]⟩)=W0 at *;refine HO.out.mono ?_;rintro e w2⟨rfl,hb⟩;have k0:=ag hb y0;have k1:=ag hb y1;have j0:=aH hb y0 z0;have j1:=aH hb y1 z1;have HB2:=hid (HB.out.trans (hb.mono HB.out.size));clear hb;have BN:=aj w2 (mz r1 r2 r3 r4 r5 r6);have m0:=ag BN k0;have m1:=ag BN k1;have n0:=aH BN k0 j0;have n1:=aH BN k1 j1;have HB3:=hid (HB2.out.trans (BN.mono HB2.out.size));clear BN k0 k1 j0 j1;go_wp2_with fail;refine bodyPost_ret (v:=.agg #[.string r4,.string r5]) ?_ rfl (.inl ⟨rfl,rfl,iW HB3.out ae HB3.out.size⟩);exact dF
end
section
variable {v:Ev} {w1 w:World} {s:Cs} {m:MM} {lo:LIz}
abbrev lfS(C OB i:Nat)(st P R B:BAz)(w W:World):Prop :=
 W.cell? ⟨C,15,none⟩=some (.string st)/\W.cell? ⟨OB,i,none⟩=some (.string P)/\W.cell? ⟨OB,i+1,none⟩=some (.string R)/\W.cell? ⟨OB,i+2,none⟩=some (.string B)/\Below w.heap.size w W
variable {OB:Nat}
theorem lfS.later{st P R B:BAz}{w W W':World}(h:lfS C OB i st P R B w W)(hb:Below W.heap.size W W'):lfS C OB i st P R B w W' :=
 ⟨ag hb h.1,ag hb h.2.1,ag hb h.2.2.1,ag hb h.2.2.2.1,h.2.2.2.2.trans (hb.mono h.2.2.2.2.size)⟩
variable {n oc:Nat}
theorem CI.ob(h:CI v w1 w s)(h14:w.cell? ⟨v.C,14,none⟩=some (.slice (some ⟨OB,0,none⟩) n oc)):OB=v.O0\/w1.heap.size<=OB:=by
 obtain⟨OB',oc',h1,h2,h3⟩:=h.ck;have h0:w.cell? ⟨v.C,14,none⟩=some (.slice (some ⟨OB',0,none⟩) s.op.length oc'):=lg;rw[h0]at h14;simp at h14;rw[<- h14.1]; exact h3
def iI(s:Cs)(o:Opn):Int:=if (s.st.toList==(o.B++o.R).toList)=true then 0 else 33
def Jz(s:Cs)(o:Opn):Cs:={ s with st:=o.B++o.P }
variable {k:Nat}{o:Opn}
theorem yh(hA:EvA v w1)(h:CI v w1 w s)(hw:CW s k o)(hB:o.B.size<=1000000)(hR:o.R.size<=1000000)(hP:o.P.size<=1000000) :
  Calls prog 120 #[.pointer (some ⟨v.C,0,none⟩)] w (Doz v w1 w s.pc (iI s o) ml (Jz s o)):=by
 obtain⟨OB,oc,x14,x0,x1,x2,x3,x4⟩:=h.top hw;have HC:=hid h
 have hT:(s.st.toList==(o.B++o.R).toList)=true->iI s o=0:=fun h=>by simp only[iI,h,if_true]
 have hF:(s.st.toList==(o.B++o.R).toList)=false->iI s o=33:=fun h=>by simp[iI,h]
 have HD:=hid (show Jz s o={ s with st:=o.B++o.P } from rfl);generalize iI s o=E at *;have c15:=h.st;have hne:=CI.OB_ne hA (h.ob x14);clear h;go_enter func120,ntmps120
 go_wp2_with fail;refine(kY x14 hw.le).mono ?_;rintro e w2⟨rfl,hb⟩;have HB2:=hid hb;have y0:=ag hb x0;have y1:=ag hb x1;have y2:=ag hb x2;have y15:=ag hb c15;clear hb x0 x1 x2 x3 x4 c15 x14;go_wp2_with fail
 refine wp_region_held_drew (S:=lfS v.C OB (k*5) s.st o.P o.R o.B w2) ar ⟨y15,y0,y1,y2,(Below.refl _ _).drew⟩ (fun hHeld=>?_)
 refine tkC (i:=0) rfl ?_;(try simp only[Act.put,sIB]);refine tkC (i:=1) rfl ?_;(try simp only[Act.put]);refine tkC (i:=2) rfl ?_;(try simp only[Act.put]);refine tkC (i:=3) rfl ?_;(try simp only[Act.put]);refine tkC (i:=4) rfl ?_;(try simp only[Act.put]);refine tkC (i:=5) rfl ?_;(try simp only[Act.put]);refine tkC (i:=6) rfl ?_;(try simp only[Act.put]);refine tkC (i:=7) rfl ?_;(try simp only[Act.put]);refine tkC (i:=8) rfl ?_;(try simp only[Act.put]);refine tkC (i:=9) rfl ?_;(try simp only[Act.put]);refine tkC (i:=10) rfl ?_;(try simp only[Act.put]);refine tkC (i:=11) rfl ?_;(try simp only[Act.put]);refine rdY (rs:=[12]) ?_
 refine AllReadyH.cons rfl (fun K hK=>?_) rN;go_simp;refine(ET o.P o.R o.B ae).mono ?_;rintro e w3⟨rfl,hb3⟩;have hS3:=lfS.later hHeld hb3;refine hK.out _ _ hS3 (fun hHeld2=>?_)
 clear hK K hb3 hHeld;refine tkC (i:=13) rfl ?_;(try simp only[Act.put,sIB]);refine rdY (rs:=[14]) ?_
 refine AllReadyH.cons rfl (fun K hK=>?_) rN;go_simp;refine(iH _ _ _).mono ?_;rintro e w4 (⟨hb,rfl,rfl⟩ | ⟨hb,rfl,rfl⟩);rotate_left
 ·exact Eh
 refine hK.out _ _ hHeld2 (fun hHeld3=>?_);clear hK K;refine wpAnyH_done ar ?_ _;have hE:=hT hb;subst hE;have HB4:=hid (HB2.out.trans (hS3.2.2.2.2.mono HB2.out.size));obtain⟨q15,q0,q1,q2,qb⟩:=hS3;have HC4:=hid (HC.out.later hA HB4.out);clear hb hT hF y0 y1 y2 y15 qb hHeld2 hHeld3 HB2;go_wp2_with fail
 go_region_held3 (fun W=>W.cell? ⟨OB,k*5,none⟩=some (.string o.P)/\W.cell? ⟨OB,k*5+1,none⟩=some (.string o.R)/\W.cell? ⟨OB,k*5+2,none⟩=some (.string o.B))
  (first | assumption | exact⟨q0,q1,q2⟩ | exact⟨aU hS'.1 hne.1,aU hS'.2.1 hne.1,aU hS'.2.2 hne.1⟩)
  (first
   | (go_at_call 151; refine(AP o.P o.R o.B ae).mono ?_; rintro e w' ⟨rfl,hbx⟩; have hS':w'.cell? ⟨OB,k*5,none⟩=some (.string o.P)/\w'.cell? ⟨OB,k*5+1,none⟩=some (.string o.R)/\w'.cell? ⟨OB,k*5+2,none⟩=some (.string o.B):=⟨ag hbx (show World.cell? _ _=_ from q0),ag hbx (show World.cell? _ _=_ from q1),ag hbx (show World.cell? _ _=_ from q2)⟩; have HB5:=hid ((Below.refl _ _).drew.trans hbx); have HC5:=hid (HC4.out.later hA HB5.out); have k15:=HC5.out.st; have f15:=HC5.out.free 15; clear hbx))
 go_wp2_with fail;go_end0;refine .inl ⟨rfl,rfl,?_,(aP (HB4.out.trans (HB5.out.mono HB4.out.size))).trans (ax _ _ _ _)⟩;rw[HD.out];exact HC5.out.putSt hA _
end
section
variable {v:Ev} {w1 w:World} {s:Cs} {m:MM} {lo:LIz}
variable {P:Program}{ops:Array Oper}{Q:Exit->Act->World->Prop}{oi:Oper}{fuel:Nat}{a:Act}
theorem take_at{md:Region.Mode}{S:World->Prop}{d:Option Tmp}{v:Value}{listed:Array Bool}{w:World}(hi:ops[i]? =some oi)(hd:oi.dst=d)
  (hs:Region.noSelect ops=true) (hf:Region.free md ops listed i=true) (hr:(Region.ready md ops listed).contains i=true)
  (hQ:∀c a w,Q (.panic c) (a.put d v) w->Q (.panic c) a w) (hy:YieldsIf P ops S oi v a) (hS:S w)
  (h:wpAnyH P md ops Q S fuel (listed.setIfInBounds i true) (a.put d v) w):wpAnyH P md ops Q S (fuel+1) listed a w:=by
 subst hd;exact wpAnyH_take hi hs hf hr hQ hy hS h
abbrev esS(C OB i EL p n:Nat)(P R:BAz)(op el:Int)(w W:World):Prop :=
 W.cell? ⟨OB,i,none⟩=some (.string P)/\W.cell? ⟨OB,i+1,none⟩=some (.string R)/\W.cell? ⟨OB,i+3,none⟩=some (.int .u8 op)/\W.cell? ⟨OB,i+4,none⟩=some (.int .i64 p) /\
  W.cell? ⟨C,11,none⟩=some (.slice (some ⟨EL,0,none⟩) n n)/\W.cell? ⟨EL,p,none⟩=some (.int .i64 el)/\Below w.heap.size w W
variable {OB EL p n:Nat}{P R:BAz}
theorem esS.later{op el:Int}{w W W':World}(h:esS C OB i EL p n P R op el w W)(hb:Below W.heap.size W W'):esS C OB i EL p n P R op el w W' :=
 ⟨ag hb h.1,ag hb h.2.1,ag hb h.2.2.1,ag hb h.2.2.2.1,ag hb h.2.2.2.2.1,ag hb h.2.2.2.2.2.1,h.2.2.2.2.2.2.trans (hb.mono h.2.2.2.2.2.2.size)⟩
theorem xS(l:List Opn)(k:Nat)(h:l.length=k+1):opV l.dropLast=(opV l).take (k*5):=by
 have e:l=l.dropLast++[l.getLast vK]:=(List.dropLast_concat_getLast _).symm
 have hl:(opV l.dropLast).length=k*5:=by rw[Fq,List.length_dropLast,h]; simp
 conv=>rhs; rw[e]
 rw[show opV (l.dropLast++[l.getLast vK])=opV l.dropLast++opV [l.getLast vK] from by simp[opV]];rw[List.take_append_of_le_length ae,List.take_of_length_le ae]
variable {k oc:Nat}
theorem CI.pop(hA:EvA v w1)(h:CI v w1 w s)(hk:s.op.length=k+1)(h14:w.cell? ⟨v.C,14,none⟩=some (.slice (some ⟨OB,0,none⟩) (k+1) oc)):CI v w1 (w.setCell ⟨v.C,14,none⟩ (.slice (some ⟨OB,0,none⟩) k oc)) { s with op:=s.op.dropLast }:=by
 obtain⟨OB',oc',h1,h2,h3⟩:=h.ck;have h0:w.cell? ⟨v.C,14,none⟩=some (.slice (some ⟨OB',0,none⟩) s.op.length oc'):=lg;rw[h0,hk]at h14;simp at h14;obtain⟨rfl,rfl⟩:=h14;have hkp:=ax w v.C 14 (.slice (some ⟨OB',0,none⟩) k oc');have hne:=CI.OB_ne hA h3
 have hd:s.op.dropLast.length=k:=by rw[List.length_dropLast,hk]; rfl
 refine⟨h.kept.then hkp (fun k _ e=>.inl e),⟨OB',oc',?_,?_,h3⟩,h.sh.kept hkp (fun e=>hA.cs e.symm),h.fl.kept hkp (fun e=>hA.cf e.symm)⟩
 ·rw[aM h1];dsimp only
  rw[hd]; rfl
 dsimp only
 have:=kZ h2 hkp (fun e=>hne.1 e)
 rcases this.2 with ⟨e,_⟩ | ⟨g,cap,cur,e,h4,h5,h6,h7,h8,h9⟩
 ·cases e
 cases e
 rw[hd,xS _ k hk];refine⟨by rw[List.length_take,Fq,hk]; omega,.inr ⟨_,_,cur,rfl,h4,h5,ae,h7,h8,?_⟩⟩;rw[<- h9,List.take_take]
 congr 1
 omega
def js(o:Opn)(el:Int):Int:=if o.op≠4\/el≠-1\/(o.P.toList==o.R.toList)=true then 0 else 37
def ul(s:Cs):Cs:={ s with op:=s.op.dropLast }
variable {o:Opn}{el:Int}
theorem SP(hA:EvA v w1)(h:CI v w1 w s)(hw:CW s k o)(hB:o.B.size<=1000000)(hR:o.R.size<=1000000)(hP:o.P.size<=1000000)
    (hp:o.pc=p) (hpn:p<v.n) (hn:v.n<=1000000) (hel:w.cell? ⟨v.EL,p,none⟩=some (.int .i64 el)) :
  Calls prog 121 #[.pointer (some ⟨v.C,0,none⟩)] w (Doz v w1 w s.pc (orE (iI s o) (js o el)) ml (ul s)):=by
 obtain⟨OB,oc,x14,x0,x1,x2,x3,x4⟩:=h.top hw;have HC:=hid h
 have hT:(s.st.toList==(o.B++o.R).toList)=true->orE (iI s o) (js o el)=js o el:=fun h=>by simp only[iI,h,if_true,orE]; simp
 have hF:(s.st.toList==(o.B++o.R).toList)=false->orE (iI s o) (js o el)=33:=fun h=>by simp[iI,h,orE]
 have HD:=hid (show ul s={ s with op:=s.op.dropLast } from rfl);generalize orE (iI s o) (js o el)=E at *;rw[hp]at x4;have c15:=h.st;have c11:=h.elc;have hne:=CI.OB_ne hA (h.ob x14);clear h;go_enter func121,ntmps121
 go_wp2_with fail;refine(kY x14 hw.le).mono ?_;rintro e w2⟨rfl,hb⟩;have HB2:=hid hb;have y0:=ag hb x0;have y1:=ag hb x1;have y2:=ag hb x2;have y3:=ag hb x3;have y4:=ag hb x4;have y15:=ag hb c15;have y11:=ag hb c11;have yel:=ag hb hel;clear hb x0 x1 x2 x3 x4 c15 x14 c11 hel;go_wp2_with fail
 refine wp_region_held_drew (S:=lfS v.C OB (k*5) s.st o.P o.R o.B w2) ar ⟨y15,y0,y1,y2,(Below.refl _ _).drew⟩ (fun hHeld=>?_)
 refine tkC (i:=0) rfl ?_;(try simp only[Act.put,sIB]);refine tkC (i:=1) rfl ?_;(try simp only[Act.put]);refine tkC (i:=2) rfl ?_;(try simp only[Act.put]);refine tkC (i:=3) rfl ?_;(try simp only[Act.put]);refine tkC (i:=4) rfl ?_;(try simp only[Act.put]);refine tkC (i:=5) rfl ?_;(try simp only[Act.put]);refine tkC (i:=6) rfl ?_;(try simp only[Act.put]);refine tkC (i:=7) rfl ?_;(try simp only[Act.put]);refine tkC (i:=8) rfl ?_;(try simp only[Act.put]);refine tkC (i:=9) rfl ?_;(try simp only[Act.put]);refine tkC (i:=10) rfl ?_;(try simp only[Act.put]);refine tkC (i:=11) rfl ?_;(try simp only[Act.put]);refine rdY (rs:=[12]) ?_
 refine AllReadyH.cons rfl (fun K hK=>?_) rN;go_simp;refine(ET o.P o.R o.B ae).mono ?_;rintro e w3⟨rfl,hb3⟩;have hS3:=lfS.later hHeld hb3;refine hK.out _ _ hS3 (fun hHeld2=>?_)
 clear hK K hb3 hHeld;refine tkC (i:=13) rfl ?_;(try simp only[Act.put,sIB]);refine rdY (rs:=[14]) ?_
 refine AllReadyH.cons rfl (fun K hK=>?_) rN;go_simp;refine(iH _ _ _).mono ?_;rintro e w4 (⟨hb,rfl,rfl⟩ | ⟨hb,rfl,rfl⟩);rotate_left
 ·exact Eh
 refine hK.out _ _ hHeld2 (fun hHeld3=>?_);clear hK K;refine wpAnyH_done ar ?_ _;have hE:=hT hb;subst hE;have HB4:=hid (HB2.out.trans (hS3.2.2.2.2.mono HB2.out.size));have hb3:=hS3.2.2.2.2;obtain⟨q15,q0,q1,q2,qb⟩:=hS3;have q3:=ag hb3 y3;have q4:=ag hb3 y4;have q11:=ag hb3 y11;have qel:=ag hb3 yel;have HC4:=hid (HC.out.later hA HB4.out);clear hb hT hF y0 y1 y2 y15 y3 y4 y11 yel qb hHeld2 hHeld3 HB2 hb3;have HE4:=hid (show o.op≠4->js o el=0 from fun h=>by simp[js,h]);have HEN:=hid (show el≠-1->js o el=0 from fun h=>by simp[js,h]);have HES:=hid (show(o.P.toList==o.R.toList)=true->js o el=0 from fun h=>by simp only[js,h]; simp);have HEF:=hid (show o.op=4->el=-1->(o.P.toList==o.R.toList)=false->js o el=37 from fun h1 h2 h3=>by simp only[js,h1,h2,h3]; simp);generalize js o el=E2 at *;have g0:(0:Int)<=(p:Int):=ae;have g1:(p:Int)<(v.n:Int):=ae
 by_cases h4:o.op=4
 ·rw[h4]at q3
  by_cases he:el=-1
  ·rw[he]at qel;have hEF:=HEF.out h4 he;have hES:=HES.out;go_wp2_with fail
   refine wp_region_held_drew (S:=esS v.C OB (k*5) v.EL p v.n o.P o.R 4 (-1) w4) ar ⟨q0,q1,q3,q4,q11,qel,(Below.refl _ _).drew⟩ (fun hHeld=>?_);refine tkA (i:=0) (d:=some 20) (v:=?_) rfl ar ?_ ?_;rotate_left
   ·exact bj
   (try simp only[Act.put,sIB,sC0,sCs]);refine tkA (i:=1) (d:=some 21) (v:=?_) rfl ar ?_ ?_;rotate_left
   ·exact bj
   (try simp only[Act.put,sIB,sC0,sCs]);refine tkA (i:=2) (d:=some 22) (v:=?_) rfl ar ?_ ?_;rotate_left
   ·exact bj
   (try simp only[Act.put,sIB,sC0,sCs]);refine tkA (i:=3) (d:=some 23) (v:=?_) rfl ar ?_ ?_;rotate_left
   ·exact bj
   (try simp only[Act.put,sIB,sC0,sCs]);refine tkA (i:=4) (d:=some 24) (v:=?_) rfl ar ?_ ?_;rotate_left
   ·exact bj
   (try simp only[Act.put,sIB,sC0,sCs]);refine tkA (i:=5) (d:=some 25) (v:=?_) rfl ar ?_ ?_;rotate_left
   ·exact bj
   (try simp only[Act.put,sIB,sC0,sCs]);refine tkA (i:=6) (d:=some 26) (v:=?_) rfl ar ?_ ?_;rotate_left
   ·exact bj
   (try simp only[Act.put,sIB,sC0,sCs]);refine tkA (i:=7) (d:=some 27) (v:=?_) rfl ar ?_ ?_;rotate_left
   ·exact bj
   (try simp only[Act.put,sIB,sC0,sCs]);refine tkA (i:=8) (d:=some 28) (v:=?_) rfl ar ?_ ?_;rotate_left
   ·exact bj
   (try simp only[Act.put,sIB,sC0,sCs]);refine tkA (i:=9) (d:=some 29) (v:=?_) rfl ar ?_ ?_;rotate_left
   ·exact bj
   (try simp only[Act.put,sIB,sC0,sCs]);refine tkA (i:=10) (d:=some 30) (v:=?_) rfl ar ?_ ?_;rotate_left
   ·exact bj
   (try simp only[Act.put,sIB,sC0,sCs]);refine tkA (i:=11) (d:=some 31) (v:=?_) rfl ar ?_ ?_;rotate_left
   ·exact bj
   (try simp only[Act.put,sIB,sC0,sCs]);refine tkA (i:=12) (d:=some 32) (v:=?_) rfl ar ?_ ?_;rotate_left
   ·exact bj
   (try simp only[Act.put,sIB,sC0,sCs]);refine tkA (i:=13) (d:=some 33) (v:=?_) rfl ar ?_ ?_;rotate_left
   ·exact bj
   (try simp only[Act.put,sIB,sC0,sCs]);refine tkA (i:=14) (d:=some 34) (v:=?_) rfl ar ?_ ?_;rotate_left
   ·exact bj
   (try simp only[Act.put,sIB,sC0,sCs]);refine tkA (i:=15) (d:=some 35) (v:=?_) rfl ar ?_ ?_;rotate_left
   ·exact bj
   (try simp only[Act.put,sIB,sC0,sCs]);refine tkA (i:=16) (d:=some 36) (v:=?_) rfl ar ?_ ?_;rotate_left
   ·exact bj
   (try simp only[Act.put,sIB,sC0,sCs]);refine tkA (i:=17) (d:=some 37) (v:=?_) rfl ar ?_ ?_;rotate_left
   ·exact bj
   (try simp only[Act.put,sIB,sC0,sCs]);refine tkA (i:=18) (d:=some 38) (v:=?_) rfl ar ?_ ?_;rotate_left
   ·exact bj
   (try simp only[Act.put,sIB,sC0,sCs]);refine tkA (i:=19) (d:=some 39) (v:=?_) rfl ar ?_ ?_;rotate_left
   ·exact bj
   (try simp only[Act.put,sIB,sC0,sCs]);refine tkA (i:=20) (d:=some 40) (v:=?_) rfl ar ?_ ?_;rotate_left
   ·exact bj
   (try simp only[Act.put,sIB,sC0,sCs]);refine tkA (i:=21) (d:=some 41) (v:=?_) rfl ar ?_ ?_;rotate_left
   ·exact bj
   (try simp only[Act.put,sIB,sC0,sCs]);refine tkA (i:=22) (d:=some 42) (v:=?_) rfl ar ?_ ?_;rotate_left
   ·exact bj
   (try simp only[Act.put,sIB,sC0,sCs]);refine tkA (i:=23) (d:=some 43) (v:=?_) rfl ar ?_ ?_;rotate_left
   ·exact bj
   (try simp only[Act.put,sIB,sC0,sCs]);refine rdY (rs:=[24]) ?_
   refine AllReadyH.cons rfl (fun K hK=>?_) rN;go_simp;refine(Pv o.P o.R).mono ?_;rintro e w5⟨rfl,hb5⟩;have hS5:=esS.later hHeld hb5;refine hK.out _ _ hS5 (fun hHeld2=>?_);clear hK K hb5;refine tkA (i:=25) (d:=some 45) (v:=?_) rfl ar ?_ ?_;rotate_left
   ·exact bj
   (try simp only[Act.put,sIB,sC0,sCs]);refine rdY (rs:=[26]) ?_
   refine AllReadyH.cons rfl (fun K hK=>?_) rN;go_simp;refine(iH _ _ _).mono ?_;rintro e w6 (⟨hb,rfl,rfl⟩ | ⟨hb,rfl,rfl⟩);rotate_left
   ·have hE:=hEF hb;subst hE;exact⟨rfl,.inr ⟨aA,rfl,(HC.out.later hA (HB4.out.trans (hS5.2.2.2.2.2.2.mono HB4.out.size))).bad⟩⟩
   have hE:=hES hb;subst hE;refine hK.out _ _ hS5 (fun hHeld3=>?_);clear hK K;refine wpAnyH_done ar ?_ _;have HB5:=hid (HB4.out.trans (hS5.2.2.2.2.2.2.mono HB4.out.size));have HC5:=hid (HC.out.later hA HB5.out);clear hS5 hHeld hHeld3 q0 q1 q2 q3 q4 q11 qel q15;obtain⟨OB',oc',k14,_,_,_,_,_⟩:=HC5.out.top hw;have f14:=HC5.out.free 14;have HP:=hid (HC5.out.pop hA hw.len k14)
   have hoc:k+1<=oc':=by
    obtain⟨OB2,oc2,u1,u2,_⟩:=HC5.out.opn;rw[k14]at u1; simp at u1; omega
   have e1:(k:Int)<=(oc':Int):=ae;have hkk:=hw.le;have hwk:IntKind.i64.wrap (k:Int)=(k:Int):=i64_in _ ae ae;have e0:(0:Int)<=(k:Int):=ae;go_wp2_with fail
   go_region
   go_wp2_with fail;go_end0;refine .inl ⟨rfl,rfl,?_,((aP HB5.out).trans (ax _ _ _ _)).trans (Kept.drewN _ _ 1)⟩;rw[HD.out];exact HP.out.later hA (below_drewN _ 1)
  have hE0:=HEN.out he;subst hE0
  have he':(el != -1)=true:=by simpa using he
  go_wp2_with fail;refine wp_region_held_drew (S:=esS v.C OB (k*5) v.EL p v.n o.P o.R 4 el w4) ar ⟨q0,q1,q3,q4,q11,qel,(Below.refl _ _).drew⟩ (fun hHeld=>?_)
  refine tkA (i:=0) (d:=some 20) (v:=?_) rfl ar ?_ ?_;rotate_left
  ·exact bj
  (try simp only[Act.put,sIB,sC0,sCs]);refine tkA (i:=1) (d:=some 21) (v:=?_) rfl ar ?_ ?_;rotate_left
  ·exact bj
  (try simp only[Act.put,sIB,sC0,sCs]);refine tkA (i:=2) (d:=some 22) (v:=?_) rfl ar ?_ ?_;rotate_left
  ·exact bj
  (try simp only[Act.put,sIB,sC0,sCs]);refine tkA (i:=3) (d:=some 23) (v:=?_) rfl ar ?_ ?_;rotate_left
  ·exact bj
  (try simp only[Act.put,sIB,sC0,sCs]);refine tkA (i:=4) (d:=some 24) (v:=?_) rfl ar ?_ ?_;rotate_left
  ·exact bj
  (try simp only[Act.put,sIB,sC0,sCs]);refine tkA (i:=5) (d:=some 25) (v:=?_) rfl ar ?_ ?_;rotate_left
  ·exact bj
  (try simp only[Act.put,sIB,sC0,sCs]);refine tkA (i:=6) (d:=some 26) (v:=?_) rfl ar ?_ ?_;rotate_left
  ·exact bj
  (try simp only[Act.put,sIB,sC0,sCs]);refine tkA (i:=7) (d:=some 27) (v:=?_) rfl ar ?_ ?_;rotate_left
  ·exact bj
  (try simp only[Act.put,sIB,sC0,sCs]);refine tkA (i:=8) (d:=some 28) (v:=?_) rfl ar ?_ ?_;rotate_left
  ·exact bj
  (try simp only[Act.put,sIB,sC0,sCs]);refine tkA (i:=9) (d:=some 29) (v:=?_) rfl ar ?_ ?_;rotate_left
  ·exact bj
  (try simp only[Act.put,sIB,sC0,sCs]);refine tkA (i:=10) (d:=some 30) (v:=?_) rfl ar ?_ ?_;rotate_left
  ·exact bj
  (try simp only[Act.put,sIB,sC0,sCs]);refine tkA (i:=11) (d:=some 31) (v:=?_) rfl ar ?_ ?_;rotate_left
  ·exact bj
  (try simp only[Act.put,sIB,sC0,sCs]);refine tkA (i:=12) (d:=some 32) (v:=?_) rfl ar ?_ ?_;rotate_left
  ·exact bj
  (try simp only[Act.put,sIB,sC0,sCs]);refine tkA (i:=13) (d:=some 33) (v:=?_) rfl ar ?_ ?_;rotate_left
  ·exact bj
  (try simp only[Act.put,sIB,sC0,sCs]);refine tkA (i:=14) (d:=some 34) (v:=?_) rfl ar ?_ ?_;rotate_left
  ·exact bj
  (try simp only[Act.put,sIB,sC0,sCs]);refine tkA (i:=15) (d:=some 35) (v:=?_) rfl ar ?_ ?_;rotate_left
  ·exact bj
  (try simp only[Act.put,sIB,sC0,sCs]);refine tkA (i:=16) (d:=some 36) (v:=?_) rfl ar ?_ ?_;rotate_left
  ·exact bj
  (try simp only[Act.put,sIB,sC0,sCs]);refine tkA (i:=17) (d:=some 37) (v:=?_) rfl ar ?_ ?_;rotate_left
  ·exact bj
  (try simp only[Act.put,sIB,sC0,sCs]);exact QU
 have hE0:=HE4.out h4;subst hE0;have h4':(o.op != 4)=true:=mP;go_wp2_with fail;refine wp_region_held_drew (S:=esS v.C OB (k*5) v.EL p v.n o.P o.R o.op el w4) ar ⟨q0,q1,q3,q4,q11,qel,(Below.refl _ _).drew⟩ (fun hHeld=>?_);refine tkA (i:=0) (d:=some 20) (v:=?_) rfl ar ?_ ?_;rotate_left
 ·exact bj
 (try simp only[Act.put,sIB,sC0,sCs]);refine tkA (i:=1) (d:=some 21) (v:=?_) rfl ar ?_ ?_;rotate_left
 ·exact bj
 (try simp only[Act.put,sIB,sC0,sCs]);refine tkA (i:=2) (d:=some 22) (v:=?_) rfl ar ?_ ?_;rotate_left
 ·exact bj
 (try simp only[Act.put,sIB,sC0,sCs]);refine tkA (i:=3) (d:=some 23) (v:=?_) rfl ar ?_ ?_;rotate_left
 ·exact bj
 (try simp only[Act.put,sIB,sC0,sCs]);refine tkA (i:=4) (d:=some 24) (v:=?_) rfl ar ?_ ?_;rotate_left
 ·exact bj
 (try simp only[Act.put,sIB,sC0,sCs]);refine tkA (i:=5) (d:=some 25) (v:=?_) rfl ar ?_ ?_;rotate_left
 ·exact bj
 try simp only[Act.put,sIB,sC0,sCs]
 refine take_at (i:=6) (d:=some 26) (v:=undef) rfl ar ar ar ar (fun _ _ _ h=>h) (Or.inr ⟨ar,rfl⟩) bJ ?_
 try simp only[Act.put,sIB,sC0,sCs]
 refine take_at (i:=7) (d:=some 27) (v:=undef) rfl ar ar ar ar (fun _ _ _ h=>h) (Or.inr ⟨ar,rfl⟩) bJ ?_
 try simp only[Act.put,sIB,sC0,sCs]
 refine take_at (i:=8) (d:=some 28) (v:=undef) rfl ar ar ar ar (fun _ _ _ h=>h) (Or.inr ⟨ar,rfl⟩) bJ ?_
 try simp only[Act.put,sIB,sC0,sCs]
 refine take_at (i:=9) (d:=some 29) (v:=undef) rfl ar ar ar ar (fun _ _ _ h=>h) (Or.inr ⟨ar,rfl⟩) bJ ?_
 try simp only[Act.put,sIB,sC0,sCs]
 refine take_at (i:=10) (d:=some 30) (v:=undef) rfl ar ar ar ar (fun _ _ _ h=>h) (Or.inr ⟨ar,rfl⟩) bJ ?_
 try simp only[Act.put,sIB,sC0,sCs]
 refine take_at (i:=11) (d:=some 31) (v:=undef) rfl ar ar ar ar (fun _ _ _ h=>h) (Or.inr ⟨ar,rfl⟩) bJ ?_
 try simp only[Act.put,sIB,sC0,sCs]
 refine take_at (i:=12) (d:=some 32) (v:=undef) rfl ar ar ar ar (fun _ _ _ h=>h) (Or.inr ⟨ar,rfl⟩) bJ ?_
 try simp only[Act.put,sIB,sC0,sCs]
 refine take_at (i:=13) (d:=some 33) (v:=undef) rfl ar ar ar ar (fun _ _ _ h=>h) (Or.inr ⟨ar,rfl⟩) bJ ?_
 try simp only[Act.put,sIB,sC0,sCs]
 refine take_at (i:=14) (d:=some 34) (v:=undef) rfl ar ar ar ar (fun _ _ _ h=>h) (Or.inr ⟨ar,rfl⟩) bJ ?_
 try simp only[Act.put,sIB,sC0,sCs]
 refine take_at (i:=15) (d:=some 35) (v:=undef) rfl ar ar ar ar (fun _ _ _ h=>h) (Or.inr ⟨ar,rfl⟩) bJ ?_
 try simp only[Act.put,sIB,sC0,sCs]
 refine take_at (i:=16) (d:=some 36) (v:=undef) rfl ar ar ar ar (fun _ _ _ h=>h) (Or.inr ⟨ar,rfl⟩) bJ ?_
 try simp only[Act.put,sIB,sC0,sCs]
 refine take_at (i:=17) (d:=some 37) (v:=undef) rfl ar ar ar ar (fun _ _ _ h=>h) (Or.inr ⟨ar,rfl⟩) bJ ?_
 (try simp only[Act.put,sIB,sC0,sCs]);exact QU
end
def LI(w:World)(base:Nat)(v:Value)(l:LIz):Prop:=w.ownsRow base 3 1 v l.length (l.map (Value.int .i64))
theorem LI.nil(w:World)(base:Nat):LI w base (.slice none 0 0) []:=⟨rfl,.inl ⟨rfl,rfl⟩⟩
variable {w':World}{v:Value}{l:LIz}
theorem LI.later{base B:Nat}(h:LI w base v l)(hb:Below B w w')(hB:w.heap.size<=B):LI w' base v l :=
 fM h (fun b hx=>hb.block b (by
  rcases h.2 with h0 | ⟨g,cp,cur,h1,h2,h3,_⟩
  ·rw[h0.1]at hx; cases hx
  rw[h1]at hx;have:g=b:=wL;subst this;exact Nat.lt_of_lt_of_le (Array.getElem?_eq_some_iff.1 h3).1 hB))
theorem LI.kept{S:Nat->Prop}{base:Nat}(h:LI w base v l)(hk:Kept S w w')(hs:∀b,v.ownBlock=some b->¬S b):LI w' base v l :=
 fM h (fun b hx=>hk.block b (by
  rcases h.2 with h0 | ⟨g,cp,cur,h1,h2,h3,_⟩
  ·rw[h0.1]at hx; cases hx
  rw[h1]at hx;have:g=b:=wL;subst this;exact(Array.getElem?_eq_some_iff.1 h3).1) (hs b hx))
theorem LI.slice{base:Nat}(h:LI w base v l):∃a c,v=.slice a l.length c:=by
 exact Gi
theorem LI.block{base b:Nat}(h:LI w base v l)(hb:v.ownBlock=some b):base<=b/\b<w.heap.size:=by
 exact CL
theorem LI.mono{base base':Nat}(h:LI w base v l)(hb:base'<=base):LI w base' v l:=fR h hb
variable {a:OAz}{k c:Nat}
theorem LI.cell{base:Nat}(h:LI w base (.slice a k c) l):k=l.length/\(k=0\/∃B,a=some ⟨B,0,none⟩/\∀j,j<k->w.cell? ⟨B,j,none⟩=some (.int .i64 (l.getD j 0))):=by
 exact Md
theorem LI.seg{base:Nat}(h:LI w base (.slice a k c) l)(hr:∀z∈l,-9223372036854775808<=z/\z<=9223372036854775807)(hk:l.length<=1099511627776):pN w a k c l:=by
 obtain⟨e,hc⟩:=h.cell;refine⟨e.symm,?_,ae,hr,?_⟩
 ·rcases h.2 with ⟨h0,h1⟩ | ⟨g,cp,cur,h1,h2,h3,h4,_⟩
  ·injection h0 with e1 e2 e3
   omega
  injection h1 with e1 e2 e3;omega
 rcases hc with h0 | ⟨B,rfl,hc⟩
 ·exact .inl h0
 exact .inr ⟨B,0,rfl,fun j hj=>by rw[Nat.zero_add]; exact hc j hj⟩
variable {e:TypeId}{xs:List Value}
theorem mY{base B n cap:Nat}(h:Row w e B n cap xs)(hb:base<=B):w.ownsRow base e 1 (.slice (some ⟨B,0,none⟩) n cap) n xs:=by
 refine⟨h.1,?_⟩
 rcases h.2 with ⟨h0,_⟩ | ⟨g,cp,cur,h1,_,h3⟩
 ·cases h0
 injection h1 with e1 e2 e3;injection e1 with e1;injection e1 with e1;subst e1;exact .inr ⟨B,cp,cur,by rw[e3],hb,h3⟩
theorem Tryz.infOpn:(prog.info? 116).map (fun i=>(i.zero,i.size,i.bytes))=some (some (.agg #[.string ⟨#[]⟩,.string ⟨#[]⟩,.string ⟨#[]⟩,.int .u8 0,.int .i64 0]),5,64):=ar
section
variable {v:Ev} {w1 w:World} {s:Cs} {m:MM} {lo:LIz}
variable {sh:List ByteArray}
theorem CI.other(hA:EvA v w1)(h:CI v w1 w s){S:Nat->Prop}(hk:Kept S w w')(hS:∀k,S k->k=v.SH\/k=v.FL){fl:NIz}
  (h1:Row w' 9 v.SH v.n v.n (sh.map Value.string)) (h2:RI w' v.FL v.n fl):CI v w1 w' { s with sh:=sh,fl:=fl }:=by
 obtain⟨OB,oc,g1,g2,g3⟩:=h.ck;have hne:=CI.OB_ne hA g3;have hCl:v.C<w.heap.size:=Nat.lt_of_lt_of_le hA.c h.kept.size;have cs:=hA.cs;have cf:=hA.cf;refine⟨h.kept.then hk (fun k _ e=>?_),⟨OB,oc,(hk.block _ hCl (fun e=>?_)).trans g1,kZ g2 hk (fun e=>?_),g3⟩,h1,h2⟩
 ·rcases hS k e with rfl | rfl
  ·exact .inr (.inl rfl)
  exact .inr (.inr (.inl rfl))
 ·rcases hS _ e with e | e
  ·exact cs e
  exact cf e
 rcases hS _ e with e | e
 ·exact hne.2.1 e
 exact hne.2.2 e
theorem CI.putFl(hA:EvA v w1)(h:CI v w1 w s)(t:Nat)(x:Int):CI v w1 (w.setCell ⟨v.FL,t,none⟩ (.int .i64 x)) { s with fl:=fun i=>if i=t then x else s.fl i }:=by
 have hp:=h.fl.put (g:=fun i=>if i=t then x else s.fl i) t x (fun i _=>rfl);exact CI.other (sh:=s.sh) hA h hp.2 (fun k e=>.inr e) (h.sh.kept hp.2 (fun e=>hA.sf e)) hp.1
theorem CI.putSh(hA:EvA v w1)(h:CI v w1 w s)(t:Nat)(x:BAz):CI v w1 (w.setCell ⟨v.SH,t,none⟩ (.string x)) { s with sh:=s.sh.set t x }:=by
 have hp:=h.sh.put t (.string x);rw[<- List.map_set]at hp;exact CI.other (fl:=s.fl) hA h hp.2 (fun k e=>.inl e) hp.1 (h.fl.kept hp.2 (fun e=>hA.sf e.symm))
theorem Km(l:List Opn)(p:Opn):opV (l++[p])=opV l++p.vals:=by simp[opV]
variable {ops:Array Oper}{o:Oper}{a:Act}{Q:Exit->Act->World->Prop}{E:Prop}{OB n oc ad:Nat}
theorem step_opn(w:World){K:Act->World->Prop}(hgd:o.guard=none)
  (sl x:Operand) (ho:o.op=Op.call { callee:=Callee.builtin Builtin.append,args:=#[sl,x],argTypes:=#[118,118] })
   {l:List Opn} (hl:l.length=n) (hs:a.eval sl=.slice (some ⟨OB,0,none⟩) n oc) (hown:w.ownsRow 0 116 5 (.slice (some ⟨OB,0,none⟩) n oc) n (opV l))  (p:Opn) (hx:a.eval x=.slice (some ⟨ad,0,none⟩) 1 1)
  (hc:w.heap[ad]? =some (pq p.P p.R p.B p.op p.pc)) (hlen:n<=1000)
  (h:∀(g cap:Nat)(w':World),w'.ownsRow 0 116 5 (.slice (some ⟨g,0,none⟩) (n+1) cap) (n+1) (opV (l++[p]))->Kept (fun k=>k=OB) w w'->(g=OB\/g=w.heap.size)->K (a.put o.dst (.slice (some ⟨g,0,none⟩) (n+1) cap)) w') :
  if Region.wanted o (yielded ops a.tmps)=true then Oper.wp prog o a w K Q else E:=by
 obtain⟨i0,hi,hz0,hz1,hz2⟩:=info_parts Tryz.infOpn;refine step_append_lies w hgd sl x 118 ho 0 116 i0 _ 5 64 underlying118 hi hz0 hz1 hz2 rfl aA _ n _ hs hown ⟨ad,0,none⟩ 1 1 p.vals hx rfl
  (World.news_of_block hc) (by intro u hu; simp[Opn.vals]at hu; rcases hu with rfl | rfl | rfl | rfl | rfl <;> rfl) aA dA ae (Nat.zero_le _) _ rfl ?_
 intro g cap w' ho' hg hcase _;rw[<- Km]at ho';refine h g cap w' ho' ((Kept.of_grown hg).mono (fun k hk=>by simpa[Value.ownBlock] using hk)) ?_
 rcases hcase with e | e
 ·exact .inl (by simpa[Value.ownBlock] using e.symm)
 exact .inr e
variable {w2:World}{p:Opn}
theorem CI.push(hA:EvA v w1)(h:CI v w1 w s){OB oc g cap:Nat}(h14:w.cell? ⟨v.C,14,none⟩=some (.slice (some ⟨OB,0,none⟩) s.op.length oc))(hk:Kept (fun k=>k=OB) w w2)(hg:g=OB\/w1.heap.size<=g)
  (hown:w2.ownsRow 0 116 5 (.slice (some ⟨g,0,none⟩) (s.op.length+1) cap) (s.op.length+1) (opV (s.op++[p]))) :
  CI v w1 (w2.setCell ⟨v.C,14,none⟩ (.slice (some ⟨g,0,none⟩) (s.op.length+1) cap)) { s with op:=s.op++[p] }:=by
 obtain⟨OB',oc',h1,h2,h3⟩:=h.ck;have h0:w.cell? ⟨v.C,14,none⟩=some (.slice (some ⟨OB',0,none⟩) s.op.length oc'):=lg;rw[h0]at h14;simp at h14;obtain⟨rfl,rfl⟩:=h14;have hne:=CI.OB_ne hA h3
 have hg':g=v.O0\/w1.heap.size<=g:=by rcases hg with rfl | e; exact h3; exact .inr e
 have hne':=CI.OB_ne hA hg';have hkp:=ax w2 v.C 14 (.slice (some ⟨g,0,none⟩) (s.op.length+1) cap);have hCl:v.C<w.heap.size:=Nat.lt_of_lt_of_le hA.c h.kept.size
 have hk1:Kept v.S w1 w2:=h.kept.then hk (fun k hkl e=>by
  have:k=OB':=e
  rcases h3 with e3 | e3
  ·exact .inr (.inr (.inr (this.trans e3)))
  omega)
 refine⟨hk1.then hkp (fun k _ e=>.inl e),⟨g,cap,?_,?_,hg'⟩,(h.sh.kept hk (fun e=>hne.2.1 e.symm)).kept hkp (fun e=>hA.cs e.symm),(h.fl.kept hk (fun e=>hne.2.2 e.symm)).kept hkp (fun e=>hA.cf e.symm)⟩
 ·rw[aM ((hk.block _ hCl (fun e=>hne.1 e.symm)).trans h1)]
  simp[ckV]
 have:=kZ hown hkp (fun e=>hne'.1 e);exact cF
end
end Go.Proofs.YtepcmfegggdjfaaGreatDoor
