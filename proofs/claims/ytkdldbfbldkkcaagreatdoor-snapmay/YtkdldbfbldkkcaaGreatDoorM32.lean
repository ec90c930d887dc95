/-
  Texts Vk.
-/
import Derived.Test.YtkdldbfbldkkcaaGreatDoorM00
import Derived.Test.YtkdldbfbldkkcaaGreatDoorM31
set_option linter.unusedVariables false
set_option maxRecDepth 100000
set_option maxHeartbeats 16000000
namespace Go.Proofs.YtkdldbfbldkkcaaGreatDoor
open Go.RowKit
theorem loS.putG {C X i : Nat} {lv : Value} {op q : Int} {w W : World} {g j : Nat} {u : Value} (h : loS C X i lv op q w W) (hC : C ≠ g) (hX : X ≠ g) (hg : w.heap.size ≤ g) : loS C X i lv op q w (W.setCell ⟨g,j,none⟩ u) :=
 ⟨aT h.1 hC,aT h.2.1 hX,aT h.2.2.1 hX,bF h.2.2.2 hg h.2.2.2.size⟩
theorem dF {W : World} {b o Y i : Nat} {x : Value} (h : W.frozen? ⟨b,o,none⟩ = false) : (W.setCell ⟨Y,i,none⟩ x).frozen? ⟨b,o,none⟩ = false:=by
 rw [World.frozen?_setCell]; exact h
section
variable {v : Ev} {w1 w : World} {s : Cs} {m : MM} {lo : List Int}
theorem mR (hA : EvA v w1) (hM : EvM v w1 m lo) (h : CI v w1 w s) {q : Nat} {c x : Int} {mu : Bool} (L : Value) (hq : m.globals[q]? = some (c,mu,x)) :
  Calls Tryz.prog 117 #[.pointer (some ⟨v.C,0,none⟩),.agg #[.int .u8 21,.int .i64 q,L]] w (Rdz w (if 21 = 21 ∨ mu = true then 0 else 39) (.agg #[.string (jb 21 (ltr c)),.string (js 21 (ltr c))])):=by
 have BW : Below w.heap.size w ((w.alloc (aA 21 q L)).alloc (aG ⟨#[]⟩ ⟨#[]⟩)):=((Below.refl _ _).alloc (Nat.le_refl _) _).alloc au _;have x1 : ((w.alloc (aA 21 q L)).alloc (aG ⟨#[]⟩ ⟨#[]⟩)).cell? ⟨w.heap.size,1,none⟩ = some (.int .i64 q):=aB;have x0 : ((w.alloc (aA 21 q L)).alloc (aG ⟨#[]⟩ ⟨#[]⟩)).cell? ⟨w.heap.size,0,none⟩ = some (.int .u8 21):=aB;have y0 : ((w.alloc (aA 21 q L)).alloc (aG ⟨#[]⟩ ⟨#[]⟩)).cell? ⟨w.heap.size + 1,0,none⟩ = some (.string ⟨#[]⟩):=aB;have y1 : ((w.alloc (aA 21 q L)).alloc (aG ⟨#[]⟩ ⟨#[]⟩)).cell? ⟨w.heap.size + 1,1,none⟩ = some (.string ⟨#[]⟩):=aB;have z0 : ((w.alloc (aA 21 q L)).alloc (aG ⟨#[]⟩ ⟨#[]⟩)).frozen? ⟨w.heap.size + 1,0,none⟩ = false:=aB;have z1 : ((w.alloc (aA 21 q L)).alloc (aG ⟨#[]⟩ ⟨#[]⟩)).frozen? ⟨w.heap.size + 1,1,none⟩ = false:=aB;obtain ⟨c0,c1,c2,c5⟩:=h.mc;rw [hM.mv] at c2
 change w.cell? ⟨v.C,2,none⟩ = some (.slice m.ga m.gn m.gc) at c2
 have pg:=hM.pg.kept h.kept hM.gS
 have hqn : q < m.gn:=by rw [← pg.1]; exact az hq
 obtain ⟨gb,goff,hga,hgc⟩ : ∃ b off,m.ga = some ⟨b,off,none⟩ ∧ ∀ (j : Nat) x,m.globals[j]? = some x → w.cell? ⟨b,off + j * 3,none⟩ = some (.int .u8 x.1) ∧ w.cell? ⟨b,off + j * 3 + 1,none⟩ = some (.bool x.2.1) ∧ w.cell? ⟨b,off + j * 3 + 2,none⟩ = some (.int .u64 x.2.2):=by
  rcases pg.2 with h0 | hx
  ·omega
  ·exact hx
 rw [hga] at c2;obtain ⟨f0,f1,f2⟩:=hgc q _ hq
 simp only at f0 f1 f2
 have HF:=hid (fun W (hb : Below w.heap.size w W) => nN (w:=W) (cap:=m.gc) hqn tG (ag hb f0) (ag hb f1) (ag hb f2))
 have HH:=hid (fun W => iH (w:=W) 21 c (hM.gL _ (List.mem_of_getElem? hq)) ae)
 have d2:=ag BW c2;have HB:=hid BW;have HK:=hid h.kept.size;clear h c0 c1 c2 c5 f0 f1 f2 hgc hq BW pg;generalize jb 21 (ltr c) = P at *;generalize js 21 (ltr c) = R at *;have hCl : v.C < w.heap.size:=Nat.lt_of_lt_of_le hA.c HK.out;obtain ⟨E,hE⟩ : ∃ E : Int,(if 21 = 21 ∨ mu = true then 0 else 39) = E:=⟨_,rfl⟩;rw [hE];have HE:=hid hE;clear hE
 go_enter Tryz.func117,Tryz.ntmps117
 go_wp2_with fail;generalize (w.alloc (aA 21 q L)).alloc (aG ⟨#[]⟩ ⟨#[]⟩) = W0 at *;have BD:=hid (below_drewN W0 1)
 refine wp_region_held_drew (S:=loS v.C w.heap.size 2 (.slice (some ⟨gb,goff,none⟩) m.gn m.gc) 21 q w) ak ⟨d2,x0,x1,HB.out.drew⟩ (fun hHeld => ?_)
 refine tkC (i:=0) rfl ?_;(try simp only [Act.put,sIB]);refine tkC (i:=1) rfl ?_;(try simp only [Act.put]);refine tkC (i:=2) rfl ?_;(try simp only [Act.put]);refine tkC (i:=3) rfl ?_;(try simp only [Act.put]);refine tkC (i:=4) rfl ?_;(try simp only [Act.put]);refine tkC (i:=5) rfl ?_;(try simp only [Act.put]);refine tkC (i:=6) rfl ?_;(try simp only [Act.put]);refine rdY (rs:=[7,8]) ?_
 refine AllReadyH.cons rfl (fun K hK => ?_) (AllReadyH.cons rfl (fun K hK => ?_) rN)
 ·go_simp;refine (HF.out _ hHeld.2.2.2).mono ?_;rintro e w5 ⟨rfl,hb5⟩;have hS5:=loS.later hHeld hb5;have k0:=ag hb5 (show World.cell? _ _ = _ from y0);have k1:=ag hb5 (show World.cell? _ _ = _ from y1);have j0:=aC hb5 (show World.cell? _ _ = _ from y0) (show World.frozen? _ _ = _ from z0);have j1:=aC hb5 (show World.cell? _ _ = _ from y1) (show World.frozen? _ _ = _ from z1)
  refine hK.out _ _ hS5 (fun hHeld2 => ?_)
  clear hK K hb5;refine rdY (rs:=[8]) ?_
  refine AllReadyH.cons rfl (fun K hK => ?_) rN
  go_simp
  refine hK.out _ _ (hS5.later (aj _ _)) (fun hHeld3 => ?_)
  clear hK K;refine rdY (rs:=[9]) ?_
  refine AllReadyH.cons rfl (fun K hK => ?_) rN
  go_simp;have BN:=aj w5 (bh c mu x)
  refine hK.out _ _ (hS5.later BN) (fun hHeld4 => ?_)
  clear hK K;refine wpAnyH_done ak ?_ _;have g0 : (w5.alloc (bh c mu x)).cell? ⟨w5.heap.size,0,none⟩ = some (.int .u8 c):=aB;have g1 : (w5.alloc (bh c mu x)).cell? ⟨w5.heap.size,1,none⟩ = some (.bool mu):=aB;have m0:=ag BN k0;have m1:=ag BN k1;have n0:=aC BN k0 j0;have n1:=aC BN k1 j1;have hS:=hS5.later BN;generalize w5.alloc (bh c mu x) = WR at *;generalize w5.heap.size = G at *;clear k0 k1 j0 j1 BN hS5 hHeld hHeld2 hHeld3 hHeld4;exact Ey
 ·go_simp;have BN:=(aj W0 (bh 0 false 0)).drew;have hS5:=loS.later (W:=W0) ⟨d2,x0,x1,HB.out⟩ BN;have k0:=ag BN y0;have k1:=ag BN y1;have j0:=aC BN y0 z0;have j1:=aC BN y1 z1;have g0 : ((W0.alloc (bh 0 false 0)).drew).cell? ⟨W0.heap.size,0,none⟩ = some (.int .u8 0):=aB;have g1 : ((W0.alloc (bh 0 false 0)).drew).cell? ⟨W0.heap.size,1,none⟩ = some (.bool false):=aB;have g2 : ((W0.alloc (bh 0 false 0)).drew).cell? ⟨W0.heap.size,2,none⟩ = some (.int .u64 0):=aB;have q0 : ((W0.alloc (bh 0 false 0)).drew).frozen? ⟨W0.heap.size,0,none⟩ = false:=aB;have q1 : ((W0.alloc (bh 0 false 0)).drew).frozen? ⟨W0.heap.size,1,none⟩ = false:=aB;have q2 : ((W0.alloc (bh 0 false 0)).drew).frozen? ⟨W0.heap.size,2,none⟩ = false:=aB;have hGY : w.heap.size + 1 < W0.heap.size:=block_lt_of_cell y0
  refine hK.out _ _ hS5 (fun hHeld2 => ?_)
  clear hK K;generalize (W0.alloc (bh 0 false 0)).drew = W1 at *;refine rdY (rs:=[7]) ?_
  refine AllReadyH.cons rfl (fun K hK => ?_) rN
  go_simp;refine (HF.out _ hS5.2.2.2).mono ?_;rintro e w5 ⟨rfl,hb5⟩;have hS6:=loS.later hS5 hb5;have k0:=ag hb5 k0;have k1:=ag hb5 k1;have j0:=aC hb5 bB j0;have j1:=aC hb5 bB j1;have r0:=ag hb5 g0;have r1:=ag hb5 g1;have r2:=ag hb5 g2;have t0:=aC hb5 g0 q0;have t1:=aC hb5 g1 q1;have t2:=aC hb5 g2 q2
  refine hK.out _ _ hS6 (fun hHeld3 => ?_)
  clear hK K hb5 g0 g1 g2 q0 q1 q2;generalize W0.heap.size = G at *;refine rdY (rs:=[9]) ?_
  refine AllReadyH.cons rfl (fun K hK => ?_) rN
  go_simp;have hS:=((hS6.putG (g:=G) (j:=0) (u:=.int .u8 c) ae ae ae).putG (g:=G) (j:=1) (u:=.bool mu) ae ae ae).putG (g:=G) (j:=2) (u:=.int .u64 x) ae ae ae
  refine hK.out _ _ hS (fun hHeld4 => ?_)
  clear hK K;refine wpAnyH_done ak ?_ _
  have g0 : (((w5.setCell ⟨G,0,none⟩ (.int .u8 c)).setCell ⟨G,1,none⟩ (.bool mu)).setCell ⟨G,2,none⟩ (.int .u64 x)).cell? ⟨G,0,none⟩ = some (.int .u8 c):=by
   exact Hb
  have g1 : (((w5.setCell ⟨G,0,none⟩ (.int .u8 c)).setCell ⟨G,1,none⟩ (.bool mu)).setCell ⟨G,2,none⟩ (.int .u64 x)).cell? ⟨G,1,none⟩ = some (.bool mu):=by
   exact Fe
  have m0:=aT (i:=2) (x:=.int .u64 x) (aT (i:=1) (x:=.bool mu) (aT (i:=0) (x:=.int .u8 c) k0 (by omega : _ ≠ G)) (by omega : _ ≠ G)) (by omega : _ ≠ G)
  have m1:=aT (i:=2) (x:=.int .u64 x) (aT (i:=1) (x:=.bool mu) (aT (i:=0) (x:=.int .u8 c) k1 (by omega : _ ≠ G)) (by omega : _ ≠ G)) (by omega : _ ≠ G)
  have n0:=dF (Y:=G) (i:=2) (x:=.int .u64 x) (dF (Y:=G) (i:=1) (x:=.bool mu) (dF (Y:=G) (i:=0) (x:=.int .u8 c) j0));have n1:=dF (Y:=G) (i:=2) (x:=.int .u64 x) (dF (Y:=G) (i:=1) (x:=.bool mu) (dF (Y:=G) (i:=0) (x:=.int .u8 c) j1));generalize ((w5.setCell ⟨G,0,none⟩ (.int .u8 c)).setCell ⟨G,1,none⟩ (.bool mu)).setCell ⟨G,2,none⟩ (.int .u64 x) = WR at *;clear k0 k1 j0 j1 r0 r1 r2 t0 t1 t2 hS5 hS6 hHeld hHeld2 hHeld3 hHeld4;exact Ey
theorem m9 (hA : EvA v w1) (hM : EvM v w1 m lo) (h : CI v w1 w s) {q : Nat} {c x : Int} {mu : Bool} (L : Value) (hq : m.globals[q]? = some (c,mu,x)) :
  Calls Tryz.prog 117 #[.pointer (some ⟨v.C,0,none⟩),.agg #[.int .u8 22,.int .i64 q,L]] w (Rdz w (if 22 = 21 ∨ mu = true then 0 else 39) (.agg #[.string (jb 22 (ltr c)),.string (js 22 (ltr c))])):=by
 have BW : Below w.heap.size w ((w.alloc (aA 22 q L)).alloc (aG ⟨#[]⟩ ⟨#[]⟩)):=((Below.refl _ _).alloc (Nat.le_refl _) _).alloc au _;have x1 : ((w.alloc (aA 22 q L)).alloc (aG ⟨#[]⟩ ⟨#[]⟩)).cell? ⟨w.heap.size,1,none⟩ = some (.int .i64 q):=aB;have x0 : ((w.alloc (aA 22 q L)).alloc (aG ⟨#[]⟩ ⟨#[]⟩)).cell? ⟨w.heap.size,0,none⟩ = some (.int .u8 22):=aB;have y0 : ((w.alloc (aA 22 q L)).alloc (aG ⟨#[]⟩ ⟨#[]⟩)).cell? ⟨w.heap.size + 1,0,none⟩ = some (.string ⟨#[]⟩):=aB;have y1 : ((w.alloc (aA 22 q L)).alloc (aG ⟨#[]⟩ ⟨#[]⟩)).cell? ⟨w.heap.size + 1,1,none⟩ = some (.string ⟨#[]⟩):=aB;have z0 : ((w.alloc (aA 22 q L)).alloc (aG ⟨#[]⟩ ⟨#[]⟩)).frozen? ⟨w.heap.size + 1,0,none⟩ = false:=aB;have z1 : ((w.alloc (aA 22 q L)).alloc (aG ⟨#[]⟩ ⟨#[]⟩)).frozen? ⟨w.heap.size + 1,1,none⟩ = false:=aB;obtain ⟨c0,c1,c2,c5⟩:=h.mc;rw [hM.mv] at c2
 change w.cell? ⟨v.C,2,none⟩ = some (.slice m.ga m.gn m.gc) at c2
 have pg:=hM.pg.kept h.kept hM.gS
 have hqn : q < m.gn:=by rw [← pg.1]; exact az hq
 obtain ⟨gb,goff,hga,hgc⟩ : ∃ b off,m.ga = some ⟨b,off,none⟩ ∧ ∀ (j : Nat) x,m.globals[j]? = some x → w.cell? ⟨b,off + j * 3,none⟩ = some (.int .u8 x.1) ∧ w.cell? ⟨b,off + j * 3 + 1,none⟩ = some (.bool x.2.1) ∧ w.cell? ⟨b,off + j * 3 + 2,none⟩ = some (.int .u64 x.2.2):=by
  rcases pg.2 with h0 | hx
  ·omega
  ·exact hx
 rw [hga] at c2;obtain ⟨f0,f1,f2⟩:=hgc q _ hq
 simp only at f0 f1 f2
 have HF:=hid (fun W (hb : Below w.heap.size w W) => nN (w:=W) (cap:=m.gc) hqn tG (ag hb f0) (ag hb f1) (ag hb f2))
 have HH:=hid (fun W => iH (w:=W) 22 c (hM.gL _ (List.mem_of_getElem? hq)) ae)
 have d2:=ag BW c2;have HB:=hid BW;have HK:=hid h.kept.size;clear h c0 c1 c2 c5 f0 f1 f2 hgc hq BW pg;generalize jb 22 (ltr c) = P at *;generalize js 22 (ltr c) = R at *;have hCl : v.C < w.heap.size:=Nat.lt_of_lt_of_le hA.c HK.out;obtain ⟨E,hE⟩ : ∃ E : Int,(if 22 = 21 ∨ mu = true then 0 else 39) = E:=⟨_,rfl⟩;rw [hE];have HE:=hid hE;clear hE
 go_enter Tryz.func117,Tryz.ntmps117
 go_wp2_with fail;generalize (w.alloc (aA 22 q L)).alloc (aG ⟨#[]⟩ ⟨#[]⟩) = W0 at *;have BD:=hid (below_drewN W0 1)
 refine wp_region_held_drew (S:=loS v.C w.heap.size 2 (.slice (some ⟨gb,goff,none⟩) m.gn m.gc) 22 q w) ak ⟨d2,x0,x1,HB.out.drew⟩ (fun hHeld => ?_)
 refine tkC (i:=0) rfl ?_;(try simp only [Act.put,sIB]);refine tkC (i:=1) rfl ?_;(try simp only [Act.put]);refine tkC (i:=2) rfl ?_;(try simp only [Act.put]);refine tkC (i:=3) rfl ?_;(try simp only [Act.put]);refine tkC (i:=4) rfl ?_;(try simp only [Act.put]);refine tkC (i:=5) rfl ?_;(try simp only [Act.put]);refine tkC (i:=6) rfl ?_;(try simp only [Act.put]);refine rdY (rs:=[7,8]) ?_
 refine AllReadyH.cons rfl (fun K hK => ?_) (AllReadyH.cons rfl (fun K hK => ?_) rN)
 ·go_simp;refine (HF.out _ hHeld.2.2.2).mono ?_;rintro e w5 ⟨rfl,hb5⟩;have hS5:=loS.later hHeld hb5;have k0:=ag hb5 (show World.cell? _ _ = _ from y0);have k1:=ag hb5 (show World.cell? _ _ = _ from y1);have j0:=aC hb5 (show World.cell? _ _ = _ from y0) (show World.frozen? _ _ = _ from z0);have j1:=aC hb5 (show World.cell? _ _ = _ from y1) (show World.frozen? _ _ = _ from z1)
  refine hK.out _ _ hS5 (fun hHeld2 => ?_)
  clear hK K hb5;refine rdY (rs:=[8]) ?_
  refine AllReadyH.cons rfl (fun K hK => ?_) rN
  go_simp
  refine hK.out _ _ (hS5.later (aj _ _)) (fun hHeld3 => ?_)
  clear hK K;refine rdY (rs:=[9]) ?_
  refine AllReadyH.cons rfl (fun K hK => ?_) rN
  go_simp;have BN:=aj w5 (bh c mu x)
  refine hK.out _ _ (hS5.later BN) (fun hHeld4 => ?_)
  clear hK K;refine wpAnyH_done ak ?_ _;have g0 : (w5.alloc (bh c mu x)).cell? ⟨w5.heap.size,0,none⟩ = some (.int .u8 c):=aB;have g1 : (w5.alloc (bh c mu x)).cell? ⟨w5.heap.size,1,none⟩ = some (.bool mu):=aB;have m0:=ag BN k0;have m1:=ag BN k1;have n0:=aC BN k0 j0;have n1:=aC BN k1 j1;have hS:=hS5.later BN;generalize w5.alloc (bh c mu x) = WR at *;generalize w5.heap.size = G at *;clear k0 k1 j0 j1 BN hS5 hHeld hHeld2 hHeld3 hHeld4;exact D6
 ·go_simp;have BN:=(aj W0 (bh 0 false 0)).drew;have hS5:=loS.later (W:=W0) ⟨d2,x0,x1,HB.out⟩ BN;have k0:=ag BN y0;have k1:=ag BN y1;have j0:=aC BN y0 z0;have j1:=aC BN y1 z1;have g0 : ((W0.alloc (bh 0 false 0)).drew).cell? ⟨W0.heap.size,0,none⟩ = some (.int .u8 0):=aB;have g1 : ((W0.alloc (bh 0 false 0)).drew).cell? ⟨W0.heap.size,1,none⟩ = some (.bool false):=aB;have g2 : ((W0.alloc (bh 0 false 0)).drew).cell? ⟨W0.heap.size,2,none⟩ = some (.int .u64 0):=aB;have q0 : ((W0.alloc (bh 0 false 0)).drew).frozen? ⟨W0.heap.size,0,none⟩ = false:=aB;have q1 : ((W0.alloc (bh 0 false 0)).drew).frozen? ⟨W0.heap.size,1,none⟩ = false:=aB;have q2 : ((W0.alloc (bh 0 false 0)).drew).frozen? ⟨W0.heap.size,2,none⟩ = false:=aB;have hGY : w.heap.size + 1 < W0.heap.size:=block_lt_of_cell y0
  refine hK.out _ _ hS5 (fun hHeld2 => ?_)
  clear hK K;generalize (W0.alloc (bh 0 false 0)).drew = W1 at *;refine rdY (rs:=[7]) ?_
  refine AllReadyH.cons rfl (fun K hK => ?_) rN
  go_simp;refine (HF.out _ hS5.2.2.2).mono ?_;rintro e w5 ⟨rfl,hb5⟩;have hS6:=loS.later hS5 hb5;have k0:=ag hb5 k0;have k1:=ag hb5 k1;have j0:=aC hb5 bB j0;have j1:=aC hb5 bB j1;have r0:=ag hb5 g0;have r1:=ag hb5 g1;have r2:=ag hb5 g2;have t0:=aC hb5 g0 q0;have t1:=aC hb5 g1 q1;have t2:=aC hb5 g2 q2
  refine hK.out _ _ hS6 (fun hHeld3 => ?_)
  clear hK K hb5 g0 g1 g2 q0 q1 q2;generalize W0.heap.size = G at *;refine rdY (rs:=[9]) ?_
  refine AllReadyH.cons rfl (fun K hK => ?_) rN
  go_simp;have hS:=((hS6.putG (g:=G) (j:=0) (u:=.int .u8 c) ae ae ae).putG (g:=G) (j:=1) (u:=.bool mu) ae ae ae).putG (g:=G) (j:=2) (u:=.int .u64 x) ae ae ae
  refine hK.out _ _ hS (fun hHeld4 => ?_)
  clear hK K;refine wpAnyH_done ak ?_ _
  have g0 : (((w5.setCell ⟨G,0,none⟩ (.int .u8 c)).setCell ⟨G,1,none⟩ (.bool mu)).setCell ⟨G,2,none⟩ (.int .u64 x)).cell? ⟨G,0,none⟩ = some (.int .u8 c):=by
   exact Hb
  have g1 : (((w5.setCell ⟨G,0,none⟩ (.int .u8 c)).setCell ⟨G,1,none⟩ (.bool mu)).setCell ⟨G,2,none⟩ (.int .u64 x)).cell? ⟨G,1,none⟩ = some (.bool mu):=by
   exact Fe
  have m0:=aT (i:=2) (x:=.int .u64 x) (aT (i:=1) (x:=.bool mu) (aT (i:=0) (x:=.int .u8 c) k0 (by omega : _ ≠ G)) (by omega : _ ≠ G)) (by omega : _ ≠ G)
  have m1:=aT (i:=2) (x:=.int .u64 x) (aT (i:=1) (x:=.bool mu) (aT (i:=0) (x:=.int .u8 c) k1 (by omega : _ ≠ G)) (by omega : _ ≠ G)) (by omega : _ ≠ G)
  have n0:=dF (Y:=G) (i:=2) (x:=.int .u64 x) (dF (Y:=G) (i:=1) (x:=.bool mu) (dF (Y:=G) (i:=0) (x:=.int .u8 c) j0));have n1:=dF (Y:=G) (i:=2) (x:=.int .u64 x) (dF (Y:=G) (i:=1) (x:=.bool mu) (dF (Y:=G) (i:=0) (x:=.int .u8 c) j1));generalize ((w5.setCell ⟨G,0,none⟩ (.int .u8 c)).setCell ⟨G,1,none⟩ (.bool mu)).setCell ⟨G,2,none⟩ (.int .u64 x) = WR at *;clear k0 k1 j0 j1 r0 r1 r2 t0 t1 t2 hS5 hS6 hHeld hHeld2 hHeld3 hHeld4;exact D6
theorem kq (hA : EvA v w1) (hM : EvM v w1 m lo) (h : CI v w1 w s) {z : Int} (L : Value) (hz : z < 0 ∨ (m.gn : Int) ≤ z) :
  Calls Tryz.prog 117 #[.pointer (some ⟨v.C,0,none⟩),.agg #[.int .u8 21,.int .i64 z,L]] w (Rdz w 30 (.agg #[.string ⟨#[]⟩,.string ⟨#[]⟩])):=by
 have BW : Below w.heap.size w ((w.alloc (aA 21 z L)).alloc (aG ⟨#[]⟩ ⟨#[]⟩)):=((Below.refl _ _).alloc (Nat.le_refl _) _).alloc au _;have x1 : ((w.alloc (aA 21 z L)).alloc (aG ⟨#[]⟩ ⟨#[]⟩)).cell? ⟨w.heap.size,1,none⟩ = some (.int .i64 z):=aB;have x0 : ((w.alloc (aA 21 z L)).alloc (aG ⟨#[]⟩ ⟨#[]⟩)).cell? ⟨w.heap.size,0,none⟩ = some (.int .u8 21):=aB;obtain ⟨c0,c1,c2,c5⟩:=h.mc;rw [hM.mv] at c2
 change w.cell? ⟨v.C,2,none⟩ = some (.slice m.ga m.gn m.gc) at c2
 have HF:=hid (fun W => qD (w:=W) (a:=m.ga) (cap:=m.gc) hz tG)
 have d2:=ag BW c2;have HB:=hid BW;clear h c0 c1 c2 c5 BW
 go_enter Tryz.func117,Tryz.ntmps117
 go_wp2_with fail;generalize (w.alloc (aA 21 z L)).alloc (aG ⟨#[]⟩ ⟨#[]⟩) = W0 at *
 refine wp_region_held_drew (S:=loS v.C w.heap.size 2 (.slice m.ga m.gn m.gc) 21 z w) ak ⟨d2,x0,x1,HB.out.drew⟩ (fun hHeld => ?_)
 exact ET
theorem ki (hA : EvA v w1) (hM : EvM v w1 m lo) (h : CI v w1 w s) {z : Int} (L : Value) (hz : z < 0 ∨ (m.gn : Int) ≤ z) :
  Calls Tryz.prog 117 #[.pointer (some ⟨v.C,0,none⟩),.agg #[.int .u8 22,.int .i64 z,L]] w (Rdz w 30 (.agg #[.string ⟨#[]⟩,.string ⟨#[]⟩])):=by
 have BW : Below w.heap.size w ((w.alloc (aA 22 z L)).alloc (aG ⟨#[]⟩ ⟨#[]⟩)):=((Below.refl _ _).alloc (Nat.le_refl _) _).alloc au _;have x1 : ((w.alloc (aA 22 z L)).alloc (aG ⟨#[]⟩ ⟨#[]⟩)).cell? ⟨w.heap.size,1,none⟩ = some (.int .i64 z):=aB;have x0 : ((w.alloc (aA 22 z L)).alloc (aG ⟨#[]⟩ ⟨#[]⟩)).cell? ⟨w.heap.size,0,none⟩ = some (.int .u8 22):=aB;obtain ⟨c0,c1,c2,c5⟩:=h.mc;rw [hM.mv] at c2
 change w.cell? ⟨v.C,2,none⟩ = some (.slice m.ga m.gn m.gc) at c2
 have HF:=hid (fun W => qD (w:=W) (a:=m.ga) (cap:=m.gc) hz tG)
 have d2:=ag BW c2;have HB:=hid BW;clear h c0 c1 c2 c5 BW
 go_enter Tryz.func117,Tryz.ntmps117
 go_wp2_with fail;generalize (w.alloc (aA 22 z L)).alloc (aG ⟨#[]⟩ ⟨#[]⟩) = W0 at *
 refine wp_region_held_drew (S:=loS v.C w.heap.size 2 (.slice m.ga m.gn m.gc) 22 z w) ak ⟨d2,x0,x1,HB.out.drew⟩ (fun hHeld => ?_)
 exact ET
def plainO (c : Int) : Prop:=c ≠ 11 ∧ c ≠ 12 ∧ c ≠ 16 ∧ c ≠ 17 ∧ c ≠ 18 ∧ c ≠ 19 ∧ c ≠ 20 ∧ c ≠ 21 ∧ c ≠ 22
theorem nW (hA : EvA v w1) (hM : EvM v w1 m lo) (h : CI v w1 w s) {c a : Int} (L : Value) (hc : plainO c) (h0 : 0 ≤ c) (h1 : c ≤ 255) :
  Calls Tryz.prog 117 #[.pointer (some ⟨v.C,0,none⟩),.agg #[.int .u8 c,.int .i64 a,L]] w (Rdz w 0 (.agg #[.string (ofV c).1.2.2.2.1,.string (ofV c).1.2.2.2.2.1])):=by
 have BW : Below w.heap.size w ((w.alloc (aA c a L)).alloc (aG ⟨#[]⟩ ⟨#[]⟩)):=((Below.refl _ _).alloc (Nat.le_refl _) _).alloc au _;have x1 : ((w.alloc (aA c a L)).alloc (aG ⟨#[]⟩ ⟨#[]⟩)).cell? ⟨w.heap.size,1,none⟩ = some (.int .i64 a):=aB;have x0 : ((w.alloc (aA c a L)).alloc (aG ⟨#[]⟩ ⟨#[]⟩)).cell? ⟨w.heap.size,0,none⟩ = some (.int .u8 c):=aB;have y0 : ((w.alloc (aA c a L)).alloc (aG ⟨#[]⟩ ⟨#[]⟩)).cell? ⟨w.heap.size + 1,0,none⟩ = some (.string ⟨#[]⟩):=aB;have y1 : ((w.alloc (aA c a L)).alloc (aG ⟨#[]⟩ ⟨#[]⟩)).cell? ⟨w.heap.size + 1,1,none⟩ = some (.string ⟨#[]⟩):=aB;have z0 : ((w.alloc (aA c a L)).alloc (aG ⟨#[]⟩ ⟨#[]⟩)).frozen? ⟨w.heap.size + 1,0,none⟩ = false:=aB;have z1 : ((w.alloc (aA c a L)).alloc (aG ⟨#[]⟩ ⟨#[]⟩)).frozen? ⟨w.heap.size + 1,1,none⟩ = false:=aB
 have hk:=(hM.kinds.kept h.kept (fun h => by have:=hM.kS 0 h; omega)).later BW (block_lt_of_cell (hM.kinds.kept h.kept (fun h => by have:=hM.kS 0 h; omega) 0 _ rfl))
 have HO:=hid (of6 c _ hk h0 h1);have HB:=hid BW;obtain ⟨p11,p12,p16,p17,p18,p19,p20,p21,p22⟩:=hc;generalize (ofV c).1 = V at *;generalize (ofV c).2 = b at *;obtain ⟨r1,r2,r3,r4,r5,r6⟩:=V;unfold rv Jy at HO;dsimp only at HO;clear h BW hk hM hA
 go_enter Tryz.func117,Tryz.ntmps117
 go_wp2_with fail;generalize (w.alloc (aA c a L)).alloc (aG ⟨#[]⟩ ⟨#[]⟩) = W0 at *;refine HO.out.mono ?_;rintro e w2 ⟨rfl,hb⟩;have k0:=ag hb y0;have k1:=ag hb y1;have j0:=aC hb y0 z0;have j1:=aC hb y1 z1;have HB2:=hid (HB.out.trans (hb.mono HB.out.size));clear hb;have BN:=aj w2 (kK r1 r2 r3 r4 r5 r6);have m0:=ag BN k0;have m1:=ag BN k1;have n0:=aC BN k0 j0;have n1:=aC BN k1 j1;have HB3:=hid (HB2.out.trans (BN.mono HB2.out.size));clear BN k0 k1 j0 j1;go_wp2_with fail;refine bodyPost_ret (v:=.agg #[.string r4,.string r5]) ?_ rfl (.inl ⟨rfl,rfl,gQ HB3.out ae HB3.out.size⟩);exact cF
end
end Go.Proofs.YtkdldbfbldkkcaaGreatDoor
