/-
  Texts Vk.
-/
import Derived.Test.YtepcmfegggdjfaaGreatDoorQ00
import Derived.Test.YtepcmfegggdjfaaGreatDoorQ27
set_option linter.unusedVariables false
set_option maxRecDepth 100000
set_option maxHeartbeats 16000000
namespace Go.Proofs.YtepcmfegggdjfaaGreatDoor
open Go.RowKit
theorem loS.putG {C X i : Nat} {lv : Value} {op q : Int} {w W : World} {g j : Nat} {u : Value} (h : loS C X i lv op q w W) (hC : C ≠ g) (hX : X ≠ g) (hg : w.heap.size ≤ g) : loS C X i lv op q w (W.setCell ⟨g,j,none⟩ u) :=
 ⟨put_cell h.1 hC,put_cell h.2.1 hX,put_cell h.2.2.1 hX,below_put h.2.2.2 hg h.2.2.2.size⟩
theorem put_free {W : World} {b o Y i : Nat} {x : Value} (h : W.frozen? ⟨b,o,none⟩ = false) : (W.setCell ⟨Y,i,none⟩ x).frozen? ⟨b,o,none⟩ = false:=by
 rw [World.frozen?_setCell]; exact h
section
variable {v : Ev} {w1 w : World} {s : Cs} {m : MM} {lo : List Int}
theorem effect175_glob21 (hA : EvA v w1) (hM : EvM v w1 m lo) (h : CI v w1 w s) {q : Nat} {c x : Int} {mu : Bool} (L : Value) (hq : m.globals[q]? = some (c,mu,x)) :
  Calls Tryz.prog 128 #[.pointer (some ⟨v.C,0,none⟩),.agg #[.int .u8 21,.int .i64 q,L]] w (Rdz w (if 21 = 21 ∨ mu = true then 0 else 39) (.agg #[.string (hldP 21 (ltr c)),.string (hldR 21 (ltr c))])):=by
 have BW : Below w.heap.size w ((w.alloc (.cells #[.int .u8 21,.int .i64 q,L] 82)).alloc (.cells #[.string ⟨#[]⟩,.string ⟨#[]⟩] 114)):=((Below.refl _ _).alloc (Nat.le_refl _) _).alloc (by simp) _
 have x1 : ((w.alloc (.cells #[.int .u8 21,.int .i64 q,L] 82)).alloc (.cells #[.string ⟨#[]⟩,.string ⟨#[]⟩] 114)).cell? ⟨w.heap.size,1,none⟩ = some (.int .i64 q):=by simp [go_sem]
 have x0 : ((w.alloc (.cells #[.int .u8 21,.int .i64 q,L] 82)).alloc (.cells #[.string ⟨#[]⟩,.string ⟨#[]⟩] 114)).cell? ⟨w.heap.size,0,none⟩ = some (.int .u8 21):=by simp [go_sem]
 have y0 : ((w.alloc (.cells #[.int .u8 21,.int .i64 q,L] 82)).alloc (.cells #[.string ⟨#[]⟩,.string ⟨#[]⟩] 114)).cell? ⟨w.heap.size + 1,0,none⟩ = some (.string ⟨#[]⟩):=by simp [go_sem]
 have y1 : ((w.alloc (.cells #[.int .u8 21,.int .i64 q,L] 82)).alloc (.cells #[.string ⟨#[]⟩,.string ⟨#[]⟩] 114)).cell? ⟨w.heap.size + 1,1,none⟩ = some (.string ⟨#[]⟩):=by simp [go_sem]
 have z0 : ((w.alloc (.cells #[.int .u8 21,.int .i64 q,L] 82)).alloc (.cells #[.string ⟨#[]⟩,.string ⟨#[]⟩] 114)).frozen? ⟨w.heap.size + 1,0,none⟩ = false:=by simp [go_sem]
 have z1 : ((w.alloc (.cells #[.int .u8 21,.int .i64 q,L] 82)).alloc (.cells #[.string ⟨#[]⟩,.string ⟨#[]⟩] 114)).frozen? ⟨w.heap.size + 1,1,none⟩ = false:=by simp [go_sem]
 obtain ⟨c0,c1,c2,c5⟩:=h.mc
 rw [hM.mv] at c2
 change w.cell? ⟨v.C,2,none⟩ = some (.slice m.ga m.gn m.gc) at c2
 have pg:=hM.pg.kept h.kept hM.gS
 have hqn : q < m.gn:=by rw [← pg.1]; exact lt_of_get hq
 obtain ⟨gb,goff,hga,hgc⟩ : ∃ b off,m.ga = some ⟨b,off,none⟩ ∧ ∀ (j : Nat) x,m.globals[j]? = some x → w.cell? ⟨b,off + j * 3,none⟩ = some (.int .u8 x.1) ∧ w.cell? ⟨b,off + j * 3 + 1,none⟩ = some (.bool x.2.1) ∧ w.cell? ⟨b,off + j * 3 + 2,none⟩ = some (.int .u64 x.2.2):=by
  rcases pg.2 with h0 | hx
  ·omega
  ·exact hx
 rw [hga] at c2
 obtain ⟨f0,f1,f2⟩:=hgc q _ hq
 simp only at f0 f1 f2
 have HF:=hid (fun W (hb : Below w.heap.size w W) => pick241_yes (w:=W) (cap:=m.gc) hqn (by have:=hM.g64; omega) (later_cell hb f0) (later_cell hb f1) (later_cell hb f2))
 have HH:=hid (fun W => holder239 (w:=W) 21 c (hM.gL _ (List.mem_of_getElem? hq)) (by omega))
 have d2:=later_cell BW c2
 have HB:=hid BW
 have HK:=hid h.kept.size
 clear h c0 c1 c2 c5 f0 f1 f2 hgc hq BW pg
 generalize hldP 21 (ltr c) = P at *
 generalize hldR 21 (ltr c) = R at *
 have hCl : v.C < w.heap.size:=Nat.lt_of_lt_of_le hA.c HK.out
 obtain ⟨E,hE⟩ : ∃ E : Int,(if 21 = 21 ∨ mu = true then 0 else 39) = E:=⟨_,rfl⟩
 rw [hE]
 have HE:=hid hE
 clear hE
 go_enter Tryz.func128,Tryz.ntmps128
 go_wp2_with fail
 generalize (w.alloc (.cells #[.int .u8 21,.int .i64 q,L] 82)).alloc (.cells #[.string ⟨#[]⟩,.string ⟨#[]⟩] 114) = W0 at *
 have BD:=hid (below_drewN W0 1)
 refine wp_region_held_drew (S:=loS v.C w.heap.size 2 (.slice (some ⟨gb,goff,none⟩) m.gn m.gc) 21 q w) (by kernel_rfl) ⟨d2,x0,x1,HB.out.drew⟩ (fun hHeld => ?_)
 refine tkH (i:=0) (v:=?_) rfl ?_ ?_
 rotate_left
 ·intro w h;(try dsimp only at h);go_simp;try with_reducible rfl
 try simp only [Act.put,sIB]
 refine tkH (i:=1) (v:=?_) rfl ?_ ?_
 rotate_left
 ·intro w h;(try dsimp only at h);go_simp;try with_reducible rfl
 try simp only [Act.put]
 refine tkH (i:=2) (v:=?_) rfl ?_ ?_
 rotate_left
 ·intro w h;(try dsimp only at h);go_simp;try with_reducible rfl
 try simp only [Act.put]
 refine tkH (i:=3) (v:=?_) rfl ?_ ?_
 rotate_left
 ·intro w h;(try dsimp only at h);go_simp;try with_reducible rfl
 try simp only [Act.put]
 refine tkH (i:=4) (v:=?_) rfl ?_ ?_
 rotate_left
 ·intro w h;(try dsimp only at h);go_simp;try with_reducible rfl
 try simp only [Act.put]
 refine tkH (i:=5) (v:=?_) rfl ?_ ?_
 rotate_left
 ·intro w h;(try dsimp only at h);go_simp;try with_reducible rfl
 try simp only [Act.put]
 refine tkH (i:=6) (v:=?_) rfl ?_ ?_
 rotate_left
 ·intro w h;(try dsimp only at h);go_simp;try with_reducible rfl
 try simp only [Act.put]
 refine wpAnyH_ready (rs:=[7,8]) (by kernel_rfl) (by simp) ?_
 refine AllReadyH.cons rfl (fun K hK => ?_) (AllReadyH.cons rfl (fun K hK => ?_) AllReadyH.nil)
 ·go_simp
  refine (HF.out _ hHeld.2.2.2).mono ?_
  rintro e w5 ⟨rfl,hb5⟩
  have hS5:=loS.later hHeld hb5
  have k0:=later_cell hb5 (show World.cell? _ _ = _ from y0)
  have k1:=later_cell hb5 (show World.cell? _ _ = _ from y1)
  have j0:=later_free hb5 (show World.cell? _ _ = _ from y0) (show World.frozen? _ _ = _ from z0)
  have j1:=later_free hb5 (show World.cell? _ _ = _ from y1) (show World.frozen? _ _ = _ from z1)
  refine hK.out _ _ hS5 (fun hHeld2 => ?_)
  clear hK K hb5
  refine wpAnyH_ready (rs:=[8]) (by kernel_rfl) (by simp) ?_
  refine AllReadyH.cons rfl (fun K hK => ?_) AllReadyH.nil
  go_simp
  refine hK.out _ _ (hS5.later (below_new _ _)) (fun hHeld3 => ?_)
  clear hK K
  refine wpAnyH_ready (rs:=[9]) (by kernel_rfl) (by simp) ?_
  refine AllReadyH.cons rfl (fun K hK => ?_) AllReadyH.nil
  go_simp
  have BN:=below_new w5 (.cells #[.int .u8 c,.bool mu,.int .u64 x] 80)
  refine hK.out _ _ (hS5.later BN) (fun hHeld4 => ?_)
  clear hK K
  refine wpAnyH_done (by kernel_rfl) ?_ _
  have g0 : (w5.alloc (.cells #[.int .u8 c,.bool mu,.int .u64 x] 80)).cell? ⟨w5.heap.size,0,none⟩ = some (.int .u8 c):=by simp [go_sem]
  have g1 : (w5.alloc (.cells #[.int .u8 c,.bool mu,.int .u64 x] 80)).cell? ⟨w5.heap.size,1,none⟩ = some (.bool mu):=by simp [go_sem]
  have m0:=later_cell BN k0
  have m1:=later_cell BN k1
  have n0:=later_free BN k0 j0
  have n1:=later_free BN k1 j1
  have hS:=hS5.later BN
  generalize w5.alloc (.cells #[.int .u8 c,.bool mu,.int .u64 x] 80) = WR at *
  generalize w5.heap.size = G at *
  clear k0 k1 j0 j1 BN hS5 hHeld hHeld2 hHeld3 hHeld4
  clear HF BD y0 y1 z0 z1 x0 x1 d2
  obtain ⟨hs0,hs1,hs2,hsB⟩:=hS
  have HSB:=hid hsB
  clear hsB hs0 hs2
  go_wp2_with fail
  refine (must_yes _ _).mono ?_
  rintro e w6 ⟨rfl,hw6⟩
  obtain rfl:=hw6.symm
  have hE0 : E = 0:=by rw [← HE.out]; simp
  subst hE0
  go_wp2_with fail
  refine (HH.out _).mono ?_
  rintro e w7 ⟨rfl,hb⟩
  have k0:=later_cell hb m0
  have k1:=later_cell hb m1
  have j0:=later_free hb m0 n0
  have j1:=later_free hb m1 n1
  have HB2:=hid (HSB.out.trans (hb.mono HSB.out.size))
  clear hb
  go_wp2_with fail
  refine bodyPost_ret (v:=.agg #[.string P,.string R]) ?_ rfl (.inl ⟨rfl,rfl,below_put2 HB2.out (by omega) HB2.out.size⟩)
  rw [results_cell1 rfl]
  go_simp
 ·go_simp
  have BN:=(below_new W0 (.cells #[.int .u8 0,.bool false,.int .u64 0] 80)).drew
  have hS5:=loS.later (W:=W0) ⟨d2,x0,x1,HB.out⟩ BN
  have k0:=later_cell BN y0
  have k1:=later_cell BN y1
  have j0:=later_free BN y0 z0
  have j1:=later_free BN y1 z1
  have g0 : ((W0.alloc (.cells #[.int .u8 0,.bool false,.int .u64 0] 80)).drew).cell? ⟨W0.heap.size,0,none⟩ = some (.int .u8 0):=by simp [go_sem]
  have g1 : ((W0.alloc (.cells #[.int .u8 0,.bool false,.int .u64 0] 80)).drew).cell? ⟨W0.heap.size,1,none⟩ = some (.bool false):=by simp [go_sem]
  have g2 : ((W0.alloc (.cells #[.int .u8 0,.bool false,.int .u64 0] 80)).drew).cell? ⟨W0.heap.size,2,none⟩ = some (.int .u64 0):=by simp [go_sem]
  have q0 : ((W0.alloc (.cells #[.int .u8 0,.bool false,.int .u64 0] 80)).drew).frozen? ⟨W0.heap.size,0,none⟩ = false:=by simp [go_sem]
  have q1 : ((W0.alloc (.cells #[.int .u8 0,.bool false,.int .u64 0] 80)).drew).frozen? ⟨W0.heap.size,1,none⟩ = false:=by simp [go_sem]
  have q2 : ((W0.alloc (.cells #[.int .u8 0,.bool false,.int .u64 0] 80)).drew).frozen? ⟨W0.heap.size,2,none⟩ = false:=by simp [go_sem]
  have hGY : w.heap.size + 1 < W0.heap.size:=block_lt_of_cell y0
  refine hK.out _ _ hS5 (fun hHeld2 => ?_)
  clear hK K
  generalize (W0.alloc (.cells #[.int .u8 0,.bool false,.int .u64 0] 80)).drew = W1 at *
  refine wpAnyH_ready (rs:=[7]) (by kernel_rfl) (by simp) ?_
  refine AllReadyH.cons rfl (fun K hK => ?_) AllReadyH.nil
  go_simp
  refine (HF.out _ hS5.2.2.2).mono ?_
  rintro e w5 ⟨rfl,hb5⟩
  have hS6:=loS.later hS5 hb5
  have k0:=later_cell hb5 k0
  have k1:=later_cell hb5 k1
  have j0:=later_free hb5 (by assumption) j0
  have j1:=later_free hb5 (by assumption) j1
  have r0:=later_cell hb5 g0
  have r1:=later_cell hb5 g1
  have r2:=later_cell hb5 g2
  have t0:=later_free hb5 g0 q0
  have t1:=later_free hb5 g1 q1
  have t2:=later_free hb5 g2 q2
  refine hK.out _ _ hS6 (fun hHeld3 => ?_)
  clear hK K hb5 g0 g1 g2 q0 q1 q2
  generalize W0.heap.size = G at *
  refine wpAnyH_ready (rs:=[9]) (by kernel_rfl) (by simp) ?_
  refine AllReadyH.cons rfl (fun K hK => ?_) AllReadyH.nil
  go_simp
  have hS:=((hS6.putG (g:=G) (j:=0) (u:=.int .u8 c) (by omega) (by omega) (by omega)).putG (g:=G) (j:=1) (u:=.bool mu) (by omega) (by omega) (by omega)).putG (g:=G) (j:=2) (u:=.int .u64 x) (by omega) (by omega) (by omega)
  refine hK.out _ _ hS (fun hHeld4 => ?_)
  clear hK K
  refine wpAnyH_done (by kernel_rfl) ?_ _
  have g0 : (((w5.setCell ⟨G,0,none⟩ (.int .u8 c)).setCell ⟨G,1,none⟩ (.bool mu)).setCell ⟨G,2,none⟩ (.int .u64 x)).cell? ⟨G,0,none⟩ = some (.int .u8 c):=by
   rw [World.cell?_setCell_other _ _ _ _ (by simp),World.cell?_setCell_other _ _ _ _ (by simp)]; exact World.cell?_setCell_same _ _ _ r0
  have g1 : (((w5.setCell ⟨G,0,none⟩ (.int .u8 c)).setCell ⟨G,1,none⟩ (.bool mu)).setCell ⟨G,2,none⟩ (.int .u64 x)).cell? ⟨G,1,none⟩ = some (.bool mu):=by
   rw [World.cell?_setCell_other _ _ _ _ (by simp)]; exact World.cell?_setCell_same _ _ _ (by rw [World.cell?_setCell_other _ _ _ _ (by simp)]; exact r1)
  have m0:=put_cell (i:=2) (x:=.int .u64 x) (put_cell (i:=1) (x:=.bool mu) (put_cell (i:=0) (x:=.int .u8 c) k0 (by omega : _ ≠ G)) (by omega : _ ≠ G)) (by omega : _ ≠ G)
  have m1:=put_cell (i:=2) (x:=.int .u64 x) (put_cell (i:=1) (x:=.bool mu) (put_cell (i:=0) (x:=.int .u8 c) k1 (by omega : _ ≠ G)) (by omega : _ ≠ G)) (by omega : _ ≠ G)
  have n0:=put_free (Y:=G) (i:=2) (x:=.int .u64 x) (put_free (Y:=G) (i:=1) (x:=.bool mu) (put_free (Y:=G) (i:=0) (x:=.int .u8 c) j0))
  have n1:=put_free (Y:=G) (i:=2) (x:=.int .u64 x) (put_free (Y:=G) (i:=1) (x:=.bool mu) (put_free (Y:=G) (i:=0) (x:=.int .u8 c) j1))
  generalize ((w5.setCell ⟨G,0,none⟩ (.int .u8 c)).setCell ⟨G,1,none⟩ (.bool mu)).setCell ⟨G,2,none⟩ (.int .u64 x) = WR at *
  clear k0 k1 j0 j1 r0 r1 r2 t0 t1 t2 hS5 hS6 hHeld hHeld2 hHeld3 hHeld4
  clear HF BD y0 y1 z0 z1 x0 x1 d2
  obtain ⟨hs0,hs1,hs2,hsB⟩:=hS
  have HSB:=hid hsB
  clear hsB hs0 hs2
  go_wp2_with fail
  refine (must_yes _ _).mono ?_
  rintro e w6 ⟨rfl,hw6⟩
  obtain rfl:=hw6.symm
  have hE0 : E = 0:=by rw [← HE.out]; simp
  subst hE0
  go_wp2_with fail
  refine (HH.out _).mono ?_
  rintro e w7 ⟨rfl,hb⟩
  have k0:=later_cell hb m0
  have k1:=later_cell hb m1
  have j0:=later_free hb m0 n0
  have j1:=later_free hb m1 n1
  have HB2:=hid (HSB.out.trans (hb.mono HSB.out.size))
  clear hb
  go_wp2_with fail
  refine bodyPost_ret (v:=.agg #[.string P,.string R]) ?_ rfl (.inl ⟨rfl,rfl,below_put2 HB2.out (by omega) HB2.out.size⟩)
  rw [results_cell1 rfl]
  go_simp
theorem effect175_glob22 (hA : EvA v w1) (hM : EvM v w1 m lo) (h : CI v w1 w s) {q : Nat} {c x : Int} {mu : Bool} (L : Value) (hq : m.globals[q]? = some (c,mu,x)) :
  Calls Tryz.prog 128 #[.pointer (some ⟨v.C,0,none⟩),.agg #[.int .u8 22,.int .i64 q,L]] w (Rdz w (if 22 = 21 ∨ mu = true then 0 else 39) (.agg #[.string (hldP 22 (ltr c)),.string (hldR 22 (ltr c))])):=by
 have BW : Below w.heap.size w ((w.alloc (.cells #[.int .u8 22,.int .i64 q,L] 82)).alloc (.cells #[.string ⟨#[]⟩,.string ⟨#[]⟩] 114)):=((Below.refl _ _).alloc (Nat.le_refl _) _).alloc (by simp) _
 have x1 : ((w.alloc (.cells #[.int .u8 22,.int .i64 q,L] 82)).alloc (.cells #[.string ⟨#[]⟩,.string ⟨#[]⟩] 114)).cell? ⟨w.heap.size,1,none⟩ = some (.int .i64 q):=by simp [go_sem]
 have x0 : ((w.alloc (.cells #[.int .u8 22,.int .i64 q,L] 82)).alloc (.cells #[.string ⟨#[]⟩,.string ⟨#[]⟩] 114)).cell? ⟨w.heap.size,0,none⟩ = some (.int .u8 22):=by simp [go_sem]
 have y0 : ((w.alloc (.cells #[.int .u8 22,.int .i64 q,L] 82)).alloc (.cells #[.string ⟨#[]⟩,.string ⟨#[]⟩] 114)).cell? ⟨w.heap.size + 1,0,none⟩ = some (.string ⟨#[]⟩):=by simp [go_sem]
 have y1 : ((w.alloc (.cells #[.int .u8 22,.int .i64 q,L] 82)).alloc (.cells #[.string ⟨#[]⟩,.string ⟨#[]⟩] 114)).cell? ⟨w.heap.size + 1,1,none⟩ = some (.string ⟨#[]⟩):=by simp [go_sem]
 have z0 : ((w.alloc (.cells #[.int .u8 22,.int .i64 q,L] 82)).alloc (.cells #[.string ⟨#[]⟩,.string ⟨#[]⟩] 114)).frozen? ⟨w.heap.size + 1,0,none⟩ = false:=by simp [go_sem]
 have z1 : ((w.alloc (.cells #[.int .u8 22,.int .i64 q,L] 82)).alloc (.cells #[.string ⟨#[]⟩,.string ⟨#[]⟩] 114)).frozen? ⟨w.heap.size + 1,1,none⟩ = false:=by simp [go_sem]
 obtain ⟨c0,c1,c2,c5⟩:=h.mc
 rw [hM.mv] at c2
 change w.cell? ⟨v.C,2,none⟩ = some (.slice m.ga m.gn m.gc) at c2
 have pg:=hM.pg.kept h.kept hM.gS
 have hqn : q < m.gn:=by rw [← pg.1]; exact lt_of_get hq
 obtain ⟨gb,goff,hga,hgc⟩ : ∃ b off,m.ga = some ⟨b,off,none⟩ ∧ ∀ (j : Nat) x,m.globals[j]? = some x → w.cell? ⟨b,off + j * 3,none⟩ = some (.int .u8 x.1) ∧ w.cell? ⟨b,off + j * 3 + 1,none⟩ = some (.bool x.2.1) ∧ w.cell? ⟨b,off + j * 3 + 2,none⟩ = some (.int .u64 x.2.2):=by
  rcases pg.2 with h0 | hx
  ·omega
  ·exact hx
 rw [hga] at c2
 obtain ⟨f0,f1,f2⟩:=hgc q _ hq
 simp only at f0 f1 f2
 have HF:=hid (fun W (hb : Below w.heap.size w W) => pick241_yes (w:=W) (cap:=m.gc) hqn (by have:=hM.g64; omega) (later_cell hb f0) (later_cell hb f1) (later_cell hb f2))
 have HH:=hid (fun W => holder239 (w:=W) 22 c (hM.gL _ (List.mem_of_getElem? hq)) (by omega))
 have d2:=later_cell BW c2
 have HB:=hid BW
 have HK:=hid h.kept.size
 clear h c0 c1 c2 c5 f0 f1 f2 hgc hq BW pg
 generalize hldP 22 (ltr c) = P at *
 generalize hldR 22 (ltr c) = R at *
 have hCl : v.C < w.heap.size:=Nat.lt_of_lt_of_le hA.c HK.out
 obtain ⟨E,hE⟩ : ∃ E : Int,(if 22 = 21 ∨ mu = true then 0 else 39) = E:=⟨_,rfl⟩
 rw [hE]
 have HE:=hid hE
 clear hE
 go_enter Tryz.func128,Tryz.ntmps128
 go_wp2_with fail
 generalize (w.alloc (.cells #[.int .u8 22,.int .i64 q,L] 82)).alloc (.cells #[.string ⟨#[]⟩,.string ⟨#[]⟩] 114) = W0 at *
 have BD:=hid (below_drewN W0 1)
 refine wp_region_held_drew (S:=loS v.C w.heap.size 2 (.slice (some ⟨gb,goff,none⟩) m.gn m.gc) 22 q w) (by kernel_rfl) ⟨d2,x0,x1,HB.out.drew⟩ (fun hHeld => ?_)
 refine tkH (i:=0) (v:=?_) rfl ?_ ?_
 rotate_left
 ·intro w h;(try dsimp only at h);go_simp;try with_reducible rfl
 try simp only [Act.put,sIB]
 refine tkH (i:=1) (v:=?_) rfl ?_ ?_
 rotate_left
 ·intro w h;(try dsimp only at h);go_simp;try with_reducible rfl
 try simp only [Act.put]
 refine tkH (i:=2) (v:=?_) rfl ?_ ?_
 rotate_left
 ·intro w h;(try dsimp only at h);go_simp;try with_reducible rfl
 try simp only [Act.put]
 refine tkH (i:=3) (v:=?_) rfl ?_ ?_
 rotate_left
 ·intro w h;(try dsimp only at h);go_simp;try with_reducible rfl
 try simp only [Act.put]
 refine tkH (i:=4) (v:=?_) rfl ?_ ?_
 rotate_left
 ·intro w h;(try dsimp only at h);go_simp;try with_reducible rfl
 try simp only [Act.put]
 refine tkH (i:=5) (v:=?_) rfl ?_ ?_
 rotate_left
 ·intro w h;(try dsimp only at h);go_simp;try with_reducible rfl
 try simp only [Act.put]
 refine tkH (i:=6) (v:=?_) rfl ?_ ?_
 rotate_left
 ·intro w h;(try dsimp only at h);go_simp;try with_reducible rfl
 try simp only [Act.put]
 refine wpAnyH_ready (rs:=[7,8]) (by kernel_rfl) (by simp) ?_
 refine AllReadyH.cons rfl (fun K hK => ?_) (AllReadyH.cons rfl (fun K hK => ?_) AllReadyH.nil)
 ·go_simp
  refine (HF.out _ hHeld.2.2.2).mono ?_
  rintro e w5 ⟨rfl,hb5⟩
  have hS5:=loS.later hHeld hb5
  have k0:=later_cell hb5 (show World.cell? _ _ = _ from y0)
  have k1:=later_cell hb5 (show World.cell? _ _ = _ from y1)
  have j0:=later_free hb5 (show World.cell? _ _ = _ from y0) (show World.frozen? _ _ = _ from z0)
  have j1:=later_free hb5 (show World.cell? _ _ = _ from y1) (show World.frozen? _ _ = _ from z1)
  refine hK.out _ _ hS5 (fun hHeld2 => ?_)
  clear hK K hb5
  refine wpAnyH_ready (rs:=[8]) (by kernel_rfl) (by simp) ?_
  refine AllReadyH.cons rfl (fun K hK => ?_) AllReadyH.nil
  go_simp
  refine hK.out _ _ (hS5.later (below_new _ _)) (fun hHeld3 => ?_)
  clear hK K
  refine wpAnyH_ready (rs:=[9]) (by kernel_rfl) (by simp) ?_
  refine AllReadyH.cons rfl (fun K hK => ?_) AllReadyH.nil
  go_simp
  have BN:=below_new w5 (.cells #[.int .u8 c,.bool mu,.int .u64 x] 80)
  refine hK.out _ _ (hS5.later BN) (fun hHeld4 => ?_)
  clear hK K
  refine wpAnyH_done (by kernel_rfl) ?_ _
  have g0 : (w5.alloc (.cells #[.int .u8 c,.bool mu,.int .u64 x] 80)).cell? ⟨w5.heap.size,0,none⟩ = some (.int .u8 c):=by simp [go_sem]
  have g1 : (w5.alloc (.cells #[.int .u8 c,.bool mu,.int .u64 x] 80)).cell? ⟨w5.heap.size,1,none⟩ = some (.bool mu):=by simp [go_sem]
  have m0:=later_cell BN k0
  have m1:=later_cell BN k1
  have n0:=later_free BN k0 j0
  have n1:=later_free BN k1 j1
  have hS:=hS5.later BN
  generalize w5.alloc (.cells #[.int .u8 c,.bool mu,.int .u64 x] 80) = WR at *
  generalize w5.heap.size = G at *
  clear k0 k1 j0 j1 BN hS5 hHeld hHeld2 hHeld3 hHeld4
  clear HF BD y0 y1 z0 z1 x0 x1 d2
  obtain ⟨hs0,hs1,hs2,hsB⟩:=hS
  have HSB:=hid hsB
  clear hsB hs0 hs2
  go_wp2_with fail
  refine (mustB _ _ _).mono ?_
  rintro e w6 (⟨hb,rfl,rfl⟩ | ⟨hb,rfl,rfl⟩)
  rotate_left
  ·have hE0 : E = 39:=by rw [← HE.out,hb]; simp
   subst hE0
   exact ⟨rfl,.inr ⟨by decide,rfl,HSB.out⟩⟩
  have hE0 : E = 0:=by rw [← HE.out,hb]; simp
  subst hE0
  clear hb
  go_wp2_with fail
  refine (HH.out _).mono ?_
  rintro e w7 ⟨rfl,hb⟩
  have k0:=later_cell hb m0
  have k1:=later_cell hb m1
  have j0:=later_free hb m0 n0
  have j1:=later_free hb m1 n1
  have HB2:=hid (HSB.out.trans (hb.mono HSB.out.size))
  clear hb
  go_wp2_with fail
  refine bodyPost_ret (v:=.agg #[.string P,.string R]) ?_ rfl (.inl ⟨rfl,rfl,below_put2 HB2.out (by omega) HB2.out.size⟩)
  rw [results_cell1 rfl]
  go_simp
 ·go_simp
  have BN:=(below_new W0 (.cells #[.int .u8 0,.bool false,.int .u64 0] 80)).drew
  have hS5:=loS.later (W:=W0) ⟨d2,x0,x1,HB.out⟩ BN
  have k0:=later_cell BN y0
  have k1:=later_cell BN y1
  have j0:=later_free BN y0 z0
  have j1:=later_free BN y1 z1
  have g0 : ((W0.alloc (.cells #[.int .u8 0,.bool false,.int .u64 0] 80)).drew).cell? ⟨W0.heap.size,0,none⟩ = some (.int .u8 0):=by simp [go_sem]
  have g1 : ((W0.alloc (.cells #[.int .u8 0,.bool false,.int .u64 0] 80)).drew).cell? ⟨W0.heap.size,1,none⟩ = some (.bool false):=by simp [go_sem]
  have g2 : ((W0.alloc (.cells #[.int .u8 0,.bool false,.int .u64 0] 80)).drew).cell? ⟨W0.heap.size,2,none⟩ = some (.int .u64 0):=by simp [go_sem]
  have q0 : ((W0.alloc (.cells #[.int .u8 0,.bool false,.int .u64 0] 80)).drew).frozen? ⟨W0.heap.size,0,none⟩ = false:=by simp [go_sem]
  have q1 : ((W0.alloc (.cells #[.int .u8 0,.bool false,.int .u64 0] 80)).drew).frozen? ⟨W0.heap.size,1,none⟩ = false:=by simp [go_sem]
  have q2 : ((W0.alloc (.cells #[.int .u8 0,.bool false,.int .u64 0] 80)).drew).frozen? ⟨W0.heap.size,2,none⟩ = false:=by simp [go_sem]
  have hGY : w.heap.size + 1 < W0.heap.size:=block_lt_of_cell y0
  refine hK.out _ _ hS5 (fun hHeld2 => ?_)
  clear hK K
  generalize (W0.alloc (.cells #[.int .u8 0,.bool false,.int .u64 0] 80)).drew = W1 at *
  refine wpAnyH_ready (rs:=[7]) (by kernel_rfl) (by simp) ?_
  refine AllReadyH.cons rfl (fun K hK => ?_) AllReadyH.nil
  go_simp
  refine (HF.out _ hS5.2.2.2).mono ?_
  rintro e w5 ⟨rfl,hb5⟩
  have hS6:=loS.later hS5 hb5
  have k0:=later_cell hb5 k0
  have k1:=later_cell hb5 k1
  have j0:=later_free hb5 (by assumption) j0
  have j1:=later_free hb5 (by assumption) j1
  have r0:=later_cell hb5 g0
  have r1:=later_cell hb5 g1
  have r2:=later_cell hb5 g2
  have t0:=later_free hb5 g0 q0
  have t1:=later_free hb5 g1 q1
  have t2:=later_free hb5 g2 q2
  refine hK.out _ _ hS6 (fun hHeld3 => ?_)
  clear hK K hb5 g0 g1 g2 q0 q1 q2
  generalize W0.heap.size = G at *
  refine wpAnyH_ready (rs:=[9]) (by kernel_rfl) (by simp) ?_
  refine AllReadyH.cons rfl (fun K hK => ?_) AllReadyH.nil
  go_simp
  have hS:=((hS6.putG (g:=G) (j:=0) (u:=.int .u8 c) (by omega) (by omega) (by omega)).putG (g:=G) (j:=1) (u:=.bool mu) (by omega) (by omega) (by omega)).putG (g:=G) (j:=2) (u:=.int .u64 x) (by omega) (by omega) (by omega)
  refine hK.out _ _ hS (fun hHeld4 => ?_)
  clear hK K
  refine wpAnyH_done (by kernel_rfl) ?_ _
  have g0 : (((w5.setCell ⟨G,0,none⟩ (.int .u8 c)).setCell ⟨G,1,none⟩ (.bool mu)).setCell ⟨G,2,none⟩ (.int .u64 x)).cell? ⟨G,0,none⟩ = some (.int .u8 c):=by
   rw [World.cell?_setCell_other _ _ _ _ (by simp),World.cell?_setCell_other _ _ _ _ (by simp)]; exact World.cell?_setCell_same _ _ _ r0
  have g1 : (((w5.setCell ⟨G,0,none⟩ (.int .u8 c)).setCell ⟨G,1,none⟩ (.bool mu)).setCell ⟨G,2,none⟩ (.int .u64 x)).cell? ⟨G,1,none⟩ = some (.bool mu):=by
   rw [World.cell?_setCell_other _ _ _ _ (by simp)]; exact World.cell?_setCell_same _ _ _ (by rw [World.cell?_setCell_other _ _ _ _ (by simp)]; exact r1)
  have m0:=put_cell (i:=2) (x:=.int .u64 x) (put_cell (i:=1) (x:=.bool mu) (put_cell (i:=0) (x:=.int .u8 c) k0 (by omega : _ ≠ G)) (by omega : _ ≠ G)) (by omega : _ ≠ G)
  have m1:=put_cell (i:=2) (x:=.int .u64 x) (put_cell (i:=1) (x:=.bool mu) (put_cell (i:=0) (x:=.int .u8 c) k1 (by omega : _ ≠ G)) (by omega : _ ≠ G)) (by omega : _ ≠ G)
  have n0:=put_free (Y:=G) (i:=2) (x:=.int .u64 x) (put_free (Y:=G) (i:=1) (x:=.bool mu) (put_free (Y:=G) (i:=0) (x:=.int .u8 c) j0))
  have n1:=put_free (Y:=G) (i:=2) (x:=.int .u64 x) (put_free (Y:=G) (i:=1) (x:=.bool mu) (put_free (Y:=G) (i:=0) (x:=.int .u8 c) j1))
  generalize ((w5.setCell ⟨G,0,none⟩ (.int .u8 c)).setCell ⟨G,1,none⟩ (.bool mu)).setCell ⟨G,2,none⟩ (.int .u64 x) = WR at *
  clear k0 k1 j0 j1 r0 r1 r2 t0 t1 t2 hS5 hS6 hHeld hHeld2 hHeld3 hHeld4
  clear HF BD y0 y1 z0 z1 x0 x1 d2
  obtain ⟨hs0,hs1,hs2,hsB⟩:=hS
  have HSB:=hid hsB
  clear hsB hs0 hs2
  go_wp2_with fail
  refine (mustB _ _ _).mono ?_
  rintro e w6 (⟨hb,rfl,rfl⟩ | ⟨hb,rfl,rfl⟩)
  rotate_left
  ·have hE0 : E = 39:=by rw [← HE.out,hb]; simp
   subst hE0
   exact ⟨rfl,.inr ⟨by decide,rfl,HSB.out⟩⟩
  have hE0 : E = 0:=by rw [← HE.out,hb]; simp
  subst hE0
  clear hb
  go_wp2_with fail
  refine (HH.out _).mono ?_
  rintro e w7 ⟨rfl,hb⟩
  have k0:=later_cell hb m0
  have k1:=later_cell hb m1
  have j0:=later_free hb m0 n0
  have j1:=later_free hb m1 n1
  have HB2:=hid (HSB.out.trans (hb.mono HSB.out.size))
  clear hb
  go_wp2_with fail
  refine bodyPost_ret (v:=.agg #[.string P,.string R]) ?_ rfl (.inl ⟨rfl,rfl,below_put2 HB2.out (by omega) HB2.out.size⟩)
  rw [results_cell1 rfl]
  go_simp
theorem effect175_glob21_no (hA : EvA v w1) (hM : EvM v w1 m lo) (h : CI v w1 w s) {z : Int} (L : Value) (hz : z < 0 ∨ (m.gn : Int) ≤ z) :
  Calls Tryz.prog 128 #[.pointer (some ⟨v.C,0,none⟩),.agg #[.int .u8 21,.int .i64 z,L]] w (Rdz w 30 (.agg #[.string ⟨#[]⟩,.string ⟨#[]⟩])):=by
 have BW : Below w.heap.size w ((w.alloc (.cells #[.int .u8 21,.int .i64 z,L] 82)).alloc (.cells #[.string ⟨#[]⟩,.string ⟨#[]⟩] 114)):=((Below.refl _ _).alloc (Nat.le_refl _) _).alloc (by simp) _
 have x1 : ((w.alloc (.cells #[.int .u8 21,.int .i64 z,L] 82)).alloc (.cells #[.string ⟨#[]⟩,.string ⟨#[]⟩] 114)).cell? ⟨w.heap.size,1,none⟩ = some (.int .i64 z):=by simp [go_sem]
 have x0 : ((w.alloc (.cells #[.int .u8 21,.int .i64 z,L] 82)).alloc (.cells #[.string ⟨#[]⟩,.string ⟨#[]⟩] 114)).cell? ⟨w.heap.size,0,none⟩ = some (.int .u8 21):=by simp [go_sem]
 obtain ⟨c0,c1,c2,c5⟩:=h.mc
 rw [hM.mv] at c2
 change w.cell? ⟨v.C,2,none⟩ = some (.slice m.ga m.gn m.gc) at c2
 have HF:=hid (fun W => pick241_no (w:=W) (a:=m.ga) (cap:=m.gc) hz (by have:=hM.g64; omega))
 have d2:=later_cell BW c2
 have HB:=hid BW
 clear h c0 c1 c2 c5 BW
 go_enter Tryz.func128,Tryz.ntmps128
 go_wp2_with fail
 generalize (w.alloc (.cells #[.int .u8 21,.int .i64 z,L] 82)).alloc (.cells #[.string ⟨#[]⟩,.string ⟨#[]⟩] 114) = W0 at *
 refine wp_region_held_drew (S:=loS v.C w.heap.size 2 (.slice m.ga m.gn m.gc) 21 z w) (by kernel_rfl) ⟨d2,x0,x1,HB.out.drew⟩ (fun hHeld => ?_)
 refine tkH (i:=0) (v:=?_) rfl ?_ ?_
 rotate_left
 ·intro w h;(try dsimp only at h);go_simp;try with_reducible rfl
 try simp only [Act.put,sIB]
 refine tkH (i:=1) (v:=?_) rfl ?_ ?_
 rotate_left
 ·intro w h;(try dsimp only at h);go_simp;try with_reducible rfl
 try simp only [Act.put]
 refine tkH (i:=2) (v:=?_) rfl ?_ ?_
 rotate_left
 ·intro w h;(try dsimp only at h);go_simp;try with_reducible rfl
 try simp only [Act.put]
 refine tkH (i:=3) (v:=?_) rfl ?_ ?_
 rotate_left
 ·intro w h;(try dsimp only at h);go_simp;try with_reducible rfl
 try simp only [Act.put]
 refine tkH (i:=4) (v:=?_) rfl ?_ ?_
 rotate_left
 ·intro w h;(try dsimp only at h);go_simp;try with_reducible rfl
 try simp only [Act.put]
 refine tkH (i:=5) (v:=?_) rfl ?_ ?_
 rotate_left
 ·intro w h;(try dsimp only at h);go_simp;try with_reducible rfl
 try simp only [Act.put]
 refine tkH (i:=6) (v:=?_) rfl ?_ ?_
 rotate_left
 ·intro w h;(try dsimp only at h);go_simp;try with_reducible rfl
 try simp only [Act.put]
 refine wpAnyH_ready (rs:=[7,8]) (by kernel_rfl) (by simp) ?_
 refine AllReadyH.cons rfl (fun K hK => ?_) (AllReadyH.cons rfl (fun K hK => ?_) AllReadyH.nil)
 ·go_simp
  refine (HF.out _).mono ?_
  rintro e w5 ⟨rfl,hb⟩
  exact ⟨rfl,.inr ⟨by decide,rfl,hHeld.2.2.2.trans (hb.mono hHeld.2.2.2.size)⟩⟩
 ·go_simp
  have BN:=(below_new W0 (.cells #[.int .u8 0,.bool false,.int .u64 0] 80)).drew
  have hS5:=loS.later (W:=W0) ⟨d2,x0,x1,HB.out⟩ BN
  refine hK.out _ _ hS5 (fun hHeld2 => ?_)
  clear hK K
  generalize (W0.alloc (.cells #[.int .u8 0,.bool false,.int .u64 0] 80)).drew = W1 at *
  refine wpAnyH_ready (rs:=[7]) (by kernel_rfl) (by simp) ?_
  refine AllReadyH.cons rfl (fun K hK => ?_) AllReadyH.nil
  go_simp
  refine (HF.out _).mono ?_
  rintro e w5 ⟨rfl,hb⟩
  exact ⟨rfl,.inr ⟨by decide,rfl,hS5.2.2.2.trans (hb.mono hS5.2.2.2.size)⟩⟩
theorem effect175_glob22_no (hA : EvA v w1) (hM : EvM v w1 m lo) (h : CI v w1 w s) {z : Int} (L : Value) (hz : z < 0 ∨ (m.gn : Int) ≤ z) :
  Calls Tryz.prog 128 #[.pointer (some ⟨v.C,0,none⟩),.agg #[.int .u8 22,.int .i64 z,L]] w (Rdz w 30 (.agg #[.string ⟨#[]⟩,.string ⟨#[]⟩])):=by
 have BW : Below w.heap.size w ((w.alloc (.cells #[.int .u8 22,.int .i64 z,L] 82)).alloc (.cells #[.string ⟨#[]⟩,.string ⟨#[]⟩] 114)):=((Below.refl _ _).alloc (Nat.le_refl _) _).alloc (by simp) _
 have x1 : ((w.alloc (.cells #[.int .u8 22,.int .i64 z,L] 82)).alloc (.cells #[.string ⟨#[]⟩,.string ⟨#[]⟩] 114)).cell? ⟨w.heap.size,1,none⟩ = some (.int .i64 z):=by simp [go_sem]
 have x0 : ((w.alloc (.cells #[.int .u8 22,.int .i64 z,L] 82)).alloc (.cells #[.string ⟨#[]⟩,.string ⟨#[]⟩] 114)).cell? ⟨w.heap.size,0,none⟩ = some (.int .u8 22):=by simp [go_sem]
 obtain ⟨c0,c1,c2,c5⟩:=h.mc
 rw [hM.mv] at c2
 change w.cell? ⟨v.C,2,none⟩ = some (.slice m.ga m.gn m.gc) at c2
 have HF:=hid (fun W => pick241_no (w:=W) (a:=m.ga) (cap:=m.gc) hz (by have:=hM.g64; omega))
 have d2:=later_cell BW c2
 have HB:=hid BW
 clear h c0 c1 c2 c5 BW
 go_enter Tryz.func128,Tryz.ntmps128
 go_wp2_with fail
 generalize (w.alloc (.cells #[.int .u8 22,.int .i64 z,L] 82)).alloc (.cells #[.string ⟨#[]⟩,.string ⟨#[]⟩] 114) = W0 at *
 refine wp_region_held_drew (S:=loS v.C w.heap.size 2 (.slice m.ga m.gn m.gc) 22 z w) (by kernel_rfl) ⟨d2,x0,x1,HB.out.drew⟩ (fun hHeld => ?_)
 refine tkH (i:=0) (v:=?_) rfl ?_ ?_
 rotate_left
 ·intro w h;(try dsimp only at h);go_simp;try with_reducible rfl
 try simp only [Act.put,sIB]
 refine tkH (i:=1) (v:=?_) rfl ?_ ?_
 rotate_left
 ·intro w h;(try dsimp only at h);go_simp;try with_reducible rfl
 try simp only [Act.put]
 refine tkH (i:=2) (v:=?_) rfl ?_ ?_
 rotate_left
 ·intro w h;(try dsimp only at h);go_simp;try with_reducible rfl
 try simp only [Act.put]
 refine tkH (i:=3) (v:=?_) rfl ?_ ?_
 rotate_left
 ·intro w h;(try dsimp only at h);go_simp;try with_reducible rfl
 try simp only [Act.put]
 refine tkH (i:=4) (v:=?_) rfl ?_ ?_
 rotate_left
 ·intro w h;(try dsimp only at h);go_simp;try with_reducible rfl
 try simp only [Act.put]
 refine tkH (i:=5) (v:=?_) rfl ?_ ?_
 rotate_left
 ·intro w h;(try dsimp only at h);go_simp;try with_reducible rfl
 try simp only [Act.put]
 refine tkH (i:=6) (v:=?_) rfl ?_ ?_
 rotate_left
 ·intro w h;(try dsimp only at h);go_simp;try with_reducible rfl
 try simp only [Act.put]
 refine wpAnyH_ready (rs:=[7,8]) (by kernel_rfl) (by simp) ?_
 refine AllReadyH.cons rfl (fun K hK => ?_) (AllReadyH.cons rfl (fun K hK => ?_) AllReadyH.nil)
 ·go_simp
  refine (HF.out _).mono ?_
  rintro e w5 ⟨rfl,hb⟩
  exact ⟨rfl,.inr ⟨by decide,rfl,hHeld.2.2.2.trans (hb.mono hHeld.2.2.2.size)⟩⟩
 ·go_simp
  have BN:=(below_new W0 (.cells #[.int .u8 0,.bool false,.int .u64 0] 80)).drew
  have hS5:=loS.later (W:=W0) ⟨d2,x0,x1,HB.out⟩ BN
  refine hK.out _ _ hS5 (fun hHeld2 => ?_)
  clear hK K
  generalize (W0.alloc (.cells #[.int .u8 0,.bool false,.int .u64 0] 80)).drew = W1 at *
  refine wpAnyH_ready (rs:=[7]) (by kernel_rfl) (by simp) ?_
  refine AllReadyH.cons rfl (fun K hK => ?_) AllReadyH.nil
  go_simp
  refine (HF.out _).mono ?_
  rintro e w5 ⟨rfl,hb⟩
  exact ⟨rfl,.inr ⟨by decide,rfl,hS5.2.2.2.trans (hb.mono hS5.2.2.2.size)⟩⟩
def plainO (c : Int) : Prop:=c ≠ 11 ∧ c ≠ 12 ∧ c ≠ 16 ∧ c ≠ 17 ∧ c ≠ 18 ∧ c ≠ 19 ∧ c ≠ 20 ∧ c ≠ 21 ∧ c ≠ 22
theorem effect175_plain (hA : EvA v w1) (hM : EvM v w1 m lo) (h : CI v w1 w s) {c a : Int} (L : Value) (hc : plainO c) (h0 : 0 ≤ c) (h1 : c ≤ 255) :
  Calls Tryz.prog 128 #[.pointer (some ⟨v.C,0,none⟩),.agg #[.int .u8 c,.int .i64 a,L]] w (Rdz w 0 (.agg #[.string (ofV c).1.2.2.2.1,.string (ofV c).1.2.2.2.2.1])):=by
 have BW : Below w.heap.size w ((w.alloc (.cells #[.int .u8 c,.int .i64 a,L] 82)).alloc (.cells #[.string ⟨#[]⟩,.string ⟨#[]⟩] 114)):=((Below.refl _ _).alloc (Nat.le_refl _) _).alloc (by simp) _
 have x1 : ((w.alloc (.cells #[.int .u8 c,.int .i64 a,L] 82)).alloc (.cells #[.string ⟨#[]⟩,.string ⟨#[]⟩] 114)).cell? ⟨w.heap.size,1,none⟩ = some (.int .i64 a):=by simp [go_sem]
 have x0 : ((w.alloc (.cells #[.int .u8 c,.int .i64 a,L] 82)).alloc (.cells #[.string ⟨#[]⟩,.string ⟨#[]⟩] 114)).cell? ⟨w.heap.size,0,none⟩ = some (.int .u8 c):=by simp [go_sem]
 have y0 : ((w.alloc (.cells #[.int .u8 c,.int .i64 a,L] 82)).alloc (.cells #[.string ⟨#[]⟩,.string ⟨#[]⟩] 114)).cell? ⟨w.heap.size + 1,0,none⟩ = some (.string ⟨#[]⟩):=by simp [go_sem]
 have y1 : ((w.alloc (.cells #[.int .u8 c,.int .i64 a,L] 82)).alloc (.cells #[.string ⟨#[]⟩,.string ⟨#[]⟩] 114)).cell? ⟨w.heap.size + 1,1,none⟩ = some (.string ⟨#[]⟩):=by simp [go_sem]
 have z0 : ((w.alloc (.cells #[.int .u8 c,.int .i64 a,L] 82)).alloc (.cells #[.string ⟨#[]⟩,.string ⟨#[]⟩] 114)).frozen? ⟨w.heap.size + 1,0,none⟩ = false:=by simp [go_sem]
 have z1 : ((w.alloc (.cells #[.int .u8 c,.int .i64 a,L] 82)).alloc (.cells #[.string ⟨#[]⟩,.string ⟨#[]⟩] 114)).frozen? ⟨w.heap.size + 1,1,none⟩ = false:=by simp [go_sem]
 have hk:=(hM.kinds.kept h.kept (fun h => by have:=hM.kS 0 h; omega)).later BW (block_lt_of_cell (hM.kinds.kept h.kept (fun h => by have:=hM.kS 0 h; omega) 0 _ rfl))
 have HO:=hid (of6 c _ hk h0 h1)
 have HB:=hid BW
 obtain ⟨p11,p12,p16,p17,p18,p19,p20,p21,p22⟩:=hc
 generalize (ofV c).1 = V at *
 generalize (ofV c).2 = b at *
 obtain ⟨r1,r2,r3,r4,r5,r6⟩:=V
 unfold rv rowV at HO
 dsimp only at HO
 clear h BW hk hM hA
 go_enter Tryz.func128,Tryz.ntmps128
 go_wp2_with fail
 generalize (w.alloc (.cells #[.int .u8 c,.int .i64 a,L] 82)).alloc (.cells #[.string ⟨#[]⟩,.string ⟨#[]⟩] 114) = W0 at *
 refine HO.out.mono ?_
 rintro e w2 ⟨rfl,hb⟩
 have k0:=later_cell hb y0
 have k1:=later_cell hb y1
 have j0:=later_free hb y0 z0
 have j1:=later_free hb y1 z1
 have HB2:=hid (HB.out.trans (hb.mono HB.out.size))
 clear hb
 have BN:=below_new w2 (.cells #[.int .u8 r1,.string r2,.int .i8 r3,.string r4,.string r5,.bool r6] 214)
 have m0:=later_cell BN k0
 have m1:=later_cell BN k1
 have n0:=later_free BN k0 j0
 have n1:=later_free BN k1 j1
 have HB3:=hid (HB2.out.trans (BN.mono HB2.out.size))
 clear BN k0 k1 j0 j1
 go_wp2_with fail
 refine bodyPost_ret (v:=.agg #[.string r4,.string r5]) ?_ rfl (.inl ⟨rfl,rfl,below_put2 HB3.out (by omega) HB3.out.size⟩)
 rw [results_cell1 rfl]
 go_simp
end
end Go.Proofs.YtepcmfegggdjfaaGreatDoor
