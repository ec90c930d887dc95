/-
  Texts Fr.
-/
import Derived.Test.YtmgjhfookhaajaaGreatDoorQ00
import Derived.Test.YtmgjhfookhaajaaGreatDoorQ39
set_option linter.unusedVariables false
set_option maxRecDepth 100000
set_option maxHeartbeats 16000000
namespace Go.Proofs.YtmgjhfookhaajaaGreatDoor
open Go.RowKit
abbrev fnv (k : Nat) (cs : Array Value) : Value:=.func (.func k) #[] cs
def nine (MB TX SX P7 P8 P9 KX : Nat) : List Value:=[fnv 44 #[pt P7,pt P8,pt P9],fnv 45 #[pt P7,pt SX],fnv 46 #[pt SX,pt P8],fnv 47 #[pt P9,pt SX],fnv 49 #[pt SX],fnv 50 #[pt SX],fnv 51 #[pt MB,pt SX],fnv 53 #[pt SX,pt MB],fnv 55 #[pt MB,pt TX,pt SX,pt KX]]
structure AK (w : World) (TB FB TT FA PA MB TX SX P7 P8 P9 : Nat) : Prop where
 m : w.heap[MB]? = some (.cells (kV TB FB) 36)
 x : w.heap[TX]? = some (.cells #[.slice (some ⟨TT,0,none⟩) 1 1] 80)
 s : w.heap[SX]? = some (.cells (bV FA PA) 27)
 p7 : w.heap[P7]? = some (.cells #[.bool true] 4)
 p8 : w.heap[P8]? = some (.cells #[.bool false] 4)
 p9 : w.heap[P9]? = some (.cells #[.bool false] 4)
theorem AK.later {w w' : World} {TB FB TT FA PA MB TX SX P7 P8 P9 : Nat} (h : AK w TB FB TT FA PA MB TX SX P7 P8 P9) (hb : Below w.heap.size w w') : AK w' TB FB TT FA PA MB TX SX P7 P8 P9:=⟨nb_later hb h.m,nb_later hb h.x,nb_later hb h.s,nb_later hb h.p7,nb_later hb h.p8,nb_later hb h.p9⟩
theorem blk_kept {S : Nat → Prop} {w w' : World} {b : Nat} {a : Array Value} {t : TypeId} (h : w.heap[b]? = some (.cells a t)) (hk : Kept S w w') (hS : ∀ b,S b → ∃ cur,w.heap[b]? = some (.cells cur 37)) (ht : t ≠ 37) : w'.heap[b]? = some (.cells a t) :=
 (hk.block b (nb_lt h) (fun hs => by
  obtain ⟨cur,hc⟩:=hS b hs
  rw [h] at hc
  simp at hc
  exact ht hc.2)).trans h
theorem Tryz.infQ : (Tryz.prog.info? 37).map (fun i => (i.zero,i.size,i.bytes)) = some (some .nilFunc,1,8):=by kernel_rfl
theorem ask37 (TB FB TT FA PA : Nat) (w : World) :
  Calls Tryz.prog 37 #[.agg (kV TB FB),.slice (some ⟨TT,0,none⟩) 1 1,.agg (bV FA PA)] w fun e w' => ∃ MB TX SX P7 P8 P9 KX LB cap,e = .returned (.slice (some ⟨LB,0,none⟩) 9 cap) ∧ AK w' TB FB TT FA PA MB TX SX P7 P8 P9 ∧ w'.cell? ⟨KX,0,none⟩ = some (.int .i64 0) ∧ w'.ownsRow 0 37 1 (.slice (some ⟨LB,0,none⟩) 9 cap) 9 (nine MB TX SX P7 P8 P9 KX) ∧ Below w.heap.size w w':=by
 have B0:=below_new w (.cells (kV TB FB) 36)
 have B1:=below_new (w.alloc (.cells (kV TB FB) 36)) (.cells #[.slice (some ⟨TT,0,none⟩) 1 1] 80)
 have B2:=below_new ((w.alloc (.cells (kV TB FB) 36)).alloc (.cells #[.slice (some ⟨TT,0,none⟩) 1 1] 80)) (.cells (bV FA PA) 27)
 have km:=nb_later B2 (nb_later B1 (nb_new w (.cells (kV TB FB) 36)))
 have kx : (((w.alloc (.cells (kV TB FB) 36)).alloc (.cells #[.slice (some ⟨TT,0,none⟩) 1 1] 80)).alloc (.cells (bV FA PA) 27)).heap[w.heap.size + 1]? = some (.cells #[.slice (some ⟨TT,0,none⟩) 1 1] 80):=nb_later B2 (nb_at (by simp))
 have ks : (((w.alloc (.cells (kV TB FB) 36)).alloc (.cells #[.slice (some ⟨TT,0,none⟩) 1 1] 80)).alloc (.cells (bV FA PA) 27)).heap[w.heap.size + 1 + 1]? = some (.cells (bV FA PA) 27):=nb_at (by simp)
 have HB0:=hid (B0.trans ((B1.trans (B2.mono B1.size)).mono B0.size))
 have g4 : (((w.alloc (.cells (kV TB FB) 36)).alloc (.cells #[.slice (some ⟨TT,0,none⟩) 1 1] 80)).alloc (.cells (bV FA PA) 27)).drew.cell? ⟨w.heap.size + 1 + 1,4,none⟩ = some (.int .i8 1):=cell_at ks
 have hG:=nb_lt ks
 have HK:=hid (And.intro km (And.intro kx ks))
 clear B0 B1 B2 km kx ks
 obtain ⟨i0,hi,hz0,hz1,hz2⟩:=info_parts Tryz.infQ
 go_enter Tryz.func37,Tryz.ntmps37
 go_wp2_with fail
 generalize (((w.alloc (.cells (kV TB FB) 36)).alloc (.cells #[.slice (some ⟨TT,0,none⟩) 1 1] 80)).alloc (.cells (bV FA PA) 27)) = W0 at *
 go_cut [7,8,9] from 12 to 20 (fun a b c W => ∃ P7 P8 P9,a = pt P7 ∧ b = pt P8 ∧ c = pt P9 ∧ W.heap[P7]? = some (.cells #[.bool true] 4) ∧ W.heap[P8]? = some (.cells #[.bool false] 4) ∧ W.heap[P9]? = some (.cells #[.bool false] 4) ∧ Hid (Below W0.heap.size W0 W))
 case first =>
  have HBD:=hid (show Below W0.heap.size W0 W0.drew from below_drewN W0 1)
  have hG' : w.heap.size + 1 + 1 < W0.drew.heap.size:=hG
  refine wp_region_held_drew (S:=fun W => W.cell? ⟨w.heap.size + 1 + 1,4,none⟩ = some (.int .i8 1)) (by kernel_rfl) g4 (fun hHeld => ?_)
  generalize W0.drew = V0 at *
  have hV0:=HBD.out.size
  refine tkFh (i:=0) rfl ?_
  try simp only [Act.put,sIB]
  refine tkFh (i:=1) rfl ?_
  try simp only [Act.put]
  refine tkFh (i:=2) rfl ?_
  try simp only [Act.put]
  refine tkFh (i:=3) rfl ?_
  try simp only [Act.put]
  refine tkFh (i:=4) rfl ?_
  try simp only [Act.put]
  refine tkFh (i:=5) rfl ?_
  try simp only [Act.put]
  refine tkFh (i:=6) rfl ?_
  try simp only [Act.put]
  refine tkFh (i:=7) rfl ?_
  try simp only [Act.put]
  refine tkFh (i:=8) rfl ?_
  try simp only [Act.put]
  refine rdFy (rs:=[9,10,11]) ?_
  refine rdFc (i:=9) rfl (fun K hK => ?_) (rdFc (i:=10) rfl (fun K hK => ?_) (rdFc (i:=11) rfl (fun K hK => ?_) AllReadyH.nil))
  ·go_simp
   have hn:=below_new V0 (.cells #[.bool false] 4)
   have k9 : (V0.alloc (.cells #[.bool false] 4)).heap[V0.heap.size]? = some (.cells #[.bool false] 4):=nb_new V0 _
   have hlt1 : V0.heap.size < (V0.alloc (.cells #[.bool false] 4)).heap.size:=by simp
   have hb1:=HBD.out.trans (hn.mono HBD.out.size)
   have s1:=later_cell hn hHeld
   refine hK.out _ _ s1 (fun _ => ?_)
   clear hK K hn
   try simp only [Act.put,sIB,sC0,sCs]
   generalize V0.alloc (.cells #[.bool false] 4) = V19 at *
   refine rdFy (rs:=[10,11]) ?_
   refine rdFc (i:=10) rfl (fun K hK => ?_) (rdFc (i:=11) rfl (fun K hK => ?_) AllReadyH.nil)
   ·go_simp
    have hn:=below_new V19 (.cells #[.bool false] 4)
    have k10 : (V19.alloc (.cells #[.bool false] 4)).heap[V19.heap.size]? = some (.cells #[.bool false] 4):=nb_new V19 _
    have hlt2 : V19.heap.size < (V19.alloc (.cells #[.bool false] 4)).heap.size:=by simp
    replace k9:=nb_later hn k9
    have hb2:=hb1.trans (hn.mono hb1.size)
    have s2:=later_cell hn s1
    refine hK.out _ _ s2 (fun _ => ?_)
    clear hK K hn
    try simp only [Act.put,sIB,sC0,sCs]
    generalize V19.alloc (.cells #[.bool false] 4) = V210 at *
    refine rdFy (rs:=[11]) ?_
    refine rdFc (i:=11) rfl (fun K hK => ?_) AllReadyH.nil
    go_simp
    have hn:=below_new V210 (.cells #[.bool false] 4)
    have k11 : (V210.alloc (.cells #[.bool false] 4)).heap[V210.heap.size]? = some (.cells #[.bool false] 4):=nb_new V210 _
    have hlt3 : V210.heap.size < (V210.alloc (.cells #[.bool false] 4)).heap.size:=by simp
    replace k9:=nb_later hn k9
    replace k10:=nb_later hn k10
    have hb3:=hb2.trans (hn.mono hb2.size)
    have s3:=later_cell hn s2
    refine hK.out _ _ s3 (fun _ => ?_)
    clear hK K hn
    try simp only [Act.put,sIB,sC0,sCs]
    generalize V210.alloc (.cells #[.bool false] 4) = V311 at *
    have l01 : V0.heap.size < V19.heap.size:=hlt1
    have l12 : V19.heap.size < V210.heap.size:=hlt2
    have c9 : V311.cell? ⟨V0.heap.size,0,none⟩ = some (.bool false):=cell_at k9
    have z9 : V311.frozen? ⟨V0.heap.size,0,none⟩ = false:=free_at k9
    refine rdFy (rs:=[12]) ?_
    refine rdFc (i:=12) rfl (fun K hK => ?_) AllReadyH.nil
    go_simp
    have kk9 : (V311.setCell ⟨V0.heap.size,0,none⟩ (.bool true)).heap[V0.heap.size]? = some (.cells #[.bool true] 4):=setBlk (i:=0) (u:=.bool true) k9
    have kk10:=nb_far (G:=V0.heap.size) (j:=0) (u:=.bool true) k10 (by omega)
    have kk11:=nb_far (G:=V0.heap.size) (j:=0) (u:=.bool true) k11 (by omega)
    have sb : (V311.setCell ⟨V0.heap.size,0,none⟩ (.bool true)).cell? ⟨w.heap.size + 1 + 1,4,none⟩ = some (.int .i8 1):=by
     rw [World.cell?_setCell_far _ _ _ _ (by simp; omega)]; assumption
    have bb9:=hb3.trans ((kept_set V311 V0.heap.size 0 (.bool true)).to_below hb3.size (fun k hk e => by have e : k = V0.heap.size:=e; omega))
    refine hK.out _ _ sb (fun _ => ?_)
    clear hK K c9 z9 k9 k10 k11
    have k9:=kk9
    have k10:=kk10
    have k11:=kk11
    clear kk9 kk10 kk11
    generalize V311.setCell ⟨V0.heap.size,0,none⟩ (.bool true) = X9 at *
    have c10 : X9.cell? ⟨V19.heap.size,0,none⟩ = some (.bool false):=cell_at k10
    have z10 : X9.frozen? ⟨V19.heap.size,0,none⟩ = false:=free_at k10
    refine rdFy (rs:=[13]) ?_
    refine rdFc (i:=13) rfl (fun K hK => ?_) AllReadyH.nil
    go_simp
    have kk10 : (X9.setCell ⟨V19.heap.size,0,none⟩ (.bool false)).heap[V19.heap.size]? = some (.cells #[.bool false] 4):=setBlk (i:=0) (u:=.bool false) k10
    have kk9:=nb_far (G:=V19.heap.size) (j:=0) (u:=.bool false) k9 (by omega)
    have kk11:=nb_far (G:=V19.heap.size) (j:=0) (u:=.bool false) k11 (by omega)
    have sb : (X9.setCell ⟨V19.heap.size,0,none⟩ (.bool false)).cell? ⟨w.heap.size + 1 + 1,4,none⟩ = some (.int .i8 1):=by
     rw [World.cell?_setCell_far _ _ _ _ (by simp; omega)]; assumption
    have bb10:=bb9.trans ((kept_set X9 V19.heap.size 0 (.bool false)).to_below bb9.size (fun k hk e => by have e : k = V19.heap.size:=e; omega))
    refine hK.out _ _ sb (fun _ => ?_)
    clear hK K c10 z10 k9 k10 k11
    have k9:=kk9
    have k10:=kk10
    have k11:=kk11
    clear kk9 kk10 kk11
    generalize X9.setCell ⟨V19.heap.size,0,none⟩ (.bool false) = X10 at *
    have c11 : X10.cell? ⟨V210.heap.size,0,none⟩ = some (.bool false):=cell_at k11
    have z11 : X10.frozen? ⟨V210.heap.size,0,none⟩ = false:=free_at k11
    refine rdFy (rs:=[14]) ?_
    refine rdFc (i:=14) rfl (fun K hK => ?_) AllReadyH.nil
    go_simp
    have kk11 : (X10.setCell ⟨V210.heap.size,0,none⟩ (.bool false)).heap[V210.heap.size]? = some (.cells #[.bool false] 4):=setBlk (i:=0) (u:=.bool false) k11
    have kk9:=nb_far (G:=V210.heap.size) (j:=0) (u:=.bool false) k9 (by omega)
    have kk10:=nb_far (G:=V210.heap.size) (j:=0) (u:=.bool false) k10 (by omega)
    have sb : (X10.setCell ⟨V210.heap.size,0,none⟩ (.bool false)).cell? ⟨w.heap.size + 1 + 1,4,none⟩ = some (.int .i8 1):=by
     rw [World.cell?_setCell_far _ _ _ _ (by simp; omega)]; assumption
    have bb11:=bb10.trans ((kept_set X10 V210.heap.size 0 (.bool false)).to_below bb10.size (fun k hk e => by have e : k = V210.heap.size:=e; omega))
    refine hK.out _ _ sb (fun _ => ?_)
    clear hK K c11 z11 k9 k10 k11
    have k9:=kk9
    have k10:=kk10
    have k11:=kk11
    clear kk9 kk10 kk11
    generalize X10.setCell ⟨V210.heap.size,0,none⟩ (.bool false) = X11 at *
    refine wpAnyH_done (by kernel_rfl) ?_ _
    go_wp2_with fail
    go_meet
    exact ⟨_,_,_,rfl,rfl,rfl,k9,k10,k11,hid bb11⟩
   ·go_simp
    have hn:=below_new V19 (.cells #[.bool false] 4)
    have k11 : (V19.alloc (.cells #[.bool false] 4)).heap[V19.heap.size]? = some (.cells #[.bool false] 4):=nb_new V19 _
    have hlt2 : V19.heap.size < (V19.alloc (.cells #[.bool false] 4)).heap.size:=by simp
    replace k9:=nb_later hn k9
    have hb2:=hb1.trans (hn.mono hb1.size)
    have s2:=later_cell hn s1
    refine hK.out _ _ s2 (fun _ => ?_)
    clear hK K hn
    try simp only [Act.put,sIB,sC0,sCs]
    generalize V19.alloc (.cells #[.bool false] 4) = V211 at *
    refine rdFy (rs:=[10]) ?_
    refine rdFc (i:=10) rfl (fun K hK => ?_) AllReadyH.nil
    go_simp
    have hn:=below_new V211 (.cells #[.bool false] 4)
    have k10 : (V211.alloc (.cells #[.bool false] 4)).heap[V211.heap.size]? = some (.cells #[.bool false] 4):=nb_new V211 _
    have hlt3 : V211.heap.size < (V211.alloc (.cells #[.bool false] 4)).heap.size:=by simp
    replace k9:=nb_later hn k9
    replace k11:=nb_later hn k11
    have hb3:=hb2.trans (hn.mono hb2.size)
    have s3:=later_cell hn s2
    refine hK.out _ _ s3 (fun _ => ?_)
    clear hK K hn
    try simp only [Act.put,sIB,sC0,sCs]
    generalize V211.alloc (.cells #[.bool false] 4) = V310 at *
    have l01 : V0.heap.size < V19.heap.size:=hlt1
    have l12 : V19.heap.size < V211.heap.size:=hlt2
    have c9 : V310.cell? ⟨V0.heap.size,0,none⟩ = some (.bool false):=cell_at k9
    have z9 : V310.frozen? ⟨V0.heap.size,0,none⟩ = false:=free_at k9
    refine rdFy (rs:=[12]) ?_
    refine rdFc (i:=12) rfl (fun K hK => ?_) AllReadyH.nil
    go_simp
    have kk9 : (V310.setCell ⟨V0.heap.size,0,none⟩ (.bool true)).heap[V0.heap.size]? = some (.cells #[.bool true] 4):=setBlk (i:=0) (u:=.bool true) k9
    have kk10:=nb_far (G:=V0.heap.size) (j:=0) (u:=.bool true) k10 (by omega)
    have kk11:=nb_far (G:=V0.heap.size) (j:=0) (u:=.bool true) k11 (by omega)
    have sb : (V310.setCell ⟨V0.heap.size,0,none⟩ (.bool true)).cell? ⟨w.heap.size + 1 + 1,4,none⟩ = some (.int .i8 1):=by
     rw [World.cell?_setCell_far _ _ _ _ (by simp; omega)]; assumption
    have bb9:=hb3.trans ((kept_set V310 V0.heap.size 0 (.bool true)).to_below hb3.size (fun k hk e => by have e : k = V0.heap.size:=e; omega))
    refine hK.out _ _ sb (fun _ => ?_)
    clear hK K c9 z9 k9 k10 k11
    have k9:=kk9
    have k10:=kk10
    have k11:=kk11
    clear kk9 kk10 kk11
    generalize V310.setCell ⟨V0.heap.size,0,none⟩ (.bool true) = X9 at *
    have c10 : X9.cell? ⟨V211.heap.size,0,none⟩ = some (.bool false):=cell_at k10
    have z10 : X9.frozen? ⟨V211.heap.size,0,none⟩ = false:=free_at k10
    refine rdFy (rs:=[13]) ?_
    refine rdFc (i:=13) rfl (fun K hK => ?_) AllReadyH.nil
    go_simp
    have kk10 : (X9.setCell ⟨V211.heap.size,0,none⟩ (.bool false)).heap[V211.heap.size]? = some (.cells #[.bool false] 4):=setBlk (i:=0) (u:=.bool false) k10
    have kk9:=nb_far (G:=V211.heap.size) (j:=0) (u:=.bool false) k9 (by omega)
    have kk11:=nb_far (G:=V211.heap.size) (j:=0) (u:=.bool false) k11 (by omega)
    have sb : (X9.setCell ⟨V211.heap.size,0,none⟩ (.bool false)).cell? ⟨w.heap.size + 1 + 1,4,none⟩ = some (.int .i8 1):=by
     rw [World.cell?_setCell_far _ _ _ _ (by simp; omega)]; assumption
    have bb10:=bb9.trans ((kept_set X9 V211.heap.size 0 (.bool false)).to_below bb9.size (fun k hk e => by have e : k = V211.heap.size:=e; omega))
    refine hK.out _ _ sb (fun _ => ?_)
    clear hK K c10 z10 k9 k10 k11
    have k9:=kk9
    have k10:=kk10
    have k11:=kk11
    clear kk9 kk10 kk11
    generalize X9.setCell ⟨V211.heap.size,0,none⟩ (.bool false) = X10 at *
    have c11 : X10.cell? ⟨V19.heap.size,0,none⟩ = some (.bool false):=cell_at k11
    have z11 : X10.frozen? ⟨V19.heap.size,0,none⟩ = false:=free_at k11
    refine rdFy (rs:=[14]) ?_
    refine rdFc (i:=14) rfl (fun K hK => ?_) AllReadyH.nil
    go_simp
    have kk11 : (X10.setCell ⟨V19.heap.size,0,none⟩ (.bool false)).heap[V19.heap.size]? = some (.cells #[.bool false] 4):=setBlk (i:=0) (u:=.bool false) k11
    have kk9:=nb_far (G:=V19.heap.size) (j:=0) (u:=.bool false) k9 (by omega)
    have kk10:=nb_far (G:=V19.heap.size) (j:=0) (u:=.bool false) k10 (by omega)
    have sb : (X10.setCell ⟨V19.heap.size,0,none⟩ (.bool false)).cell? ⟨w.heap.size + 1 + 1,4,none⟩ = some (.int .i8 1):=by
     rw [World.cell?_setCell_far _ _ _ _ (by simp; omega)]; assumption
    have bb11:=bb10.trans ((kept_set X10 V19.heap.size 0 (.bool false)).to_below bb10.size (fun k hk e => by have e : k = V19.heap.size:=e; omega))
    refine hK.out _ _ sb (fun _ => ?_)
    clear hK K c11 z11 k9 k10 k11
    have k9:=kk9
    have k10:=kk10
    have k11:=kk11
    clear kk9 kk10 kk11
    generalize X10.setCell ⟨V19.heap.size,0,none⟩ (.bool false) = X11 at *
    refine wpAnyH_done (by kernel_rfl) ?_ _
    go_wp2_with fail
    go_meet
    exact ⟨_,_,_,rfl,rfl,rfl,k9,k10,k11,hid bb11⟩
  ·go_simp
   have hn:=below_new V0 (.cells #[.bool false] 4)
   have k10 : (V0.alloc (.cells #[.bool false] 4)).heap[V0.heap.size]? = some (.cells #[.bool false] 4):=nb_new V0 _
   have hlt1 : V0.heap.size < (V0.alloc (.cells #[.bool false] 4)).heap.size:=by simp
   have hb1:=HBD.out.trans (hn.mono HBD.out.size)
   have s1:=later_cell hn hHeld
   refine hK.out _ _ s1 (fun _ => ?_)
   clear hK K hn
   try simp only [Act.put,sIB,sC0,sCs]
   generalize V0.alloc (.cells #[.bool false] 4) = V110 at *
   refine rdFy (rs:=[9,11]) ?_
   refine rdFc (i:=9) rfl (fun K hK => ?_) (rdFc (i:=11) rfl (fun K hK => ?_) AllReadyH.nil)
   ·go_simp
    have hn:=below_new V110 (.cells #[.bool false] 4)
    have k9 : (V110.alloc (.cells #[.bool false] 4)).heap[V110.heap.size]? = some (.cells #[.bool false] 4):=nb_new V110 _
    have hlt2 : V110.heap.size < (V110.alloc (.cells #[.bool false] 4)).heap.size:=by simp
    replace k10:=nb_later hn k10
    have hb2:=hb1.trans (hn.mono hb1.size)
    have s2:=later_cell hn s1
    refine hK.out _ _ s2 (fun _ => ?_)
    clear hK K hn
    try simp only [Act.put,sIB,sC0,sCs]
    generalize V110.alloc (.cells #[.bool false] 4) = V29 at *
    refine rdFy (rs:=[11]) ?_
    refine rdFc (i:=11) rfl (fun K hK => ?_) AllReadyH.nil
    go_simp
    have hn:=below_new V29 (.cells #[.bool false] 4)
    have k11 : (V29.alloc (.cells #[.bool false] 4)).heap[V29.heap.size]? = some (.cells #[.bool false] 4):=nb_new V29 _
    have hlt3 : V29.heap.size < (V29.alloc (.cells #[.bool false] 4)).heap.size:=by simp
    replace k10:=nb_later hn k10
    replace k9:=nb_later hn k9
    have hb3:=hb2.trans (hn.mono hb2.size)
    have s3:=later_cell hn s2
    refine hK.out _ _ s3 (fun _ => ?_)
    clear hK K hn
    try simp only [Act.put,sIB,sC0,sCs]
    generalize V29.alloc (.cells #[.bool false] 4) = V311 at *
    have l01 : V0.heap.size < V110.heap.size:=hlt1
    have l12 : V110.heap.size < V29.heap.size:=hlt2
    have c9 : V311.cell? ⟨V110.heap.size,0,none⟩ = some (.bool false):=cell_at k9
    have z9 : V311.frozen? ⟨V110.heap.size,0,none⟩ = false:=free_at k9
    refine rdFy (rs:=[12]) ?_
    refine rdFc (i:=12) rfl (fun K hK => ?_) AllReadyH.nil
    go_simp
    have kk9 : (V311.setCell ⟨V110.heap.size,0,none⟩ (.bool true)).heap[V110.heap.size]? = some (.cells #[.bool true] 4):=setBlk (i:=0) (u:=.bool true) k9
    have kk10:=nb_far (G:=V110.heap.size) (j:=0) (u:=.bool true) k10 (by omega)
    have kk11:=nb_far (G:=V110.heap.size) (j:=0) (u:=.bool true) k11 (by omega)
    have sb : (V311.setCell ⟨V110.heap.size,0,none⟩ (.bool true)).cell? ⟨w.heap.size + 1 + 1,4,none⟩ = some (.int .i8 1):=by
     rw [World.cell?_setCell_far _ _ _ _ (by simp; omega)]; assumption
    have bb9:=hb3.trans ((kept_set V311 V110.heap.size 0 (.bool true)).to_below hb3.size (fun k hk e => by have e : k = V110.heap.size:=e; omega))
    refine hK.out _ _ sb (fun _ => ?_)
    clear hK K c9 z9 k9 k10 k11
    have k9:=kk9
    have k10:=kk10
    have k11:=kk11
    clear kk9 kk10 kk11
    generalize V311.setCell ⟨V110.heap.size,0,none⟩ (.bool true) = X9 at *
    have c10 : X9.cell? ⟨V0.heap.size,0,none⟩ = some (.bool false):=cell_at k10
    have z10 : X9.frozen? ⟨V0.heap.size,0,none⟩ = false:=free_at k10
    refine rdFy (rs:=[13]) ?_
    refine rdFc (i:=13) rfl (fun K hK => ?_) AllReadyH.nil
    go_simp
    have kk10 : (X9.setCell ⟨V0.heap.size,0,none⟩ (.bool false)).heap[V0.heap.size]? = some (.cells #[.bool false] 4):=setBlk (i:=0) (u:=.bool false) k10
    have kk9:=nb_far (G:=V0.heap.size) (j:=0) (u:=.bool false) k9 (by omega)
    have kk11:=nb_far (G:=V0.heap.size) (j:=0) (u:=.bool false) k11 (by omega)
    have sb : (X9.setCell ⟨V0.heap.size,0,none⟩ (.bool false)).cell? ⟨w.heap.size + 1 + 1,4,none⟩ = some (.int .i8 1):=by
     rw [World.cell?_setCell_far _ _ _ _ (by simp; omega)]; assumption
    have bb10:=bb9.trans ((kept_set X9 V0.heap.size 0 (.bool false)).to_below bb9.size (fun k hk e => by have e : k = V0.heap.size:=e; omega))
    refine hK.out _ _ sb (fun _ => ?_)
    clear hK K c10 z10 k9 k10 k11
    have k9:=kk9
    have k10:=kk10
    have k11:=kk11
    clear kk9 kk10 kk11
    generalize X9.setCell ⟨V0.heap.size,0,none⟩ (.bool false) = X10 at *
    have c11 : X10.cell? ⟨V29.heap.size,0,none⟩ = some (.bool false):=cell_at k11
    have z11 : X10.frozen? ⟨V29.heap.size,0,none⟩ = false:=free_at k11
    refine rdFy (rs:=[14]) ?_
    refine rdFc (i:=14) rfl (fun K hK => ?_) AllReadyH.nil
    go_simp
    have kk11 : (X10.setCell ⟨V29.heap.size,0,none⟩ (.bool false)).heap[V29.heap.size]? = some (.cells #[.bool false] 4):=setBlk (i:=0) (u:=.bool false) k11
    have kk9:=nb_far (G:=V29.heap.size) (j:=0) (u:=.bool false) k9 (by omega)
    have kk10:=nb_far (G:=V29.heap.size) (j:=0) (u:=.bool false) k10 (by omega)
    have sb : (X10.setCell ⟨V29.heap.size,0,none⟩ (.bool false)).cell? ⟨w.heap.size + 1 + 1,4,none⟩ = some (.int .i8 1):=by
     rw [World.cell?_setCell_far _ _ _ _ (by simp; omega)]; assumption
    have bb11:=bb10.trans ((kept_set X10 V29.heap.size 0 (.bool false)).to_below bb10.size (fun k hk e => by have e : k = V29.heap.size:=e; omega))
    refine hK.out _ _ sb (fun _ => ?_)
    clear hK K c11 z11 k9 k10 k11
    have k9:=kk9
    have k10:=kk10
    have k11:=kk11
    clear kk9 kk10 kk11
    generalize X10.setCell ⟨V29.heap.size,0,none⟩ (.bool false) = X11 at *
    refine wpAnyH_done (by kernel_rfl) ?_ _
    go_wp2_with fail
    go_meet
    exact ⟨_,_,_,rfl,rfl,rfl,k9,k10,k11,hid bb11⟩
   ·go_simp
    have hn:=below_new V110 (.cells #[.bool false] 4)
    have k11 : (V110.alloc (.cells #[.bool false] 4)).heap[V110.heap.size]? = some (.cells #[.bool false] 4):=nb_new V110 _
    have hlt2 : V110.heap.size < (V110.alloc (.cells #[.bool false] 4)).heap.size:=by simp
    replace k10:=nb_later hn k10
    have hb2:=hb1.trans (hn.mono hb1.size)
    have s2:=later_cell hn s1
    refine hK.out _ _ s2 (fun _ => ?_)
    clear hK K hn
    try simp only [Act.put,sIB,sC0,sCs]
    generalize V110.alloc (.cells #[.bool false] 4) = V211 at *
    refine rdFy (rs:=[9]) ?_
    refine rdFc (i:=9) rfl (fun K hK => ?_) AllReadyH.nil
    go_simp
    have hn:=below_new V211 (.cells #[.bool false] 4)
    have k9 : (V211.alloc (.cells #[.bool false] 4)).heap[V211.heap.size]? = some (.cells #[.bool false] 4):=nb_new V211 _
    have hlt3 : V211.heap.size < (V211.alloc (.cells #[.bool false] 4)).heap.size:=by simp
    replace k10:=nb_later hn k10
    replace k11:=nb_later hn k11
    have hb3:=hb2.trans (hn.mono hb2.size)
    have s3:=later_cell hn s2
    refine hK.out _ _ s3 (fun _ => ?_)
    clear hK K hn
    try simp only [Act.put,sIB,sC0,sCs]
    generalize V211.alloc (.cells #[.bool false] 4) = V39 at *
    have l01 : V0.heap.size < V110.heap.size:=hlt1
    have l12 : V110.heap.size < V211.heap.size:=hlt2
    have c9 : V39.cell? ⟨V211.heap.size,0,none⟩ = some (.bool false):=cell_at k9
    have z9 : V39.frozen? ⟨V211.heap.size,0,none⟩ = false:=free_at k9
    refine rdFy (rs:=[12]) ?_
    refine rdFc (i:=12) rfl (fun K hK => ?_) AllReadyH.nil
    go_simp
    have kk9 : (V39.setCell ⟨V211.heap.size,0,none⟩ (.bool true)).heap[V211.heap.size]? = some (.cells #[.bool true] 4):=setBlk (i:=0) (u:=.bool true) k9
    have kk10:=nb_far (G:=V211.heap.size) (j:=0) (u:=.bool true) k10 (by omega)
    have kk11:=nb_far (G:=V211.heap.size) (j:=0) (u:=.bool true) k11 (by omega)
    have sb : (V39.setCell ⟨V211.heap.size,0,none⟩ (.bool true)).cell? ⟨w.heap.size + 1 + 1,4,none⟩ = some (.int .i8 1):=by
     rw [World.cell?_setCell_far _ _ _ _ (by simp; omega)]; assumption
    have bb9:=hb3.trans ((kept_set V39 V211.heap.size 0 (.bool true)).to_below hb3.size (fun k hk e => by have e : k = V211.heap.size:=e; omega))
    refine hK.out _ _ sb (fun _ => ?_)
    clear hK K c9 z9 k9 k10 k11
    have k9:=kk9
    have k10:=kk10
    have k11:=kk11
    clear kk9 kk10 kk11
    generalize V39.setCell ⟨V211.heap.size,0,none⟩ (.bool true) = X9 at *
    have c10 : X9.cell? ⟨V0.heap.size,0,none⟩ = some (.bool false):=cell_at k10
    have z10 : X9.frozen? ⟨V0.heap.size,0,none⟩ = false:=free_at k10
    refine rdFy (rs:=[13]) ?_
    refine rdFc (i:=13) rfl (fun K hK => ?_) AllReadyH.nil
    go_simp
    have kk10 : (X9.setCell ⟨V0.heap.size,0,none⟩ (.bool false)).heap[V0.heap.size]? = some (.cells #[.bool false] 4):=setBlk (i:=0) (u:=.bool false) k10
    have kk9:=nb_far (G:=V0.heap.size) (j:=0) (u:=.bool false) k9 (by omega)
    have kk11:=nb_far (G:=V0.heap.size) (j:=0) (u:=.bool false) k11 (by omega)
    have sb : (X9.setCell ⟨V0.heap.size,0,none⟩ (.bool false)).cell? ⟨w.heap.size + 1 + 1,4,none⟩ = some (.int .i8 1):=by
     rw [World.cell?_setCell_far _ _ _ _ (by simp; omega)]; assumption
    have bb10:=bb9.trans ((kept_set X9 V0.heap.size 0 (.bool false)).to_below bb9.size (fun k hk e => by have e : k = V0.heap.size:=e; omega))
    refine hK.out _ _ sb (fun _ => ?_)
    clear hK K c10 z10 k9 k10 k11
    have k9:=kk9
    have k10:=kk10
    have k11:=kk11
    clear kk9 kk10 kk11
    generalize X9.setCell ⟨V0.heap.size,0,none⟩ (.bool false) = X10 at *
    have c11 : X10.cell? ⟨V110.heap.size,0,none⟩ = some (.bool false):=cell_at k11
    have z11 : X10.frozen? ⟨V110.heap.size,0,none⟩ = false:=free_at k11
    refine rdFy (rs:=[14]) ?_
    refine rdFc (i:=14) rfl (fun K hK => ?_) AllReadyH.nil
    go_simp
    have kk11 : (X10.setCell ⟨V110.heap.size,0,none⟩ (.bool false)).heap[V110.heap.size]? = some (.cells #[.bool false] 4):=setBlk (i:=0) (u:=.bool false) k11
    have kk9:=nb_far (G:=V110.heap.size) (j:=0) (u:=.bool false) k9 (by omega)
    have kk10:=nb_far (G:=V110.heap.size) (j:=0) (u:=.bool false) k10 (by omega)
    have sb : (X10.setCell ⟨V110.heap.size,0,none⟩ (.bool false)).cell? ⟨w.heap.size + 1 + 1,4,none⟩ = some (.int .i8 1):=by
     rw [World.cell?_setCell_far _ _ _ _ (by simp; omega)]; assumption
    have bb11:=bb10.trans ((kept_set X10 V110.heap.size 0 (.bool false)).to_below bb10.size (fun k hk e => by have e : k = V110.heap.size:=e; omega))
    refine hK.out _ _ sb (fun _ => ?_)
    clear hK K c11 z11 k9 k10 k11
    have k9:=kk9
    have k10:=kk10
    have k11:=kk11
    clear kk9 kk10 kk11
    generalize X10.setCell ⟨V110.heap.size,0,none⟩ (.bool false) = X11 at *
    refine wpAnyH_done (by kernel_rfl) ?_ _
    go_wp2_with fail
    go_meet
    exact ⟨_,_,_,rfl,rfl,rfl,k9,k10,k11,hid bb11⟩
  ·go_simp
   have hn:=below_new V0 (.cells #[.bool false] 4)
   have k11 : (V0.alloc (.cells #[.bool false] 4)).heap[V0.heap.size]? = some (.cells #[.bool false] 4):=nb_new V0 _
   have hlt1 : V0.heap.size < (V0.alloc (.cells #[.bool false] 4)).heap.size:=by simp
   have hb1:=HBD.out.trans (hn.mono HBD.out.size)
   have s1:=later_cell hn hHeld
   refine hK.out _ _ s1 (fun _ => ?_)
   clear hK K hn
   try simp only [Act.put,sIB,sC0,sCs]
   generalize V0.alloc (.cells #[.bool false] 4) = V111 at *
   refine rdFy (rs:=[9,10]) ?_
   refine rdFc (i:=9) rfl (fun K hK => ?_) (rdFc (i:=10) rfl (fun K hK => ?_) AllReadyH.nil)
   ·go_simp
    have hn:=below_new V111 (.cells #[.bool false] 4)
    have k9 : (V111.alloc (.cells #[.bool false] 4)).heap[V111.heap.size]? = some (.cells #[.bool false] 4):=nb_new V111 _
    have hlt2 : V111.heap.size < (V111.alloc (.cells #[.bool false] 4)).heap.size:=by simp
    replace k11:=nb_later hn k11
    have hb2:=hb1.trans (hn.mono hb1.size)
    have s2:=later_cell hn s1
    refine hK.out _ _ s2 (fun _ => ?_)
    clear hK K hn
    try simp only [Act.put,sIB,sC0,sCs]
    generalize V111.alloc (.cells #[.bool false] 4) = V29 at *
    refine rdFy (rs:=[10]) ?_
    refine rdFc (i:=10) rfl (fun K hK => ?_) AllReadyH.nil
    go_simp
    have hn:=below_new V29 (.cells #[.bool false] 4)
    have k10 : (V29.alloc (.cells #[.bool false] 4)).heap[V29.heap.size]? = some (.cells #[.bool false] 4):=nb_new V29 _
    have hlt3 : V29.heap.size < (V29.alloc (.cells #[.bool false] 4)).heap.size:=by simp
    replace k11:=nb_later hn k11
    replace k9:=nb_later hn k9
    have hb3:=hb2.trans (hn.mono hb2.size)
    have s3:=later_cell hn s2
    refine hK.out _ _ s3 (fun _ => ?_)
    clear hK K hn
    try simp only [Act.put,sIB,sC0,sCs]
    generalize V29.alloc (.cells #[.bool false] 4) = V310 at *
    have l01 : V0.heap.size < V111.heap.size:=hlt1
    have l12 : V111.heap.size < V29.heap.size:=hlt2
    have c9 : V310.cell? ⟨V111.heap.size,0,none⟩ = some (.bool false):=cell_at k9
    have z9 : V310.frozen? ⟨V111.heap.size,0,none⟩ = false:=free_at k9
    refine rdFy (rs:=[12]) ?_
    refine rdFc (i:=12) rfl (fun K hK => ?_) AllReadyH.nil
    go_simp
    have kk9 : (V310.setCell ⟨V111.heap.size,0,none⟩ (.bool true)).heap[V111.heap.size]? = some (.cells #[.bool true] 4):=setBlk (i:=0) (u:=.bool true) k9
    have kk10:=nb_far (G:=V111.heap.size) (j:=0) (u:=.bool true) k10 (by omega)
    have kk11:=nb_far (G:=V111.heap.size) (j:=0) (u:=.bool true) k11 (by omega)
    have sb : (V310.setCell ⟨V111.heap.size,0,none⟩ (.bool true)).cell? ⟨w.heap.size + 1 + 1,4,none⟩ = some (.int .i8 1):=by
     rw [World.cell?_setCell_far _ _ _ _ (by simp; omega)]; assumption
    have bb9:=hb3.trans ((kept_set V310 V111.heap.size 0 (.bool true)).to_below hb3.size (fun k hk e => by have e : k = V111.heap.size:=e; omega))
    refine hK.out _ _ sb (fun _ => ?_)
    clear hK K c9 z9 k9 k10 k11
    have k9:=kk9
    have k10:=kk10
    have k11:=kk11
    clear kk9 kk10 kk11
    generalize V310.setCell ⟨V111.heap.size,0,none⟩ (.bool true) = X9 at *
    have c10 : X9.cell? ⟨V29.heap.size,0,none⟩ = some (.bool false):=cell_at k10
    have z10 : X9.frozen? ⟨V29.heap.size,0,none⟩ = false:=free_at k10
    refine rdFy (rs:=[13]) ?_
    refine rdFc (i:=13) rfl (fun K hK => ?_) AllReadyH.nil
    go_simp
    have kk10 : (X9.setCell ⟨V29.heap.size,0,none⟩ (.bool false)).heap[V29.heap.size]? = some (.cells #[.bool false] 4):=setBlk (i:=0) (u:=.bool false) k10
    have kk9:=nb_far (G:=V29.heap.size) (j:=0) (u:=.bool false) k9 (by omega)
    have kk11:=nb_far (G:=V29.heap.size) (j:=0) (u:=.bool false) k11 (by omega)
    have sb : (X9.setCell ⟨V29.heap.size,0,none⟩ (.bool false)).cell? ⟨w.heap.size + 1 + 1,4,none⟩ = some (.int .i8 1):=by
     rw [World.cell?_setCell_far _ _ _ _ (by simp; omega)]; assumption
    have bb10:=bb9.trans ((kept_set X9 V29.heap.size 0 (.bool false)).to_below bb9.size (fun k hk e => by have e : k = V29.heap.size:=e; omega))
    refine hK.out _ _ sb (fun _ => ?_)
    clear hK K c10 z10 k9 k10 k11
    have k9:=kk9
    have k10:=kk10
    have k11:=kk11
    clear kk9 kk10 kk11
    generalize X9.setCell ⟨V29.heap.size,0,none⟩ (.bool false) = X10 at *
    have c11 : X10.cell? ⟨V0.heap.size,0,none⟩ = some (.bool false):=cell_at k11
    have z11 : X10.frozen? ⟨V0.heap.size,0,none⟩ = false:=free_at k11
    refine rdFy (rs:=[14]) ?_
    refine rdFc (i:=14) rfl (fun K hK => ?_) AllReadyH.nil
    go_simp
    have kk11 : (X10.setCell ⟨V0.heap.size,0,none⟩ (.bool false)).heap[V0.heap.size]? = some (.cells #[.bool false] 4):=setBlk (i:=0) (u:=.bool false) k11
    have kk9:=nb_far (G:=V0.heap.size) (j:=0) (u:=.bool false) k9 (by omega)
    have kk10:=nb_far (G:=V0.heap.size) (j:=0) (u:=.bool false) k10 (by omega)
    have sb : (X10.setCell ⟨V0.heap.size,0,none⟩ (.bool false)).cell? ⟨w.heap.size + 1 + 1,4,none⟩ = some (.int .i8 1):=by
     rw [World.cell?_setCell_far _ _ _ _ (by simp; omega)]; assumption
    have bb11:=bb10.trans ((kept_set X10 V0.heap.size 0 (.bool false)).to_below bb10.size (fun k hk e => by have e : k = V0.heap.size:=e; omega))
    refine hK.out _ _ sb (fun _ => ?_)
    clear hK K c11 z11 k9 k10 k11
    have k9:=kk9
    have k10:=kk10
    have k11:=kk11
    clear kk9 kk10 kk11
    generalize X10.setCell ⟨V0.heap.size,0,none⟩ (.bool false) = X11 at *
    refine wpAnyH_done (by kernel_rfl) ?_ _
    go_wp2_with fail
    go_meet
    exact ⟨_,_,_,rfl,rfl,rfl,k9,k10,k11,hid bb11⟩
   ·go_simp
    have hn:=below_new V111 (.cells #[.bool false] 4)
    have k10 : (V111.alloc (.cells #[.bool false] 4)).heap[V111.heap.size]? = some (.cells #[.bool false] 4):=nb_new V111 _
    have hlt2 : V111.heap.size < (V111.alloc (.cells #[.bool false] 4)).heap.size:=by simp
    replace k11:=nb_later hn k11
    have hb2:=hb1.trans (hn.mono hb1.size)
    have s2:=later_cell hn s1
    refine hK.out _ _ s2 (fun _ => ?_)
    clear hK K hn
    try simp only [Act.put,sIB,sC0,sCs]
    generalize V111.alloc (.cells #[.bool false] 4) = V210 at *
    refine rdFy (rs:=[9]) ?_
    refine rdFc (i:=9) rfl (fun K hK => ?_) AllReadyH.nil
    go_simp
    have hn:=below_new V210 (.cells #[.bool false] 4)
    have k9 : (V210.alloc (.cells #[.bool false] 4)).heap[V210.heap.size]? = some (.cells #[.bool false] 4):=nb_new V210 _
    have hlt3 : V210.heap.size < (V210.alloc (.cells #[.bool false] 4)).heap.size:=by simp
    replace k11:=nb_later hn k11
    replace k10:=nb_later hn k10
    have hb3:=hb2.trans (hn.mono hb2.size)
    have s3:=later_cell hn s2
    refine hK.out _ _ s3 (fun _ => ?_)
    clear hK K hn
    try simp only [Act.put,sIB,sC0,sCs]
    generalize V210.alloc (.cells #[.bool false] 4) = V39 at *
    have l01 : V0.heap.size < V111.heap.size:=hlt1
    have l12 : V111.heap.size < V210.heap.size:=hlt2
    have c9 : V39.cell? ⟨V210.heap.size,0,none⟩ = some (.bool false):=cell_at k9
    have z9 : V39.frozen? ⟨V210.heap.size,0,none⟩ = false:=free_at k9
    refine rdFy (rs:=[12]) ?_
    refine rdFc (i:=12) rfl (fun K hK => ?_) AllReadyH.nil
    go_simp
    have kk9 : (V39.setCell ⟨V210.heap.size,0,none⟩ (.bool true)).heap[V210.heap.size]? = some (.cells #[.bool true] 4):=setBlk (i:=0) (u:=.bool true) k9
    have kk10:=nb_far (G:=V210.heap.size) (j:=0) (u:=.bool true) k10 (by omega)
    have kk11:=nb_far (G:=V210.heap.size) (j:=0) (u:=.bool true) k11 (by omega)
    have sb : (V39.setCell ⟨V210.heap.size,0,none⟩ (.bool true)).cell? ⟨w.heap.size + 1 + 1,4,none⟩ = some (.int .i8 1):=by
     rw [World.cell?_setCell_far _ _ _ _ (by simp; omega)]; assumption
    have bb9:=hb3.trans ((kept_set V39 V210.heap.size 0 (.bool true)).to_below hb3.size (fun k hk e => by have e : k = V210.heap.size:=e; omega))
    refine hK.out _ _ sb (fun _ => ?_)
    clear hK K c9 z9 k9 k10 k11
    have k9:=kk9
    have k10:=kk10
    have k11:=kk11
    clear kk9 kk10 kk11
    generalize V39.setCell ⟨V210.heap.size,0,none⟩ (.bool true) = X9 at *
    have c10 : X9.cell? ⟨V111.heap.size,0,none⟩ = some (.bool false):=cell_at k10
    have z10 : X9.frozen? ⟨V111.heap.size,0,none⟩ = false:=free_at k10
    refine rdFy (rs:=[13]) ?_
    refine rdFc (i:=13) rfl (fun K hK => ?_) AllReadyH.nil
    go_simp
    have kk10 : (X9.setCell ⟨V111.heap.size,0,none⟩ (.bool false)).heap[V111.heap.size]? = some (.cells #[.bool false] 4):=setBlk (i:=0) (u:=.bool false) k10
    have kk9:=nb_far (G:=V111.heap.size) (j:=0) (u:=.bool false) k9 (by omega)
    have kk11:=nb_far (G:=V111.heap.size) (j:=0) (u:=.bool false) k11 (by omega)
    have sb : (X9.setCell ⟨V111.heap.size,0,none⟩ (.bool false)).cell? ⟨w.heap.size + 1 + 1,4,none⟩ = some (.int .i8 1):=by
     rw [World.cell?_setCell_far _ _ _ _ (by simp; omega)]; assumption
    have bb10:=bb9.trans ((kept_set X9 V111.heap.size 0 (.bool false)).to_below bb9.size (fun k hk e => by have e : k = V111.heap.size:=e; omega))
    refine hK.out _ _ sb (fun _ => ?_)
    clear hK K c10 z10 k9 k10 k11
    have k9:=kk9
    have k10:=kk10
    have k11:=kk11
    clear kk9 kk10 kk11
    generalize X9.setCell ⟨V111.heap.size,0,none⟩ (.bool false) = X10 at *
    have c11 : X10.cell? ⟨V0.heap.size,0,none⟩ = some (.bool false):=cell_at k11
    have z11 : X10.frozen? ⟨V0.heap.size,0,none⟩ = false:=free_at k11
    refine rdFy (rs:=[14]) ?_
    refine rdFc (i:=14) rfl (fun K hK => ?_) AllReadyH.nil
    go_simp
    have kk11 : (X10.setCell ⟨V0.heap.size,0,none⟩ (.bool false)).heap[V0.heap.size]? = some (.cells #[.bool false] 4):=setBlk (i:=0) (u:=.bool false) k11
    have kk9:=nb_far (G:=V0.heap.size) (j:=0) (u:=.bool false) k9 (by omega)
    have kk10:=nb_far (G:=V0.heap.size) (j:=0) (u:=.bool false) k10 (by omega)
    have sb : (X10.setCell ⟨V0.heap.size,0,none⟩ (.bool false)).cell? ⟨w.heap.size + 1 + 1,4,none⟩ = some (.int .i8 1):=by
     rw [World.cell?_setCell_far _ _ _ _ (by simp; omega)]; assumption
    have bb11:=bb10.trans ((kept_set X10 V0.heap.size 0 (.bool false)).to_below bb10.size (fun k hk e => by have e : k = V0.heap.size:=e; omega))
    refine hK.out _ _ sb (fun _ => ?_)
    clear hK K c11 z11 k9 k10 k11
    have k9:=kk9
    have k10:=kk10
    have k11:=kk11
    clear kk9 kk10 kk11
    generalize X10.setCell ⟨V0.heap.size,0,none⟩ (.bool false) = X11 at *
    refine wpAnyH_done (by kernel_rfl) ?_ _
    go_wp2_with fail
    go_meet
    exact ⟨_,_,_,rfl,rfl,rfl,k9,k10,k11,hid bb11⟩
 case rest =>
  obtain ⟨P7,P8,P9,rfl,rfl,rfl,h7,h8,h9,HB1⟩:=hcut
  have HA:=hid (show AK wc TB FB TT FA PA w.heap.size (w.heap.size + 1) (w.heap.size + 1 + 1) P7 P8 P9 from ⟨nb_later HB1.out HK.out.1,nb_later HB1.out HK.out.2.1,nb_later HB1.out HK.out.2.2,h7,h8,h9⟩)
  have HBc:=hid (HB0.out.trans (HB1.out.mono HB0.out.size))
  clear h7 h8 h9 HB1 HK HB0 g4 hG
  generalize wc = W1 at *
  clear W0
  obtain ⟨LO,hLO⟩ : ∃ o,o = Obj.cells #[fnv 44 #[pt P7,pt P8,pt P9],fnv 45 #[pt P7,pt (w.heap.size + 1 + 1)],fnv 46 #[pt (w.heap.size + 1 + 1),pt P8],fnv 47 #[pt P9,pt (w.heap.size + 1 + 1)],fnv 49 #[pt (w.heap.size + 1 + 1)],fnv 50 #[pt (w.heap.size + 1 + 1)],fnv 51 #[pt w.heap.size,pt (w.heap.size + 1 + 1)],fnv 53 #[pt (w.heap.size + 1 + 1),pt w.heap.size]] 37:=⟨_,rfl⟩
  have BL:=below_new W1 LO
  have kl:=nb_new W1 LO
  have HA2:=hid (HA.out.later BL)
  have HB2:=hid (HBc.out.trans (BL.mono HBc.out.size))
  have q0 : (W1.alloc LO).cell? ⟨w.heap.size + 1 + 1,0,none⟩ = some (.slice (some ⟨FA,0,none⟩) 1 1):=cell_at HA2.out.s
  have HROW:=hid (show (W1.alloc LO).ownsRow 0 37 1 (.slice (some ⟨W1.heap.size,0,none⟩) 8 8) 8 [fnv 44 #[pt P7,pt P8,pt P9],fnv 45 #[pt P7,pt (w.heap.size + 1 + 1)],fnv 46 #[pt (w.heap.size + 1 + 1),pt P8],fnv 47 #[pt P9,pt (w.heap.size + 1 + 1)],fnv 49 #[pt (w.heap.size + 1 + 1)],fnv 50 #[pt (w.heap.size + 1 + 1)],fnv 51 #[pt w.heap.size,pt (w.heap.size + 1 + 1)],fnv 53 #[pt (w.heap.size + 1 + 1),pt w.heap.size]] from ⟨rfl,.inr ⟨W1.heap.size,8,_,rfl,Nat.zero_le _,by rw [kl,hLO],Nat.le_refl _,by unfold maxLen; omega,rfl,rfl⟩⟩)
  have HW1:=hid HBc.out.size
  clear BL kl HA HBc
  subst hLO
  go_wp2_with fail
  generalize W1.alloc (.cells #[fnv 44 #[pt P7,pt P8,pt P9],fnv 45 #[pt P7,pt (w.heap.size + 1 + 1)],fnv 46 #[pt (w.heap.size + 1 + 1),pt P8],fnv 47 #[pt P9,pt (w.heap.size + 1 + 1)],fnv 49 #[pt (w.heap.size + 1 + 1)],fnv 50 #[pt (w.heap.size + 1 + 1)],fnv 51 #[pt w.heap.size,pt (w.heap.size + 1 + 1)],fnv 53 #[pt (w.heap.size + 1 + 1),pt w.heap.size]] 37) = W2 at *
  refine wp_loop_rounds 2 ?_
  rw [rounds_succ]
  have BK:=below_new W2 (.cells #[.int .i64 0] 3)
  have BF:=below_new (W2.alloc (.cells #[.int .i64 0] 3)) (.cells #[fnv 55 #[pt w.heap.size,pt (w.heap.size + 1),pt (w.heap.size + 1 + 1),pt W2.heap.size]] 37)
  have kk:=nb_later BF (nb_new W2 (.cells #[.int .i64 0] 3))
  have kf : ((W2.alloc (.cells #[.int .i64 0] 3)).alloc (.cells #[fnv 55 #[pt w.heap.size,pt (w.heap.size + 1),pt (w.heap.size + 1 + 1),pt W2.heap.size]] 37)).heap[W2.heap.size + 1]? = some (.cells #[fnv 55 #[pt w.heap.size,pt (w.heap.size + 1),pt (w.heap.size + 1 + 1),pt W2.heap.size]] 37):=nb_at (by simp)
  have B4:=BK.trans (BF.mono BK.size)
  have HA4:=hid (HA2.out.later B4)
  have HB4:=hid (HB2.out.trans (B4.mono HB2.out.size))
  have HR4:=hid (own_lat HROW.out B4)
  have HKX:=hid kk
  have hnews : ∀ (j : Nat) (y : Value),([fnv 55 #[pt w.heap.size,pt (w.heap.size + 1),pt (w.heap.size + 1 + 1),pt W2.heap.size]] : List Value)[j]? = some y → ((W2.alloc (.cells #[.int .i64 0] 3)).alloc (.cells #[fnv 55 #[pt w.heap.size,pt (w.heap.size + 1),pt (w.heap.size + 1 + 1),pt W2.heap.size]] 37)).cell? ((⟨W2.heap.size + 1,0,none⟩ : Addr).add j) = some y:=by
   intro j y hj
   have hplain : (⟨W2.heap.size + 1,0,none⟩ : Addr).add j = ⟨W2.heap.size + 1,j,none⟩:=by unfold Addr.add; split <;> simp_all
   rw [hplain,cell_at kf]
   match j,hj with
   | 0,hj => exact hj
   | j + 1,hj => simp at hj
  have hone : ∀ u ∈ ([fnv 55 #[pt w.heap.size,pt (w.heap.size + 1),pt (w.heap.size + 1 + 1),pt W2.heap.size]] : List Value),u.oneCell' = true:=by
   intro u hu
   obtain rfl:=List.mem_singleton.1 hu
   rfl
  have HN:=hid (And.intro hnews hone)
  clear BK BF kk kf B4 hnews hone HA2 HB2 HROW
  go_wp2_with (first
   | (at_builtin; refine wpList_append_own _ rfl (.tmp 37) (.tmp 39) 83 rfl 0 37 i0 _ 1 8 Tryz.underlying83 hi hz0 hz1 hz2 rfl (by decide) _ 8 _ rfl HR4.out ⟨W2.heap.size + 1,0,none⟩ 1 1 [fnv 55 #[pt w.heap.size,pt (w.heap.size + 1),pt (w.heap.size + 1 + 1),pt W2.heap.size]] rfl rfl HN.out.1 HN.out.2 (by unfold maxLen; omega) (by omega) (Nat.zero_le _) ?_; intro v' w2 hown hg _; have HO:=hid hown; have HKp:=hid (Kept.of_grown hg); clear hown hg))
  obtain ⟨LB,cap,hv,_⟩ : ∃ LB cap,v' = .slice (some ⟨LB,0,none⟩) 9 cap ∧ True:=by
   rcases HO.out.2 with ⟨_,h1⟩ | ⟨g,cp,cur,h1,_⟩
   ·omega
   ·exact ⟨_,_,h1,trivial⟩
  subst hv
  have hS : ∀ b,some b = (Value.slice (some ⟨W1.heap.size,0,none⟩) 8 8).ownBlock → ∃ cur,((W2.alloc (.cells #[.int .i64 0] 3)).alloc (.cells #[fnv 55 #[pt w.heap.size,pt (w.heap.size + 1),pt (w.heap.size + 1 + 1),pt W2.heap.size]] 37)).heap[b]? = some (.cells cur 37):=fun b hb => by
   obtain ⟨_,_,cur,hc⟩:=own_ty HR4.out hb.symm
   exact ⟨cur,hc⟩
  have HS:=hid hS
  have HFA:=hid (show AK w2 TB FB TT FA PA w.heap.size (w.heap.size + 1) (w.heap.size + 1 + 1) P7 P8 P9 from ⟨blk_kept HA4.out.m HKp.out hS (by decide),blk_kept HA4.out.x HKp.out hS (by decide),blk_kept HA4.out.s HKp.out hS (by decide),blk_kept HA4.out.p7 HKp.out hS (by decide),blk_kept HA4.out.p8 HKp.out hS (by decide),blk_kept HA4.out.p9 HKp.out hS (by decide)⟩)
  have HKc:=hid (show w2.cell? ⟨W2.heap.size,0,none⟩ = some (.int .i64 0) from cell_at (blk_kept HKX.out HKp.out hS (by decide)))
  have hlo : w.heap.size ≤ W1.heap.size:=HW1.out
  have HBE:=hid (HB4.out.trans (HKp.out.to_below HB4.out.size (fun b hb e => by
   have e : some b = some W1.heap.size:=e
   injection e with e
   omega)))
  clear hS HS HA4 HKX HKp HR4 HN HB4
  rw [rounds_succ]
  go_wp2_with fail
  go_ret
  exact ⟨w.heap.size,w.heap.size + 1,w.heap.size + 1 + 1,P7,P8,P9,W2.heap.size,LB,cap,rfl,HFA.out,HKc.out,HO.out,HBE.out⟩
end Go.Proofs.YtmgjhfookhaajaaGreatDoor
