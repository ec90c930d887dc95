/-
  Texts Next.
-/
import Derived.ArgAppend
import Derived.Below
import Derived.BigQuiet
import Derived.Deep.AppendLies
import Derived.Deep.QuietTactic
import Derived.Deep.RegionHeld3
import Derived.Ground.Names2Prog
import Derived.Handy
import Derived.KernelRfl
import Derived.RowKit
import Derived.Shelf.LaysM
import Derived.Shelf.Slices.Cells
import Derived.Shelf.Slices.CompactI
import Derived.Shelf.Slices.In.SortNone
import Derived.Shelf.Sort.Plain
import Derived.Shelf.Strings.Search1
import Derived.Shelf.Strings.Search2
import Derived.Shelf.Strings.Search3
import Derived.Shelf.Strings.Shaped
import Derived.Shelf.Unicode.DecodeSlow
import Derived.Sort.OwnSortedInts
import Derived.Test.YtepnnenohjfkbaaGreatDoorProg
import Derived.WalkKit
import Derived.WalkLawsBesides
import Derived.WalkMore
import Derived.WalkSpells
import Derived.Test.YtepnnenohjfkbaaGreatDoorR33
import Derived.Test.YtepnnenohjfkbaaGreatDoorS00
import Derived.Test.YtepnnenohjfkbaaGreatDoorS05
import Derived.Test.YtepnnenohjfkbaaGreatDoorS06
set_option linter.unusedVariables false
set_option maxRecDepth 100000
set_option maxHeartbeats 16000000
namespace Go.Proofs.YtepnnenohjfkbaaGreatDoor
open Go.RowKit
structure Fx (w4 : World) (O : Nat → Int) (Kl Kv Kp Kc Lb lc A B C b off n cap i : Nat) (xs : List Inx) : Prop where
 hn : n ≤ 1048576
 hcap : n ≤ cap
 hi : i < n
 hO : O = opF xs
 ll : (labz O i).length ≤ 33
 kl : w4.cell? ⟨Kl,0,none⟩ = some (.slice (some ⟨Lb,0,none⟩) (labz O i).length lc)
 lab : ∀ k,k < (labz O i).length → w4.cell? ⟨Lb,k,none⟩ = some (.int .i64 ((labz O i).getD k (-1)))
 kp0 : w4.cell? ⟨Kp,0,none⟩ = some (.slice (some ⟨A,0,none⟩) n n)
 kp1 : w4.cell? ⟨Kp,1,none⟩ = some (.slice (some ⟨B,0,none⟩) n n)
 kp2 : w4.cell? ⟨Kp,2,none⟩ = some (.slice (some ⟨C,0,none⟩) n n)
 kc : w4.cell? ⟨Kc,0,none⟩ = some (.slice (some ⟨b,off,none⟩) n cap)
 en : RI w4 A n (enF O n)
 el : RI w4 B n (elF O n)
 cod : Cod w4 b off n xs
 kv : Kv < w4.heap.size
 n1 : Kl ≠ Kv
 n2 : Lb ≠ Kv
 n3 : Kp ≠ Kv
 n4 : Kc ≠ Kv
 n5 : A ≠ Kv
 n6 : B ≠ Kv
 n7 : b ≠ Kv
structure NS (w4 : World) (Kv : Nat) (l : List Int) (wr : World) : Prop where
 kept : Kept (fun k => k = Kv) w4 wr
 fr : wr.frozen? ⟨Kv,0,none⟩ = false
 pv : ∃ a c,wr.cell? ⟨Kv,0,none⟩ = some (.slice a l.length c) ∧ LI wr w4.heap.size (.slice a l.length c) l
theorem Cod.keep {S : Nat → Prop} {w w' : World} {b off n : Nat} {xs : List Inx} (h : Cod w b off n xs) (hk : Kept S w w') (hs : ¬ S b) {j : Nat} (hj : j < n) : w'.cell? ⟨b,off + j * 3,none⟩ = some (.int .u8 (opF xs j)):=hk.cell (h.op hj) hs
theorem set_far {w : World} {K b o : Nat} {u : Value} (h : w.cell? ⟨b,o,none⟩ = some u) (hne : b ≠ K) (v : Value) : (w.setCell ⟨K,0,none⟩ v).cell? ⟨b,o,none⟩ = some u :=
 (World.cell?_setCell_other _ _ _ _ (fun e => hne (by injection e with e1; exact e1.symm))).trans h
theorem NS.put {w4 wr w2 : World} {Kv : Nat} {l l' : List Int} (h : NS w4 Kv l wr) (hb : Below w4.heap.size wr w2) (hv : Kv < w4.heap.size) {a : Option Addr} {c k : Nat} (hkl : k = l'.length) (hL : LI w2 w4.heap.size (.slice a k c) l') :
  NS w4 Kv l' (w2.setCell ⟨Kv,0,none⟩ (.slice a k c)):=by
 subst hkl
 have hk : Kept (fun k => k = Kv) w4 (w2.setCell ⟨Kv,0,none⟩ (.slice a l'.length c)):=by
  have hs:=h.kept.size
  have hs2:=hb.size
  refine ⟨hb.os.trans h.kept.os,hb.tape.trans h.kept.tape,hb.output.trans h.kept.output,by rw [World.size_setCell]; omega,fun k h1 h2 => ?_⟩
  rw [heap_setCell_other _ _ _ _ (fun e => h2 e),hb.block k h1]
  exact h.kept.block k h1 h2
 obtain ⟨a0,c0,hc,_⟩:=h.pv
 have hc2 : w2.cell? ⟨Kv,0,none⟩ = some (.slice a0 l.length c0):=(hb.cell (p:=⟨Kv,0,none⟩) (by exact hv)).trans hc
 refine ⟨hk,?_,a,c,World.cell?_setCell_same _ _ _ hc2,?_⟩
 ·rw [World.frozen?_setCell,frozen_of_block (hb.block Kv hv)]
  exact h.fr
 ·refine own_keep hL fun B hB => ?_
  have:=(LI.block hL hB).1
  exact heap_setCell_other _ _ _ _ (fun e => by simp only at e; omega)
theorem NS.put_LI {base : Nat} {wr w2 : World} {Kv : Nat} {l' : List Int} (hb : Below base wr w2) (hv : Kv < base) {a : Option Addr} {c k : Nat} (hL : LI w2 base (.slice a k c) l') :
  LI (w2.setCell ⟨Kv,0,none⟩ (.slice a k c)) base (.slice a k c) l':=by
 refine own_keep hL fun B hB => ?_
 have:=(LI.block hL hB).1
 exact heap_setCell_other _ _ _ _ (fun e => by simp only at e; omega)
theorem branch_no (w4 : World) (O : Nat → Int) (Kl Kv Kp Kc Lb lc A B C b off n cap i : Nat) (xs : List Inx) (F : Fx w4 O Kl Kv Kp Kc Lb lc A B C b off n cap i xs) (l : List Int) (z : Int) (w : World) (hs : NS w4 Kv l w) (hz : z < 0 ∨ ((labz O i).length : Int) ≤ z) :
  Calls Tryz.prog 78 #[.int .i64 z,.pointer (some ⟨Kl,0,none⟩),.pointer (some ⟨Kv,0,none⟩),.pointer (some ⟨Kp,0,none⟩),.pointer (some ⟨Kc,0,none⟩)] w fun e w' => e = .returned (.tuple #[]) ∧ w' = w:=by
 have c1:=hs.kept.cell F.kl F.n1
 have hl:=F.ll
 clear hs F
 generalize (labz O i).length = ll at *
 go_enter Tryz.func78,Tryz.ntmps78
 by_cases h : z < 0
 ·go_wp2_with fail
  go_end0
  exact ⟨rfl,rfl⟩
 ·have h2 : (ll : Int) ≤ z:=by omega
  go_wp2_with fail
  go_end0
  exact ⟨rfl,rfl⟩
theorem branch_yes (w4 : World) (O : Nat → Int) (Kl Kv Kp Kc Lb lc A B C b off n cap i : Nat) (xs : List Inx) (F : Fx w4 O Kl Kv Kp Kc Lb lc A B C b off n cap i xs) (l : List Int) (z : Nat) (w : World) (hs : NS w4 Kv l w) (hz : z < (labz O i).length) (hll : l.length ≤ 1000000000) :
  Calls Tryz.prog 78 #[.int .i64 z,.pointer (some ⟨Kl,0,none⟩),.pointer (some ⟨Kv,0,none⟩),.pointer (some ⟨Kp,0,none⟩),.pointer (some ⟨Kc,0,none⟩)] w fun e w' => e = .returned (.tuple #[]) ∧ NS w4 Kv (l ++ [plc O n ((labz O i).getD z (-1))]) w':=by
 have c1:=hs.kept.cell F.kl F.n1
 have c2:=hs.kept.cell (F.lab z hz) F.n2
 have c3:=hs.kept.cell F.kp0 F.n3
 have c4:=hs.kept.cell F.kp1 F.n3
 have c5:=hs.kept.cell F.kp2 F.n3
 have c6:=hs.kept.cell F.kc F.n4
 obtain ⟨pa,pc,c7,hL⟩:=hs.pv
 have f7:=hs.fr
 have hl:=F.ll
 have hzm : (labz O i).getD z (-1) ∈ labz O i:=by
  rw [List.getD_eq_getElem?_getD,List.getElem?_eq_getElem hz]; exact List.getElem_mem hz
 have hzr:=labs_mem _ hzm
 have hi:=F.hi
 have hv:=F.kv
 have kd : Kept (fun _ => False) w w.drew:=Kept.drewN _ w 1
 have hp:=place A B C b off n cap xs ((labz O i).getD z (-1)) w.drew F.hn F.hcap hzr.1 (by omega) (fun j hj => kd.cell (F.cod.keep hs.kept F.n7 hj) (fun x => x)) (fun j hj => F.cod.range hj) (by rw [← F.hO]; exact (F.en.kept hs.kept F.n5).kept kd (fun x => x))
 rw [← F.hO] at hp
 have hp2 : Calls Tryz.prog 79 #[planV A B C n,.slice (some ⟨b,off,none⟩) n cap,.int .i64 ((labz O i).getD z (-1))] w.drew fun e w' => e = .returned (.int .i64 (plc O n ((labz O i).getD z (-1)))) ∧ Below w.heap.size w w':=hp.mono fun e w' ⟨he,hb⟩ =>
  ⟨he,(kd.to_below (Nat.le_refl _) (fun _ _ x => x)).trans hb⟩
 have HP:=hid hp2
 unfold planV at HP
 have HS:=hid hs
 have HL:=hid hL
 have hbz:=hs.kept.size
 have m1 : Kl < w4.heap.size:=block_lt_of_cell F.kl
 have m2 : Lb < w4.heap.size:=block_lt_of_cell (F.lab z hz)
 have m3 : Kp < w4.heap.size:=block_lt_of_cell F.kp0
 have m4 : Kc < w4.heap.size:=block_lt_of_cell F.kc
 have n1:=F.n1
 have n2:=F.n2
 have n3:=F.n3
 have n4:=F.n4
 have facts : ∀ W,Below w4.heap.size w W → W.cell? ⟨Kp,0,none⟩ = some (.slice (some ⟨A,0,none⟩) n n) ∧ W.cell? ⟨Kp,1,none⟩ = some (.slice (some ⟨B,0,none⟩) n n) ∧ W.cell? ⟨Kp,2,none⟩ = some (.slice (some ⟨C,0,none⟩) n n) ∧ W.cell? ⟨Kc,0,none⟩ = some (.slice (some ⟨b,off,none⟩) n cap) ∧ W.cell? ⟨Kl,0,none⟩ = some (.slice (some ⟨Lb,0,none⟩) (labz O i).length lc) ∧ W.cell? ⟨Lb,z,none⟩ = some (.int .i64 ((labz O i).getD z (-1))) ∧ W.cell? ⟨Kv,0,none⟩ = some (.slice pa l.length pc) ∧ W.frozen? ⟨Kv,0,none⟩ = false:=fun W hW =>
  ⟨(hW.cell (by exact m3)).trans c3,(hW.cell (by exact m3)).trans c4,(hW.cell (by exact m3)).trans c5,(hW.cell (by exact m4)).trans c6,(hW.cell (by exact m1)).trans c1,(hW.cell (by exact m2)).trans c2,(hW.cell (by exact hv)).trans c7,(frozen_of_block (hW.block Kv hv) 0).trans f7⟩
 have HFA:=hid facts
 clear hs hL hzm F hp hp2 kd facts m1 m2 m3 m4
 generalize (labz O i).getD z (-1) = q at *
 generalize plc O n q = pl at *
 generalize (labz O i).length = ll at *
 have hz1 : (0 : Int) ≤ (z : Int):=by omega
 have hz2 : (z : Int) < (ll : Int):=by omega
 go_enter Tryz.func78,Tryz.ntmps78
 go_wp2_with fail
 refine wp_region_held_drew (S:=fun W => W.cell? ⟨Kp,0,none⟩ = some (.slice (some ⟨A,0,none⟩) n n) ∧ W.cell? ⟨Kp,1,none⟩ = some (.slice (some ⟨B,0,none⟩) n n) ∧ W.cell? ⟨Kp,2,none⟩ = some (.slice (some ⟨C,0,none⟩) n n) ∧ W.cell? ⟨Kc,0,none⟩ = some (.slice (some ⟨b,off,none⟩) n cap) ∧ W.cell? ⟨Kl,0,none⟩ = some (.slice (some ⟨Lb,0,none⟩) ll lc) ∧ W.cell? ⟨Lb,z,none⟩ = some (.int .i64 q)) (by kernel_rfl) ?_ (fun hHeld => ?_)
 ·((try dsimp only); go_keep)
 refine tkH (i:=1) (v:=?_) rfl ?_ ?_
 rotate_left
 ·intro w h;(try dsimp only at h);go_simp;try with_reducible rfl
 try simp only [Act.put,sIB]
 refine tkH (i:=2) (v:=?_) rfl ?_ ?_
 rotate_left
 ·intro w h;(try dsimp only at h);go_simp;try with_reducible rfl
 try simp only [Act.put]
 refine tkH (i:=3) (v:=?_) rfl ?_ ?_
 rotate_left
 ·intro w h;(try dsimp only at h);go_simp;try with_reducible rfl
 try simp only [Act.put]
 refine tkH (i:=4) (v:=?_) rfl ?_ ?_
 rotate_left
 ·intro w h;(try dsimp only at h);go_simp;try with_reducible rfl
 try simp only [Act.put]
 refine tkH (i:=5) (v:=?_) rfl ?_ ?_
 rotate_left
 ·intro w h;(try dsimp only at h);go_simp;try with_reducible rfl
 try simp only [Act.put]
 refine tkH (i:=6) (v:=?_) rfl ?_ ?_
 rotate_left
 ·intro w h;(try dsimp only at h);go_simp;try with_reducible rfl
 try simp only [Act.put]
 refine wpAnyH_ready (rs:=[0,7]) (by kernel_rfl) (by simp) ?_
 refine AllReadyH.cons rfl (fun K hK => ?_) ?_
 ·go_simp
  refine hK.out _ _ ?_ (fun hHeld => ?_)
  ·((try dsimp only); go_keep)
  clear hK K
  try simp only [Act.put,sIB,sC0,sCs]
  refine wpAnyH_ready (rs:=[7]) (by kernel_rfl) (by simp) ?_
  refine AllReadyH.cons rfl (fun K hK => ?_) ?_
  ·go_simp
   refine HP.out.mono ?_
   rintro e w5 ⟨rfl,hb5⟩
   have hff:=HFA.out _ (hb5.mono hbz)
   obtain ⟨d0,d1,d2,d3,d4,d5,d6,d7⟩:=hff
   have hfg:=fun o => HFA.out _ ((hb5.alloc hb5.size o).mono hbz)
   have HB5:=hid hb5
   have e0:=fun o => (hfg o).1
   have e1:=fun o => (hfg o).2.1
   have e2:=fun o => (hfg o).2.2.1
   have e3:=fun o => (hfg o).2.2.2.1
   have e4:=fun o => (hfg o).2.2.2.2.1
   have e5:=fun o => (hfg o).2.2.2.2.2.1
   have e6:=fun o => (hfg o).2.2.2.2.2.2.1
   clear hfg hb5
   go_wp2_with fail
   refine hK.out _ _ ?_ (fun hHeld => ?_)
   ·((try dsimp only); go_keep)
   clear hK K
   try simp only [Act.put,sIB,sC0,sCs]
   refine wpAnyH_ready (rs:=[8]) (by kernel_rfl) (by simp) ?_
   refine AllReadyH.cons rfl (fun K hK => ?_) ?_
   ·go_simp
    refine hK.out _ _ ?_ (fun hHeld => ?_)
    ·((try dsimp only); go_keep)
    clear hK K
    try simp only [Act.put,sIB,sC0,sCs]
    refine wpAnyH_ready (rs:=[9]) (by kernel_rfl) (by simp) ?_
    refine AllReadyH.cons rfl (fun K hK => ?_) ?_
    ·refine step_app _ rfl (.tmp 14) (.tmp 22) rfl w4.heap.size _ l rfl (HL.out.later (HB5.out.alloc HB5.out.size _) (Nat.le_refl _)) (by rw [World.size_alloc]; exact Nat.le_succ_of_le (Nat.le_trans hbz HB5.out.size)) ⟨w5.heap.size,0,none⟩ [pl] 1 1 rfl rfl (by decide) (cells1 (by simp [Addr.add])) (by simp; omega) ?_
     intro g k6 c6 w6 hk6 hL6 hb6
     have hff:=HFA.out _ (((HB5.out.alloc HB5.out.size _).mono hbz).trans hb6)
     obtain ⟨x0,x1,x2,x3,x4,x5,x6,x7⟩:=hff
     have HL6:=hid hL6
     have HB6:=hid (((HB5.out.alloc HB5.out.size _).mono hbz).trans hb6)
     have y0:=fun v => set_far x0 n3 v
     have y1:=fun v => set_far x1 n3 v
     have y2:=fun v => set_far x2 n3 v
     have y3:=fun v => set_far x3 n4 v
     have y4:=fun v => set_far x4 n1 v
     have y5:=fun v => set_far x5 n2 v
     have HK6:=hid hk6
     clear hL6 hb6 hk6
     refine hK.out _ _ ?_ (fun hHeld => ?_)
     ·((try dsimp only); go_keep)
     clear hK K
     try simp only [Act.put,sIB]
     refine wpAnyH_ready (rs:=[10]) (by kernel_rfl) (by simp) ?_
     refine AllReadyH.cons rfl (fun K hK => ?_) ?_
     ·go_simp
      refine hK.out _ _ ?_ (fun hHeld => ?_)
      ·((try dsimp only); go_keep)
      clear hK K
      try simp only [Act.put,sIB,sC0,sCs]
      refine wpAnyH_done (by kernel_rfl) ?_ _
      go_wp2_with fail
      go_end0
      exact ⟨rfl,HS.out.put HB6.out hv HK6.out HL6.out⟩
     exact AllReadyH.nil
    exact AllReadyH.nil
   exact AllReadyH.nil
  exact AllReadyH.nil
 refine AllReadyH.cons rfl (fun K hK => ?_) ?_
 ·go_simp
  refine HP.out.mono ?_
  rintro e w5 ⟨rfl,hb5⟩
  have hff:=HFA.out _ (hb5.mono hbz)
  obtain ⟨d0,d1,d2,d3,d4,d5,d6,d7⟩:=hff
  have hfg:=fun o => HFA.out _ ((hb5.alloc hb5.size o).mono hbz)
  have HB5:=hid hb5
  have e0:=fun o => (hfg o).1
  have e1:=fun o => (hfg o).2.1
  have e2:=fun o => (hfg o).2.2.1
  have e3:=fun o => (hfg o).2.2.2.1
  have e4:=fun o => (hfg o).2.2.2.2.1
  have e5:=fun o => (hfg o).2.2.2.2.2.1
  have e6:=fun o => (hfg o).2.2.2.2.2.2.1
  clear hfg hb5
  go_wp2_with fail
  refine hK.out _ _ ?_ (fun hHeld => ?_)
  ·((try dsimp only); go_keep)
  clear hK K
  try simp only [Act.put,sIB,sC0,sCs]
  refine wpAnyH_ready (rs:=[0,8]) (by kernel_rfl) (by simp) ?_
  refine AllReadyH.cons rfl (fun K hK => ?_) ?_
  ·go_simp
   refine hK.out _ _ ?_ (fun hHeld => ?_)
   ·((try dsimp only); go_keep)
   clear hK K
   try simp only [Act.put,sIB,sC0,sCs]
   refine wpAnyH_ready (rs:=[8]) (by kernel_rfl) (by simp) ?_
   refine AllReadyH.cons rfl (fun K hK => ?_) ?_
   ·go_simp
    refine hK.out _ _ ?_ (fun hHeld => ?_)
    ·((try dsimp only); go_keep)
    clear hK K
    try simp only [Act.put,sIB,sC0,sCs]
    refine wpAnyH_ready (rs:=[9]) (by kernel_rfl) (by simp) ?_
    refine AllReadyH.cons rfl (fun K hK => ?_) ?_
    ·refine step_app _ rfl (.tmp 14) (.tmp 22) rfl w4.heap.size _ l rfl (HL.out.later (HB5.out.alloc HB5.out.size _) (Nat.le_refl _)) (by rw [World.size_alloc]; exact Nat.le_succ_of_le (Nat.le_trans hbz HB5.out.size)) ⟨w5.heap.size,0,none⟩ [pl] 1 1 rfl rfl (by decide) (cells1 (by simp [Addr.add])) (by simp; omega) ?_
     intro g k6 c6 w6 hk6 hL6 hb6
     have hff:=HFA.out _ (((HB5.out.alloc HB5.out.size _).mono hbz).trans hb6)
     obtain ⟨x0,x1,x2,x3,x4,x5,x6,x7⟩:=hff
     have HL6:=hid hL6
     have HB6:=hid (((HB5.out.alloc HB5.out.size _).mono hbz).trans hb6)
     have y0:=fun v => set_far x0 n3 v
     have y1:=fun v => set_far x1 n3 v
     have y2:=fun v => set_far x2 n3 v
     have y3:=fun v => set_far x3 n4 v
     have y4:=fun v => set_far x4 n1 v
     have y5:=fun v => set_far x5 n2 v
     have HK6:=hid hk6
     clear hL6 hb6 hk6
     refine hK.out _ _ ?_ (fun hHeld => ?_)
     ·((try dsimp only); go_keep)
     clear hK K
     try simp only [Act.put,sIB]
     refine wpAnyH_ready (rs:=[10]) (by kernel_rfl) (by simp) ?_
     refine AllReadyH.cons rfl (fun K hK => ?_) ?_
     ·go_simp
      refine hK.out _ _ ?_ (fun hHeld => ?_)
      ·((try dsimp only); go_keep)
      clear hK K
      try simp only [Act.put,sIB,sC0,sCs]
      refine wpAnyH_done (by kernel_rfl) ?_ _
      go_wp2_with fail
      go_end0
      exact ⟨rfl,HS.out.put HB6.out hv HK6.out HL6.out⟩
     exact AllReadyH.nil
    exact AllReadyH.nil
   exact AllReadyH.nil
  refine AllReadyH.cons rfl (fun K hK => ?_) ?_
  ·go_simp
   refine hK.out _ _ ?_ (fun hHeld => ?_)
   ·((try dsimp only); go_keep)
   clear hK K
   try simp only [Act.put,sIB,sC0,sCs]
   refine wpAnyH_ready (rs:=[0]) (by kernel_rfl) (by simp) ?_
   refine AllReadyH.cons rfl (fun K hK => ?_) ?_
   ·go_simp
    refine hK.out _ _ ?_ (fun hHeld => ?_)
    ·((try dsimp only); go_keep)
    clear hK K
    try simp only [Act.put,sIB,sC0,sCs]
    refine wpAnyH_ready (rs:=[9]) (by kernel_rfl) (by simp) ?_
    refine AllReadyH.cons rfl (fun K hK => ?_) ?_
    ·refine step_app _ rfl (.tmp 14) (.tmp 22) rfl w4.heap.size _ l rfl (HL.out.later (HB5.out.alloc HB5.out.size _) (Nat.le_refl _)) (by rw [World.size_alloc]; exact Nat.le_succ_of_le (Nat.le_trans hbz HB5.out.size)) ⟨w5.heap.size,0,none⟩ [pl] 1 1 rfl rfl (by decide) (cells1 (by simp [Addr.add])) (by simp; omega) ?_
     intro g k6 c6 w6 hk6 hL6 hb6
     have hff:=HFA.out _ (((HB5.out.alloc HB5.out.size _).mono hbz).trans hb6)
     obtain ⟨x0,x1,x2,x3,x4,x5,x6,x7⟩:=hff
     have HL6:=hid hL6
     have HB6:=hid (((HB5.out.alloc HB5.out.size _).mono hbz).trans hb6)
     have y0:=fun v => set_far x0 n3 v
     have y1:=fun v => set_far x1 n3 v
     have y2:=fun v => set_far x2 n3 v
     have y3:=fun v => set_far x3 n4 v
     have y4:=fun v => set_far x4 n1 v
     have y5:=fun v => set_far x5 n2 v
     have HK6:=hid hk6
     clear hL6 hb6 hk6
     refine hK.out _ _ ?_ (fun hHeld => ?_)
     ·((try dsimp only); go_keep)
     clear hK K
     try simp only [Act.put,sIB]
     refine wpAnyH_ready (rs:=[10]) (by kernel_rfl) (by simp) ?_
     refine AllReadyH.cons rfl (fun K hK => ?_) ?_
     ·go_simp
      refine hK.out _ _ ?_ (fun hHeld => ?_)
      ·((try dsimp only); go_keep)
      clear hK K
      try simp only [Act.put,sIB,sC0,sCs]
      refine wpAnyH_done (by kernel_rfl) ?_ _
      go_wp2_with fail
      go_end0
      exact ⟨rfl,HS.out.put HB6.out hv HK6.out HL6.out⟩
     exact AllReadyH.nil
    exact AllReadyH.nil
   exact AllReadyH.nil
  exact AllReadyH.nil
 exact AllReadyH.nil
theorem brn_len (O : Nat → Int) (n i : Nat) (z : Int) : (brn O n i z).length ≤ 1:=by unfold brn; split <;> simp
theorem brn_all_len (O : Nat → Int) (n i : Nat) : ∀ (l : List Int),(l.flatMap (brn O n i)).length ≤ l.length
 | [] => by simp
 | z :: l => by
  have h1:=brn_all_len O n i l
  have h2:=brn_len O n i z
  simp only [List.flatMap_cons,List.length_append,List.length_cons]; omega
theorem wrap_succ {j m : Nat} (h : j < m) (hm : m ≤ 1048576) : IntKind.i64.wrap ((j : Int) + 1) = (j : Int) + 1:=by
 simp only [IntKind.wrap,IntKind.bits,IntKind.signed]
 simp
 omega
theorem branch (w4 : World) (O : Nat → Int) (Kl Kv Kp Kc Lb lc A B C b off n cap i : Nat) (xs : List Inx) (F : Fx w4 O Kl Kv Kp Kc Lb lc A B C b off n cap i xs) (l : List Int) (z : Int) (w : World) (hs : NS w4 Kv l w) (hll : l.length ≤ 1000000000) :
  Calls Tryz.prog 78 #[.int .i64 z,.pointer (some ⟨Kl,0,none⟩),.pointer (some ⟨Kv,0,none⟩),.pointer (some ⟨Kp,0,none⟩),.pointer (some ⟨Kc,0,none⟩)] w fun e w' => e = .returned (.tuple #[]) ∧ NS w4 Kv (l ++ brn O n i z) w':=by
 by_cases hz : 0 ≤ z ∧ z < (labz O i).length
 ·obtain ⟨k,rfl⟩ : ∃ k : Nat,z = (k : Int):=⟨z.toNat,by omega⟩
  refine (branch_yes w4 O Kl Kv Kp Kc Lb lc A B C b off n cap i xs F l k w hs (by omega) hll).mono fun e w' ⟨he,hn⟩ => ⟨he,?_⟩
  unfold brn
  rw [if_pos hz,Int.toNat_natCast]
  exact hn
 ·refine (branch_no w4 O Kl Kv Kp Kc Lb lc A B C b off n cap i xs F l z w hs (by omega)).mono fun e w' ⟨he,hw⟩ => ⟨he,?_⟩
  unfold brn
  rw [if_neg hz,List.append_nil,hw]
  exact hs
end Go.Proofs.YtepnnenohjfkbaaGreatDoor
