/-
  Texts Fs Ft.
-/
import Derived.Test.YtmgjhfookhaajaaGreatDoorQ40
set_option linter.unusedVariables false
set_option maxRecDepth 100000
set_option maxHeartbeats 16000000
namespace Go.Proofs.YtmgjhfookhaajaaGreatDoor
open Go.RowKit
theorem chk16_0 (TB FB CB FA PA PB : Nat) (w : World) (hk : KindsOk w) (hm : KM w TB FB CB) (hs : KS w FA PA PB 0) :
  Calls Tryz.prog 16 #[.agg (kV TB FB),.agg (bV FA PA)] w fun e w' => e = .returned (.tuple #[.int .i64 0,.int .i64 0]) ∧ Below w.heap.size w w':=by
 have B0:=below_new w (.cells (kV TB FB) 36)
 have B1:=below_new (w.alloc (.cells (kV TB FB) 36)) (.cells (bV FA PA) 27)
 have ka:=nb_later B1 (nb_new w (.cells (kV TB FB) 36))
 have kb : ((w.alloc (.cells (kV TB FB) 36)).alloc (.cells (bV FA PA) 27)).heap[w.heap.size + 1]? = some (.cells (bV FA PA) 27):=nb_at (by simp)
 have B2:=B0.trans (B1.mono B0.size)
 have HM:=hid (modK TB FB CB ((w.alloc (.cells (kV TB FB) 36)).alloc (.cells (bV FA PA) 27)) (hk.later B2 hk.pos) ((hm.later B0).later B1))
 have KMH:=hid ((hm.later B0).later B1)
 have KSH:=hid ((hs.later B0).later B1)
 have HA:=hid ka
 have HBx:=hid kb
 have HB:=hid B2
 have g0 : ((w.alloc (.cells (kV TB FB) 36)).alloc (.cells (bV FA PA) 27)).cell? ⟨w.heap.size,0,none⟩ = some (.slice (some ⟨TB,0,none⟩) 1 1):=cell_at ka
 have g1 : ((w.alloc (.cells (kV TB FB) 36)).alloc (.cells (bV FA PA) 27)).cell? ⟨w.heap.size,1,none⟩ = some (.slice none 0 0):=cell_at ka
 have g2 : ((w.alloc (.cells (kV TB FB) 36)).alloc (.cells (bV FA PA) 27)).cell? ⟨w.heap.size,2,none⟩ = some (.slice none 0 0):=cell_at ka
 have g3 : ((w.alloc (.cells (kV TB FB) 36)).alloc (.cells (bV FA PA) 27)).cell? ⟨w.heap.size,3,none⟩ = some (.int .i64 1):=cell_at ka
 have g4 : ((w.alloc (.cells (kV TB FB) 36)).alloc (.cells (bV FA PA) 27)).cell? ⟨w.heap.size,4,none⟩ = some (.int .i64 2):=cell_at ka
 have g5 : ((w.alloc (.cells (kV TB FB) 36)).alloc (.cells (bV FA PA) 27)).cell? ⟨w.heap.size,5,none⟩ = some (.slice (some ⟨FB,0,none⟩) 1 1):=cell_at ka
 have g6 : ((w.alloc (.cells (kV TB FB) 36)).alloc (.cells (bV FA PA) 27)).cell? ⟨w.heap.size,6,none⟩ = some (.slice none 0 0):=cell_at ka
 have g7 : ((w.alloc (.cells (kV TB FB) 36)).alloc (.cells (bV FA PA) 27)).cell? ⟨w.heap.size,7,none⟩ = some (.slice none 0 0):=cell_at ka
 clear hk hm hs B0 B1 B2 ka kb
 go_enter Tryz.func16,Tryz.ntmps16
 go_wp2_with fail
 generalize ((w.alloc (.cells (kV TB FB) 36)).alloc (.cells (bV FA PA) 27)) = W0 at *
 refine HM.out.mono ?_
 rintro e w5 ⟨hb5,TT,SH,rfl,ht1,ht2⟩
 have ka5:=nb_later hb5 HA.out
 have kb5:=nb_later hb5 HBx.out
 have KM5:=hid (KMH.out.later hb5)
 have KS5:=hid (KSH.out.later hb5)
 have KT5:=hid (show KT2 w5 TT SH from ⟨ht1,ht2⟩)
 have HB5:=hid (HB.out.trans (hb5.mono HB.out.size))
 have m0 : w5.cell? ⟨w.heap.size,0,none⟩ = some (.slice (some ⟨TB,0,none⟩) 1 1):=cell_at ka5
 have m1 : w5.cell? ⟨w.heap.size,1,none⟩ = some (.slice none 0 0):=cell_at ka5
 have m2 : w5.cell? ⟨w.heap.size,2,none⟩ = some (.slice none 0 0):=cell_at ka5
 have m3 : w5.cell? ⟨w.heap.size,3,none⟩ = some (.int .i64 1):=cell_at ka5
 have m4 : w5.cell? ⟨w.heap.size,4,none⟩ = some (.int .i64 2):=cell_at ka5
 have m5 : w5.cell? ⟨w.heap.size,5,none⟩ = some (.slice (some ⟨FB,0,none⟩) 1 1):=cell_at ka5
 have m6 : w5.cell? ⟨w.heap.size,6,none⟩ = some (.slice none 0 0):=cell_at ka5
 have m7 : w5.cell? ⟨w.heap.size,7,none⟩ = some (.slice none 0 0):=cell_at ka5
 have b0 : w5.cell? ⟨w.heap.size + 1,0,none⟩ = some (.slice (some ⟨FA,0,none⟩) 1 1):=cell_at kb5
 have b1 : w5.cell? ⟨w.heap.size + 1,1,none⟩ = some (.slice none 0 0):=cell_at kb5
 have b2 : w5.cell? ⟨w.heap.size + 1,2,none⟩ = some (.slice (some ⟨PA,0,none⟩) 1 1):=cell_at kb5
 have b3 : w5.cell? ⟨w.heap.size + 1,3,none⟩ = some (.int .i64 0):=cell_at kb5
 have b4 : w5.cell? ⟨w.heap.size + 1,4,none⟩ = some (.int .i8 1):=cell_at kb5
 have b5 : w5.cell? ⟨w.heap.size + 1,5,none⟩ = some (.slice none 0 0):=cell_at kb5
 have b6 : w5.cell? ⟨w.heap.size + 1,6,none⟩ = some (.int .i8 0):=cell_at kb5
 have b7 : w5.cell? ⟨w.heap.size + 1,7,none⟩ = some (.int .i64 0):=cell_at kb5
 clear HM HA HBx KMH KSH HB hb5 ht1 ht2 ka5 kb5 g0 g1 g2 g3 g4 g5 g6 g7
 go_wp2_with fail
 refine (ask37 TB FB TT FA PA w5).mono ?_
 rintro e w6 ⟨MB,TX,SX,P7,P8,P9,KX,LB,cap,rfl,hA,hKX,hrow,hb6⟩
 have A6:=hid hA
 have M6:=hid (KM5.out.later hb6)
 have S6:=hid (KS5.out.later hb6)
 have T6:=hid (KT5.out.later hb6)
 have HB6:=hid (HB5.out.trans (hb6.mono HB5.out.size))
 have r0 : w6.cell? ⟨LB,0,none⟩ = some (fnv 44 #[pt P7,pt P8,pt P9]):=World.ownsRow.cellAt hrow 0 (by omega)
 have r1 : w6.cell? ⟨LB,1,none⟩ = some (fnv 45 #[pt P7,pt SX]):=World.ownsRow.cellAt hrow 1 (by omega)
 have r2 : w6.cell? ⟨LB,2,none⟩ = some (fnv 46 #[pt SX,pt P8]):=World.ownsRow.cellAt hrow 2 (by omega)
 have r3 : w6.cell? ⟨LB,3,none⟩ = some (fnv 47 #[pt P9,pt SX]):=World.ownsRow.cellAt hrow 3 (by omega)
 have r4 : w6.cell? ⟨LB,4,none⟩ = some (fnv 49 #[pt SX]):=World.ownsRow.cellAt hrow 4 (by omega)
 have r5 : w6.cell? ⟨LB,5,none⟩ = some (fnv 50 #[pt SX]):=World.ownsRow.cellAt hrow 5 (by omega)
 have r6 : w6.cell? ⟨LB,6,none⟩ = some (fnv 51 #[pt MB,pt SX]):=World.ownsRow.cellAt hrow 6 (by omega)
 have r7 : w6.cell? ⟨LB,7,none⟩ = some (fnv 53 #[pt SX,pt MB]):=World.ownsRow.cellAt hrow 7 (by omega)
 have r8 : w6.cell? ⟨LB,8,none⟩ = some (fnv 55 #[pt MB,pt TX,pt SX,pt KX]):=World.ownsRow.cellAt hrow 8 (by omega)
 have e44 : ∀ args w,(callFunc 44 args).run Tryz.prog w = .ok (.enter 44 args) w:=fun _ _ => rfl
 have e45 : ∀ args w,(callFunc 45 args).run Tryz.prog w = .ok (.enter 45 args) w:=fun _ _ => rfl
 have e46 : ∀ args w,(callFunc 46 args).run Tryz.prog w = .ok (.enter 46 args) w:=fun _ _ => rfl
 have e47 : ∀ args w,(callFunc 47 args).run Tryz.prog w = .ok (.enter 47 args) w:=fun _ _ => rfl
 have e49 : ∀ args w,(callFunc 49 args).run Tryz.prog w = .ok (.enter 49 args) w:=fun _ _ => rfl
 have e50 : ∀ args w,(callFunc 50 args).run Tryz.prog w = .ok (.enter 50 args) w:=fun _ _ => rfl
 have e51 : ∀ args w,(callFunc 51 args).run Tryz.prog w = .ok (.enter 51 args) w:=fun _ _ => rfl
 have e53 : ∀ args w,(callFunc 53 args).run Tryz.prog w = .ok (.enter 53 args) w:=fun _ _ => rfl
 have e55 : ∀ args w,(callFunc 55 args).run Tryz.prog w = .ok (.enter 55 args) w:=fun _ _ => rfl
 have H44:=hid (c44 P7 P8 P9 w6 (cell_at A6.out.p7))
 have H45:=hid (c45 P7 SX (some ⟨FA,0,none⟩) w6 (cell_at A6.out.p7) (cell_at A6.out.s))
 have H46:=hid (c46 P8 SX w6 (cell_at A6.out.s))
 have H47:=hid (c47 P9 SX w6 (cell_at A6.out.p9) (cell_at A6.out.s))
 have H49:=hid (c49 SX w6 (cell_at A6.out.s))
 have H50:=hid (c50 SX w6 (cell_at A6.out.s))
 have H51:=hid (c51 MB SX w6 (cell_at A6.out.m) (cell_at A6.out.s))
 have H53:=hid (c53 MB SX PA (some ⟨PB,0,none⟩) w6 (cell_at A6.out.s) (cell_at S6.out.p) (cell_at A6.out.m) (cell_at A6.out.m))
 have H55:=hid (c55_0 TB FB CB TT SH FA MB TX SX KX w6 M6.out S6.out.f T6.out A6.out.m (cell_at A6.out.x) (cell_at A6.out.s) hKX)
 clear hA hKX hrow hb6 A6 M6 S6 T6 KM5 KS5 KT5 HB5 m0 m1 m2 m3 m4 m5 m6 m7 b0 b1 b2 b3 b4 b5 b6 b7
 go_wp2_with fail
 refine wp_loop_rounds 10 ?_
 rw [rounds_succ]
 go_wp2_with fail
 refine H44.out.mono ?_
 rintro e v0 ⟨rfl,hv⟩
 subst hv
 go_wp2_with fail
 rw [rounds_succ]
 go_wp2_with fail
 refine H45.out.mono ?_
 rintro e v1 ⟨rfl,hv⟩
 subst hv
 go_wp2_with fail
 rw [rounds_succ]
 go_wp2_with fail
 refine H46.out.mono ?_
 rintro e v2 ⟨rfl,hv⟩
 subst hv
 go_wp2_with fail
 rw [rounds_succ]
 go_wp2_with fail
 refine H47.out.mono ?_
 rintro e v3 ⟨rfl,hv⟩
 subst hv
 go_wp2_with fail
 rw [rounds_succ]
 go_wp2_with fail
 refine H49.out.mono ?_
 rintro e v4 ⟨rfl,hv⟩
 subst hv
 go_wp2_with fail
 rw [rounds_succ]
 go_wp2_with fail
 refine H50.out.mono ?_
 rintro e v5 ⟨rfl,hv⟩
 subst hv
 go_wp2_with fail
 rw [rounds_succ]
 go_wp2_with fail
 refine H51.out.mono ?_
 rintro e v6 ⟨rfl,hv⟩
 subst hv
 go_wp2_with fail
 rw [rounds_succ]
 go_wp2_with fail
 refine H53.out.mono ?_
 rintro e v7 ⟨rfl,hv⟩
 subst hv
 go_wp2_with fail
 rw [rounds_succ]
 go_wp2_with fail
 refine H55.out.mono ?_
 rintro e w7 ⟨rfl,hb7⟩
 have HB7:=hid (HB6.out.trans (hb7.mono HB6.out.size))
 clear hb7
 go_wp2_with fail
 rw [rounds_succ]
 go_wp2_with fail
 go_ret2
 exact ⟨rfl,HB7.out⟩
theorem chk16_2 (TB FB CB FA PA PB : Nat) (w : World) (hk : KindsOk w) (hm : KM w TB FB CB) (hs : KS w FA PA PB 2) :
  Calls Tryz.prog 16 #[.agg (kV TB FB),.agg (bV FA PA)] w fun e w' => e = .returned (.tuple #[.int .i64 44,.int .i64 9]) ∧ Below w.heap.size w w':=by
 have B0:=below_new w (.cells (kV TB FB) 36)
 have B1:=below_new (w.alloc (.cells (kV TB FB) 36)) (.cells (bV FA PA) 27)
 have ka:=nb_later B1 (nb_new w (.cells (kV TB FB) 36))
 have kb : ((w.alloc (.cells (kV TB FB) 36)).alloc (.cells (bV FA PA) 27)).heap[w.heap.size + 1]? = some (.cells (bV FA PA) 27):=nb_at (by simp)
 have B2:=B0.trans (B1.mono B0.size)
 have HM:=hid (modK TB FB CB ((w.alloc (.cells (kV TB FB) 36)).alloc (.cells (bV FA PA) 27)) (hk.later B2 hk.pos) ((hm.later B0).later B1))
 have KMH:=hid ((hm.later B0).later B1)
 have KSH:=hid ((hs.later B0).later B1)
 have HA:=hid ka
 have HBx:=hid kb
 have HB:=hid B2
 have g0 : ((w.alloc (.cells (kV TB FB) 36)).alloc (.cells (bV FA PA) 27)).cell? ⟨w.heap.size,0,none⟩ = some (.slice (some ⟨TB,0,none⟩) 1 1):=cell_at ka
 have g1 : ((w.alloc (.cells (kV TB FB) 36)).alloc (.cells (bV FA PA) 27)).cell? ⟨w.heap.size,1,none⟩ = some (.slice none 0 0):=cell_at ka
 have g2 : ((w.alloc (.cells (kV TB FB) 36)).alloc (.cells (bV FA PA) 27)).cell? ⟨w.heap.size,2,none⟩ = some (.slice none 0 0):=cell_at ka
 have g3 : ((w.alloc (.cells (kV TB FB) 36)).alloc (.cells (bV FA PA) 27)).cell? ⟨w.heap.size,3,none⟩ = some (.int .i64 1):=cell_at ka
 have g4 : ((w.alloc (.cells (kV TB FB) 36)).alloc (.cells (bV FA PA) 27)).cell? ⟨w.heap.size,4,none⟩ = some (.int .i64 2):=cell_at ka
 have g5 : ((w.alloc (.cells (kV TB FB) 36)).alloc (.cells (bV FA PA) 27)).cell? ⟨w.heap.size,5,none⟩ = some (.slice (some ⟨FB,0,none⟩) 1 1):=cell_at ka
 have g6 : ((w.alloc (.cells (kV TB FB) 36)).alloc (.cells (bV FA PA) 27)).cell? ⟨w.heap.size,6,none⟩ = some (.slice none 0 0):=cell_at ka
 have g7 : ((w.alloc (.cells (kV TB FB) 36)).alloc (.cells (bV FA PA) 27)).cell? ⟨w.heap.size,7,none⟩ = some (.slice none 0 0):=cell_at ka
 clear hk hm hs B0 B1 B2 ka kb
 go_enter Tryz.func16,Tryz.ntmps16
 go_wp2_with fail
 generalize ((w.alloc (.cells (kV TB FB) 36)).alloc (.cells (bV FA PA) 27)) = W0 at *
 refine HM.out.mono ?_
 rintro e w5 ⟨hb5,TT,SH,rfl,ht1,ht2⟩
 have ka5:=nb_later hb5 HA.out
 have kb5:=nb_later hb5 HBx.out
 have KM5:=hid (KMH.out.later hb5)
 have KS5:=hid (KSH.out.later hb5)
 have KT5:=hid (show KT2 w5 TT SH from ⟨ht1,ht2⟩)
 have HB5:=hid (HB.out.trans (hb5.mono HB.out.size))
 have m0 : w5.cell? ⟨w.heap.size,0,none⟩ = some (.slice (some ⟨TB,0,none⟩) 1 1):=cell_at ka5
 have m1 : w5.cell? ⟨w.heap.size,1,none⟩ = some (.slice none 0 0):=cell_at ka5
 have m2 : w5.cell? ⟨w.heap.size,2,none⟩ = some (.slice none 0 0):=cell_at ka5
 have m3 : w5.cell? ⟨w.heap.size,3,none⟩ = some (.int .i64 1):=cell_at ka5
 have m4 : w5.cell? ⟨w.heap.size,4,none⟩ = some (.int .i64 2):=cell_at ka5
 have m5 : w5.cell? ⟨w.heap.size,5,none⟩ = some (.slice (some ⟨FB,0,none⟩) 1 1):=cell_at ka5
 have m6 : w5.cell? ⟨w.heap.size,6,none⟩ = some (.slice none 0 0):=cell_at ka5
 have m7 : w5.cell? ⟨w.heap.size,7,none⟩ = some (.slice none 0 0):=cell_at ka5
 have b0 : w5.cell? ⟨w.heap.size + 1,0,none⟩ = some (.slice (some ⟨FA,0,none⟩) 1 1):=cell_at kb5
 have b1 : w5.cell? ⟨w.heap.size + 1,1,none⟩ = some (.slice none 0 0):=cell_at kb5
 have b2 : w5.cell? ⟨w.heap.size + 1,2,none⟩ = some (.slice (some ⟨PA,0,none⟩) 1 1):=cell_at kb5
 have b3 : w5.cell? ⟨w.heap.size + 1,3,none⟩ = some (.int .i64 0):=cell_at kb5
 have b4 : w5.cell? ⟨w.heap.size + 1,4,none⟩ = some (.int .i8 1):=cell_at kb5
 have b5 : w5.cell? ⟨w.heap.size + 1,5,none⟩ = some (.slice none 0 0):=cell_at kb5
 have b6 : w5.cell? ⟨w.heap.size + 1,6,none⟩ = some (.int .i8 0):=cell_at kb5
 have b7 : w5.cell? ⟨w.heap.size + 1,7,none⟩ = some (.int .i64 0):=cell_at kb5
 clear HM HA HBx KMH KSH HB hb5 ht1 ht2 ka5 kb5 g0 g1 g2 g3 g4 g5 g6 g7
 go_wp2_with fail
 refine (ask37 TB FB TT FA PA w5).mono ?_
 rintro e w6 ⟨MB,TX,SX,P7,P8,P9,KX,LB,cap,rfl,hA,hKX,hrow,hb6⟩
 have A6:=hid hA
 have M6:=hid (KM5.out.later hb6)
 have S6:=hid (KS5.out.later hb6)
 have T6:=hid (KT5.out.later hb6)
 have HB6:=hid (HB5.out.trans (hb6.mono HB5.out.size))
 have r0 : w6.cell? ⟨LB,0,none⟩ = some (fnv 44 #[pt P7,pt P8,pt P9]):=World.ownsRow.cellAt hrow 0 (by omega)
 have r1 : w6.cell? ⟨LB,1,none⟩ = some (fnv 45 #[pt P7,pt SX]):=World.ownsRow.cellAt hrow 1 (by omega)
 have r2 : w6.cell? ⟨LB,2,none⟩ = some (fnv 46 #[pt SX,pt P8]):=World.ownsRow.cellAt hrow 2 (by omega)
 have r3 : w6.cell? ⟨LB,3,none⟩ = some (fnv 47 #[pt P9,pt SX]):=World.ownsRow.cellAt hrow 3 (by omega)
 have r4 : w6.cell? ⟨LB,4,none⟩ = some (fnv 49 #[pt SX]):=World.ownsRow.cellAt hrow 4 (by omega)
 have r5 : w6.cell? ⟨LB,5,none⟩ = some (fnv 50 #[pt SX]):=World.ownsRow.cellAt hrow 5 (by omega)
 have r6 : w6.cell? ⟨LB,6,none⟩ = some (fnv 51 #[pt MB,pt SX]):=World.ownsRow.cellAt hrow 6 (by omega)
 have r7 : w6.cell? ⟨LB,7,none⟩ = some (fnv 53 #[pt SX,pt MB]):=World.ownsRow.cellAt hrow 7 (by omega)
 have r8 : w6.cell? ⟨LB,8,none⟩ = some (fnv 55 #[pt MB,pt TX,pt SX,pt KX]):=World.ownsRow.cellAt hrow 8 (by omega)
 have e44 : ∀ args w,(callFunc 44 args).run Tryz.prog w = .ok (.enter 44 args) w:=fun _ _ => rfl
 have e45 : ∀ args w,(callFunc 45 args).run Tryz.prog w = .ok (.enter 45 args) w:=fun _ _ => rfl
 have e46 : ∀ args w,(callFunc 46 args).run Tryz.prog w = .ok (.enter 46 args) w:=fun _ _ => rfl
 have e47 : ∀ args w,(callFunc 47 args).run Tryz.prog w = .ok (.enter 47 args) w:=fun _ _ => rfl
 have e49 : ∀ args w,(callFunc 49 args).run Tryz.prog w = .ok (.enter 49 args) w:=fun _ _ => rfl
 have e50 : ∀ args w,(callFunc 50 args).run Tryz.prog w = .ok (.enter 50 args) w:=fun _ _ => rfl
 have e51 : ∀ args w,(callFunc 51 args).run Tryz.prog w = .ok (.enter 51 args) w:=fun _ _ => rfl
 have e53 : ∀ args w,(callFunc 53 args).run Tryz.prog w = .ok (.enter 53 args) w:=fun _ _ => rfl
 have e55 : ∀ args w,(callFunc 55 args).run Tryz.prog w = .ok (.enter 55 args) w:=fun _ _ => rfl
 have H44:=hid (c44 P7 P8 P9 w6 (cell_at A6.out.p7))
 have H45:=hid (c45 P7 SX (some ⟨FA,0,none⟩) w6 (cell_at A6.out.p7) (cell_at A6.out.s))
 have H46:=hid (c46 P8 SX w6 (cell_at A6.out.s))
 have H47:=hid (c47 P9 SX w6 (cell_at A6.out.p9) (cell_at A6.out.s))
 have H49:=hid (c49 SX w6 (cell_at A6.out.s))
 have H50:=hid (c50 SX w6 (cell_at A6.out.s))
 have H51:=hid (c51 MB SX w6 (cell_at A6.out.m) (cell_at A6.out.s))
 have H53:=hid (c53 MB SX PA (some ⟨PB,0,none⟩) w6 (cell_at A6.out.s) (cell_at S6.out.p) (cell_at A6.out.m) (cell_at A6.out.m))
 have H55:=hid (c55_2 TB FB CB TT SH FA MB TX SX KX w6 M6.out S6.out.f T6.out A6.out.m (cell_at A6.out.x) (cell_at A6.out.s) hKX)
 clear hA hKX hrow hb6 A6 M6 S6 T6 KM5 KS5 KT5 HB5 m0 m1 m2 m3 m4 m5 m6 m7 b0 b1 b2 b3 b4 b5 b6 b7
 go_wp2_with fail
 refine wp_loop_rounds 10 ?_
 rw [rounds_succ]
 go_wp2_with fail
 refine H44.out.mono ?_
 rintro e v0 ⟨rfl,hv⟩
 subst hv
 go_wp2_with fail
 rw [rounds_succ]
 go_wp2_with fail
 refine H45.out.mono ?_
 rintro e v1 ⟨rfl,hv⟩
 subst hv
 go_wp2_with fail
 rw [rounds_succ]
 go_wp2_with fail
 refine H46.out.mono ?_
 rintro e v2 ⟨rfl,hv⟩
 subst hv
 go_wp2_with fail
 rw [rounds_succ]
 go_wp2_with fail
 refine H47.out.mono ?_
 rintro e v3 ⟨rfl,hv⟩
 subst hv
 go_wp2_with fail
 rw [rounds_succ]
 go_wp2_with fail
 refine H49.out.mono ?_
 rintro e v4 ⟨rfl,hv⟩
 subst hv
 go_wp2_with fail
 rw [rounds_succ]
 go_wp2_with fail
 refine H50.out.mono ?_
 rintro e v5 ⟨rfl,hv⟩
 subst hv
 go_wp2_with fail
 rw [rounds_succ]
 go_wp2_with fail
 refine H51.out.mono ?_
 rintro e v6 ⟨rfl,hv⟩
 subst hv
 go_wp2_with fail
 rw [rounds_succ]
 go_wp2_with fail
 refine H53.out.mono ?_
 rintro e v7 ⟨rfl,hv⟩
 subst hv
 go_wp2_with fail
 rw [rounds_succ]
 go_wp2_with fail
 refine H55.out.mono ?_
 rintro e w7 ⟨rfl,hb7⟩
 have HB7:=hid (HB6.out.trans (hb7.mono HB6.out.size))
 clear hb7
 go_wp2_with fail
 go_ret2
 exact ⟨rfl,HB7.out⟩
def bM (FA PA PB : Nat) (p : Int) : StM :=
 { fa:=some ⟨FA,0,none⟩,fn:=1,fc:=1,fs:=[(0,p,((none,0,0),[]),((none,0,0),[]))],ga:=none,gn:=0,gc:=0,gs:=[],pa:=some ⟨PA,0,none⟩,pn:=1,pc:=1,ps:=[((some ⟨PB,0,none⟩,4096,4096),List.replicate 4096 0)],rep:=0,en:=1,ra:=none,rn:=0,rc:=0,rs:=[],tr:=0,us:=0 }
theorem bM_v (FA PA PB : Nat) (p : Int) : stAr (bM FA PA PB p) = bV FA PA:=rfl
theorem bM_b (FA PA PB : Nat) (p : Int) : SB (bM FA PA PB p):=by
 refine ⟨fun x hx => ?_,fun x hx => ?_,by simp [bM],by simp [bM],by simp [bM],by simp [bM]⟩
 ·simp only [bM,List.mem_singleton] at hx
  subst hx
  exact ⟨by simp,by simp⟩
 ·simp only [bM,List.mem_singleton] at hx
  subst hx
  refine ⟨by simp,fun z hz => ?_⟩
  have hz : z ∈ List.replicate 4096 (0 : Int):=hz
  obtain ⟨_,rfl⟩:=List.mem_replicate.mp hz
  omega
theorem bM_far (FA PA PB FA' PA' PB' : Nat) : stE (bM FA PA PB 2) (bM FA' PA' PB' 0) = false:=by
 have h : lE frE (bM FA PA PB 2).fs (bM FA' PA' PB' 0).fs = false:=lE_no (i:=0) rfl rfl (by decide)
 unfold stE
 rw [h]
 simp
theorem KS.read {w : World} {FA PA PB : Nat} {p : Int} (h : KS w FA PA PB p) : SSt w (bM FA PA PB p):=by
 refine ⟨⟨rfl,.inr ⟨FA,0,rfl,fun j x hj => ?_⟩,fun x hx => ?_⟩,⟨rfl,.inl rfl⟩,⟨rfl,.inr ⟨PA,0,rfl,fun j x hj => ?_⟩,fun x hx => ?_⟩,⟨rfl,.inl rfl⟩⟩
 ·match j,hj with
  | 0,hj =>
   obtain rfl:=Option.some.inj hj
   exact ⟨cell_at h.f,cell_at h.f,cell_at h.f,cell_at h.f⟩
  | j + 1,hj => simp [bM] at hj
 ·simp only [bM,List.mem_singleton] at hx
  subst hx
  exact ⟨⟨rfl,.inl rfl⟩,⟨rfl,.inl rfl⟩⟩
 ·match j,hj with
  | 0,hj =>
   obtain rfl:=Option.some.inj hj
   exact cell_at h.p
  | j + 1,hj => simp [bM] at hj
 ·simp only [bM,List.mem_singleton] at hx
  subst hx
  refine ⟨List.length_replicate,.inr ⟨PB,0,rfl,fun j x hj => ?_⟩⟩
  have hj : (List.replicate 4096 (0 : Int))[j]? = some x:=hj
  have hlt : j < 4096:=by have:=lt_of_get hj; rw [List.length_replicate] at this; exact this
  have:=World.ownsRow.cellAt h.b j (by omega)
  rw [Nat.zero_add,this,List.getElem?_map,hj]
  rfl
theorem KS.put {w : World} {FA PA PB : Nat} (h : KS w FA PA PB 0) : KS (w.setCell ⟨FA,1,none⟩ (.int .i64 2)) FA PA PB 2:=by
 have hne : PA ≠ FA:=fun e => by
  have h1:=h.p
  rw [e,h.f] at h1
  cases h1
 exact ⟨setBlk h.f,nb_far h.p hne,own_far h.b h.f (by decide)⟩
theorem wks5 (w : World) (hk : KindsOk w) : Calls Tryz.prog 5 #[] w fun e w' => e = .returned (.bool true) ∧ Below w.heap.size w w':=by
 go_enter Tryz.func5,Tryz.ntmps5
 go_wp2_with fail
 refine (beg15 w).mono ?_
 rintro e w1 ⟨FA,PA,PB,rfl,ks1,hFA,hb1⟩
 have B2:=below_new w1 (.cells (bV FA PA) 27)
 have kG:=nb_new w1 (.cells (bV FA PA) 27)
 have KSH:=hid (ks1.later B2)
 have HFA:=hid (And.intro hFA (nb_lt ks1.f))
 have HB:=hid (hb1.trans (B2.mono hb1.size))
 have HK:=hid (hk.later HB.out hk.pos)
 have HZ:=hid hb1.size
 have HP:=hid hk.pos
 clear ks1 hFA hb1 B2 hk
 go_wp2_with fail
 have HGA:=hid (show FA ≠ w1.heap.size ∧ w.heap.size ≤ FA ∧ 0 < FA from ⟨fun e => by have:=HFA.out.2; omega,HFA.out.1,Nat.lt_of_lt_of_le HP.out HFA.out.1⟩)
 clear HFA HZ HP
 generalize w1.alloc (.cells (bV FA PA) 27) = W0 at *
 generalize w1.heap.size = G at *
 have g0 : W0.cell? ⟨G,0,none⟩ = some (.slice (some ⟨FA,0,none⟩) 1 1):=cell_at kG
 have g1 : W0.cell? ⟨G,1,none⟩ = some (.slice none 0 0):=cell_at kG
 have g2 : W0.cell? ⟨G,2,none⟩ = some (.slice (some ⟨PA,0,none⟩) 1 1):=cell_at kG
 have g3 : W0.cell? ⟨G,3,none⟩ = some (.int .i64 0):=cell_at kG
 have g4 : W0.cell? ⟨G,4,none⟩ = some (.int .i8 1):=cell_at kG
 have g5 : W0.cell? ⟨G,5,none⟩ = some (.slice none 0 0):=cell_at kG
 have g6 : W0.cell? ⟨G,6,none⟩ = some (.int .i8 0):=cell_at kG
 have g7 : W0.cell? ⟨G,7,none⟩ = some (.int .i64 0):=cell_at kG
 have HLw2:=hid (fun (W : World) (hW : Below W0.heap.size W0 W) => (⟨later_cell hW g0,later_cell hW g1,later_cell hW g2,later_cell hW g3,later_cell hW g4,later_cell hW g5,later_cell hW g6,later_cell hW g7⟩ : W.cell? ⟨G,0,none⟩ = some (.slice (some ⟨FA,0,none⟩) 1 1) ∧ W.cell? ⟨G,1,none⟩ = some (.slice none 0 0) ∧ W.cell? ⟨G,2,none⟩ = some (.slice (some ⟨PA,0,none⟩) 1 1) ∧ W.cell? ⟨G,3,none⟩ = some (.int .i64 0) ∧ W.cell? ⟨G,4,none⟩ = some (.int .i8 1) ∧ W.cell? ⟨G,5,none⟩ = some (.slice none 0 0) ∧ W.cell? ⟨G,6,none⟩ = some (.int .i8 0) ∧ W.cell? ⟨G,7,none⟩ = some (.int .i64 0)))
 have kd : Below W0.heap.size W0 W0.drew:=(Kept.drewN (fun _ => False) W0 1).to_below (Nat.le_refl _) (fun _ _ x => x)
 have HQw2:=hid ((kno17 W0.drew).mono (fun e w' h => (⟨h.choose,h.choose_spec.choose,h.choose_spec.choose_spec.choose,h.choose_spec.choose_spec.choose_spec.1,h.choose_spec.choose_spec.choose_spec.2.1,kd.trans (h.choose_spec.choose_spec.choose_spec.2.2.mono kd.size)⟩ : ∃ TB FB CB,e = .returned (.agg (kV TB FB)) ∧ KM w' TB FB CB ∧ Below W0.heap.size W0 w')))
 have KGw2:=hid kG
 clear kd kG
 go_region_held3 (fun W => W.cell? ⟨G,0,none⟩ = some (.slice (some ⟨FA,0,none⟩) 1 1) ∧ W.cell? ⟨G,1,none⟩ = some (.slice none 0 0) ∧ W.cell? ⟨G,2,none⟩ = some (.slice (some ⟨PA,0,none⟩) 1 1) ∧ W.cell? ⟨G,3,none⟩ = some (.int .i64 0) ∧ W.cell? ⟨G,4,none⟩ = some (.int .i8 1) ∧ W.cell? ⟨G,5,none⟩ = some (.slice none 0 0) ∧ W.cell? ⟨G,6,none⟩ = some (.int .i8 0) ∧ W.cell? ⟨G,7,none⟩ = some (.int .i64 0)) (go_keep)
  (first
   | (go_at_call 17; refine HQw2.out.mono ?_; rintro e w2 ⟨TB,FB,CB,rfl,hkm,hb7⟩; obtain ⟨sg0,sg1,sg2,sg3,sg4,sg5,sg6,sg7⟩:=HLw2.out _ hb7; have HCw2:=hid (chk16_0 TB FB CB FA PA PB w2 (HK.out.later hb7 HK.out.pos) hkm (KSH.out.later hb7)); have HBw2:=hid hb7; clear hkm hb7)
   | (go_at_call 16; refine HCw2.out.mono ?_; rintro e w3 ⟨rfl,hb8⟩; have HBw3:=hid (HBw2.out.trans (hb8.mono HBw2.out.size)); obtain ⟨tg0,tg1,tg2,tg3,tg4,tg5,tg6,tg7⟩:=HLw2.out _ HBw3.out; clear hb8))
 have KS3:=KSH.out.later HBw3.out
 have hHB3:=HB.out.trans (HBw3.out.mono HB.out.size)
 have e1 : w3.cell? ⟨FA,1,none⟩ = some (.int .i64 0):=cell_at KS3.f
 have e2 : w3.frozen? ⟨FA,1,none⟩ = false:=free_at KS3.f
 have KG4:=hid (show (w3.setCell ⟨FA,1,none⟩ (.int .i64 2)).heap[G]? = some (.cells (bV FA PA) 27) from nb_far (nb_later HBw3.out KGw2.out) (fun e => HGA.out.1 e.symm))
 have HB4:=hid (below_pt (G:=FA) (j:=1) (u:=.int .i64 2) hHB3 HGA.out.2.1 (nb_lt KS3.f))
 have HK4:=hid (show KindsOk (w3.setCell ⟨FA,1,none⟩ (.int .i64 2)) from fun j v hv => (kept_set w3 FA 1 (.int .i64 2)).cell (HK.out.later HBw3.out HK.out.pos j v hv) (fun e => by have e : 0 = FA:=e; have:=HGA.out.2.2; omega))
 have KS4:=hid KS3.put
 clear KS3 hHB3 KSH HB HK HLw2 HQw2 KGw2 HCw2 HBw2 HBw3 HGA g0 g1 g2 g3 g4 g5 g6 g7 sg0 sg1 sg2 sg3 sg4 sg5 sg6 sg7
 go_wp2_with fail
 generalize w3.setCell ⟨FA,1,none⟩ (.int .i64 2) = W4 at *
 clear e1 e2 tg0 tg1 tg2 tg3 tg4 tg5 tg6 tg7
 have KSH:=KS4
 have HB:=HB4
 have HK:=HK4
 clear KS4 HB4 HK4
 have kG:=KG4.out
 clear KG4
 have h0 : W4.cell? ⟨G,0,none⟩ = some (.slice (some ⟨FA,0,none⟩) 1 1):=cell_at kG
 have h1 : W4.cell? ⟨G,1,none⟩ = some (.slice none 0 0):=cell_at kG
 have h2 : W4.cell? ⟨G,2,none⟩ = some (.slice (some ⟨PA,0,none⟩) 1 1):=cell_at kG
 have h3 : W4.cell? ⟨G,3,none⟩ = some (.int .i64 0):=cell_at kG
 have h4 : W4.cell? ⟨G,4,none⟩ = some (.int .i8 1):=cell_at kG
 have h5 : W4.cell? ⟨G,5,none⟩ = some (.slice none 0 0):=cell_at kG
 have h6 : W4.cell? ⟨G,6,none⟩ = some (.int .i8 0):=cell_at kG
 have h7 : W4.cell? ⟨G,7,none⟩ = some (.int .i64 0):=cell_at kG
 have HLw5:=hid (fun (W : World) (hW : Below W4.heap.size W4 W) => (⟨later_cell hW h0,later_cell hW h1,later_cell hW h2,later_cell hW h3,later_cell hW h4,later_cell hW h5,later_cell hW h6,later_cell hW h7⟩ : W.cell? ⟨G,0,none⟩ = some (.slice (some ⟨FA,0,none⟩) 1 1) ∧ W.cell? ⟨G,1,none⟩ = some (.slice none 0 0) ∧ W.cell? ⟨G,2,none⟩ = some (.slice (some ⟨PA,0,none⟩) 1 1) ∧ W.cell? ⟨G,3,none⟩ = some (.int .i64 0) ∧ W.cell? ⟨G,4,none⟩ = some (.int .i8 1) ∧ W.cell? ⟨G,5,none⟩ = some (.slice none 0 0) ∧ W.cell? ⟨G,6,none⟩ = some (.int .i8 0) ∧ W.cell? ⟨G,7,none⟩ = some (.int .i64 0)))
 have kd : Below W4.heap.size W4 W4.drew:=(Kept.drewN (fun _ => False) W4 1).to_below (Nat.le_refl _) (fun _ _ x => x)
 have HQw5:=hid ((kno17 W4.drew).mono (fun e w' h => (⟨h.choose,h.choose_spec.choose,h.choose_spec.choose_spec.choose,h.choose_spec.choose_spec.choose_spec.1,h.choose_spec.choose_spec.choose_spec.2.1,kd.trans (h.choose_spec.choose_spec.choose_spec.2.2.mono kd.size)⟩ : ∃ TB FB CB,e = .returned (.agg (kV TB FB)) ∧ KM w' TB FB CB ∧ Below W4.heap.size W4 w')))
 have KGw5:=hid kG
 clear kd kG
 go_region_held3 (fun W => W.cell? ⟨G,0,none⟩ = some (.slice (some ⟨FA,0,none⟩) 1 1) ∧ W.cell? ⟨G,1,none⟩ = some (.slice none 0 0) ∧ W.cell? ⟨G,2,none⟩ = some (.slice (some ⟨PA,0,none⟩) 1 1) ∧ W.cell? ⟨G,3,none⟩ = some (.int .i64 0) ∧ W.cell? ⟨G,4,none⟩ = some (.int .i8 1) ∧ W.cell? ⟨G,5,none⟩ = some (.slice none 0 0) ∧ W.cell? ⟨G,6,none⟩ = some (.int .i8 0) ∧ W.cell? ⟨G,7,none⟩ = some (.int .i64 0)) (go_keep)
  (first
   | (go_at_call 17; refine HQw5.out.mono ?_; rintro e w5 ⟨TB,FB,CB,rfl,hkm,hb7⟩; obtain ⟨sh0,sh1,sh2,sh3,sh4,sh5,sh6,sh7⟩:=HLw5.out _ hb7; have HCw5:=hid (chk16_2 TB FB CB FA PA PB w5 (HK.out.later hb7 HK.out.pos) hkm (KSH.out.later hb7)); have HBw5:=hid hb7; clear hkm hb7)
   | (go_at_call 16; refine HCw5.out.mono ?_; rintro e w6 ⟨rfl,hb8⟩; have HBw6:=hid (HBw5.out.trans (hb8.mono HBw5.out.size)); obtain ⟨th0,th1,th2,th3,th4,th5,th6,th7⟩:=HLw5.out _ HBw6.out; clear hb8))
 have ks6:=KSH.out.later HBw6.out
 have HB6:=hid (HB.out.trans (HBw6.out.mono HB.out.size))
 have kG:=nb_later HBw6.out KGw5.out
 have KS6:=hid ks6
 clear ks6 KSH HB HK HLw5 HQw5 KGw5 HCw5 HBw5 HBw6 h0 h1 h2 h3 h4 h5 h6 h7 sh0 sh1 sh2 sh3 sh4 sh5 sh6 sh7 th0 th1 th2 th3 th4 th5 th6 th7
 go_wp2_with fail
 have k0 : w6.cell? ⟨G,0,none⟩ = some (.slice (some ⟨FA,0,none⟩) 1 1):=cell_at kG
 have k1 : w6.cell? ⟨G,1,none⟩ = some (.slice none 0 0):=cell_at kG
 have k2 : w6.cell? ⟨G,2,none⟩ = some (.slice (some ⟨PA,0,none⟩) 1 1):=cell_at kG
 have k3 : w6.cell? ⟨G,3,none⟩ = some (.int .i64 0):=cell_at kG
 have k4 : w6.cell? ⟨G,4,none⟩ = some (.int .i8 1):=cell_at kG
 have k5 : w6.cell? ⟨G,5,none⟩ = some (.slice none 0 0):=cell_at kG
 have k6 : w6.cell? ⟨G,6,none⟩ = some (.int .i8 0):=cell_at kG
 have k7 : w6.cell? ⟨G,7,none⟩ = some (.int .i64 0):=cell_at kG
 have HL:=hid (fun (W : World) (hW : Below w6.heap.size w6 W) => (⟨later_cell hW k0,later_cell hW k1,later_cell hW k2,later_cell hW k3,later_cell hW k4,later_cell hW k5,later_cell hW k6,later_cell hW k7⟩ : W.cell? ⟨G,0,none⟩ = some (.slice (some ⟨FA,0,none⟩) 1 1) ∧ W.cell? ⟨G,1,none⟩ = some (.slice none 0 0) ∧ W.cell? ⟨G,2,none⟩ = some (.slice (some ⟨PA,0,none⟩) 1 1) ∧ W.cell? ⟨G,3,none⟩ = some (.int .i64 0) ∧ W.cell? ⟨G,4,none⟩ = some (.int .i8 1) ∧ W.cell? ⟨G,5,none⟩ = some (.slice none 0 0) ∧ W.cell? ⟨G,6,none⟩ = some (.int .i8 0) ∧ W.cell? ⟨G,7,none⟩ = some (.int .i64 0)))
 have kd : Below w6.heap.size w6 w6.drew:=(Kept.drewN (fun _ => False) w6 1).to_below (Nat.le_refl _) (fun _ _ x => x)
 have HQ:=hid ((beg15 w6.drew).mono (fun e w' h => (⟨h.choose,h.choose_spec.choose,h.choose_spec.choose_spec.choose,h.choose_spec.choose_spec.choose_spec.1,h.choose_spec.choose_spec.choose_spec.2.1,kd.trans (h.choose_spec.choose_spec.choose_spec.2.2.2.mono kd.size)⟩ : ∃ FA' PA' PB',e = .returned (.agg (bV FA' PA')) ∧ KS w' FA' PA' PB' 0 ∧ Below w6.heap.size w6 w')))
 clear kd kG
 go_region_held3 (fun W => W.cell? ⟨G,0,none⟩ = some (.slice (some ⟨FA,0,none⟩) 1 1) ∧ W.cell? ⟨G,1,none⟩ = some (.slice none 0 0) ∧ W.cell? ⟨G,2,none⟩ = some (.slice (some ⟨PA,0,none⟩) 1 1) ∧ W.cell? ⟨G,3,none⟩ = some (.int .i64 0) ∧ W.cell? ⟨G,4,none⟩ = some (.int .i8 1) ∧ W.cell? ⟨G,5,none⟩ = some (.slice none 0 0) ∧ W.cell? ⟨G,6,none⟩ = some (.int .i8 0) ∧ W.cell? ⟨G,7,none⟩ = some (.int .i64 0)) (go_keep)
  (first
   | (go_at_call 15; refine HQ.out.mono ?_; rintro e w7 ⟨FA',PA',PB',rfl,hks,hb7⟩; obtain ⟨m0,m1,m2,m3,m4,m5,m6,m7⟩:=HL.out _ hb7; have HC:=hid (eqS8 (bM FA PA PB 2) (bM FA' PA' PB' 0) w7 (KS6.out.later hb7).read hks.read (bM_b _ _ _ _) (bM_b _ _ _ _)); rw [bM_far,bM_v,bM_v] at HC; have HB7:=hid hb7; clear hks hb7)
   | (go_at_call 8; refine HC.out.mono ?_; rintro e w8 ⟨rfl,hb8⟩; have HB8:=hid (HB7.out.trans (hb8.mono HB7.out.size)); obtain ⟨n0,n1,n2,n3,n4,n5,n6,n7⟩:=HL.out _ HB8.out; clear hb8))
 go_wp2_with fail
 go_ret
 exact ⟨rfl,HB6.out.trans (HB8.out.mono HB6.out.size)⟩
end Go.Proofs.YtmgjhfookhaajaaGreatDoor
