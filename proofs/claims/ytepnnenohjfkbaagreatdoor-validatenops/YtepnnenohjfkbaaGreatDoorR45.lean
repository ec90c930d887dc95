/-
  Texts Yl.
-/
import Derived.BigQuiet
import Derived.Deep.CutRange
import Derived.Deep.QuietTactic
import Derived.Test.YtepnnenohjfkbaaGreatDoorR44
set_option linter.unusedVariables false
set_option maxRecDepth 100000
set_option maxHeartbeats 16000000
namespace Go.Proofs.YtepnnenohjfkbaaGreatDoor
open Go.RowKit
theorem nops_law (m : MM) (f p : Int) (w : World) (hf : -9223372036854775808 ≤ f ∧ f ≤ 9223372036854775807) (hg : -9223372036854775808 ≤ p ∧ p ≤ 9223372036854775807) (hk : KindsOk w) (hp : 0 < w.heap.size) (hm : ∀ R g',w.heap.size ≤ R → w.heap.size ≤ g' → MOk w R g' m) (hcap : ∀ x ∈ m.fns,x.2.2.1.2.1 ≤ x.2.2.1.2.2) (hsz : SzB w m) :
  Calls Tryz.prog 5 #[.agg (mV m),.int .i64 f,.int .i64 p] w fun e w' => e = .returned (.bool true) ∧ Below w.heap.size w w':=by
 have HK:=hid (fun (W : World) (hb : Below w.heap.size w W) => And.intro (hk.later hb hp) (Nat.lt_of_lt_of_le hp hb.size))
 have HM:=hid (fun (W : World) (hb : Below w.heap.size w W) (R g' : Nat) (h1 : W.heap.size ≤ R) (h2 : W.heap.size ≤ g') => (hm R g' (Nat.le_trans hb.size h1) (Nat.le_trans hb.size h2)).later hb)
 have HS:=hid (fun (W : World) (hb : Below w.heap.size w W) => hsz.later hb)
 have HC:=hid hcap
 have nf:=(hm w.heap.size w.heap.size (Nat.le_refl _) (Nat.le_refl _)).pf.1
 have hfn:=hsz.fn
 have B0:=below_new w (.cells (mV m) 29)
 have bx : (w.alloc (.cells (mV m) 29)).heap[w.heap.size]? = some (.cells (mV m) 29):=heap_alloc_new w (.cells (mV m) 29)
 have HW : w.alloc (.cells #[.slice m.ta m.tn m.tc,.slice m.ha m.hn m.hc,.slice m.ga m.gn m.gc,.int .i64 m.fi,.int .i64 m.mo,.slice m.fa m.fn m.fc,.slice m.da m.dn m.dc,.slice m.ea m.en m.ec] 29) = w.alloc (.cells (mV m) 29):=rfl
 clear hk hm hsz hcap
 generalize w.alloc (.cells (mV m) 29) = W0 at *
 have HB0:=hid B0
 have HBX:=hid bx
 clear B0 bx
 show Calls Tryz.prog 5 #[.agg #[.slice m.ta m.tn m.tc,.slice m.ha m.hn m.hc,.slice m.ga m.gn m.gc,.int .i64 m.fi,.int .i64 m.mo,.slice m.fa m.fn m.fc,.slice m.da m.dn m.dc,.slice m.ea m.en m.ec],.int .i64 f,.int .i64 p] w _
 go_enter Tryz.func5,Tryz.ntmps5
 go_wp2_with fail
 refine (works8 W0 (HK.out W0 HB0.out).1 (HK.out W0 HB0.out).2).mono ?_
 rintro e w1 ⟨rfl,hb⟩
 have HB1:=hid (HB0.out.trans (hb.mono HB0.out.size))
 have HBX:=hid (blk_later hb HBX.out)
 clear hb HB0 HW
 have hok:=HM.out w1 HB1.out w1.heap.size w1.heap.size (Nat.le_refl _) (Nat.le_refl _)
 have H9:=size9s m w1 (HS.out w1 HB1.out) hok.pt hok.pf hok.pd hok.pe
 unfold mV at H9
 have HH9:=hid H9
 clear H9 hok
 have hc8:=eight_cells HBX.out
 obtain ⟨⟨m0,m1,m2,m3,m4,m5,m6,m7⟩,_⟩:=hc8
 go_wp2_with fail
 clear m0 m1 m2 m3 m4 m5 m6 m7
 refine HH9.out.mono ?_
 rintro e w2 ⟨s,rfl,hb,hs⟩
 have HB2:=hid (HB1.out.trans (hb.mono HB1.out.size))
 have HBX:=hid (blk_later hb HBX.out)
 have HSS:=hid hs
 clear hb HH9 HB1 hs
 by_cases h4 : s ≤ 4000
 rotate_left
 ·have h4' : (4000 : Int) < (s : Int):=by omega
  go_wp2_with fail
  go_ret
  exact ⟨rfl,HB2.out⟩
 have h4' : ¬ (4000 : Int) < (s : Int):=by omega
 have HSS:=hid (show fsum m.fns + dsum m.data ≤ 4000 from HSS.out h4)
 have H15:=function15 m f w2 (by omega) (by omega) (HK.out w2 HB2.out).1 (HK.out w2 HB2.out).2 (HM.out w2 HB2.out) HC.out
 unfold mV at H15
 have HH15:=hid H15
 clear H15
 have hc8:=eight_cells HBX.out
 obtain ⟨⟨m0,m1,m2,m3,m4,m5,m6,m7⟩,_⟩:=hc8
 go_wp2_with fail
 clear m0 m1 m2 m3 m4 m5 m6 m7
 refine HH15.out.mono ?_
 intro e w3 hO
 rcases hO with ⟨h1,rfl,hb⟩ | ⟨_,h1,rfl,hb⟩ | ⟨h0,x,hf0,hx,hO⟩
 ·have HB3:=hid (HB2.out.trans (hb.mono HB2.out.size))
  clear hb
  generalize chkMM m = ce at *
  have hne : (ce != 0) = true:=by simpa using h1
  have hne' : (ce == 0) = false:=by simpa using h1
  clear h1
  unfold zT
  have BZ:=hid (HB3.out.trans ((below_new w3 (.cells #[.slice none 0 0,.slice none 0 0,.slice none 0 0,.slice none 0 0,.int .i64 0] 39)).mono HB3.out.size))
  have BQ:=hid (fun (q : Nat) => (below_drewN (w3.alloc (.cells #[.slice none 0 0,.slice none 0 0,.slice none 0 0,.slice none 0 0,.int .i64 0] 39)) q).mono (show w.heap.size ≤ (w3.alloc (.cells #[.slice none 0 0,.slice none 0 0,.slice none 0 0,.slice none 0 0,.int .i64 0] 39)).heap.size by have:=BZ.out.size; exact this))
  go_wp2_with fail
  go_quiet (fail)
  go_wp2_with fail
  go_ret
  exact ⟨rfl,BZ.out.trans (BQ.out _)⟩
 ·have HB3:=hid (HB2.out.trans (hb.mono HB2.out.size))
  clear hb
  have hne : ((1 : Int) != 0) = true:=rfl
  have hne' : ((1 : Int) == 0) = false:=rfl
  clear h1
  unfold zT
  have BZ:=hid (HB3.out.trans ((below_new w3 (.cells #[.slice none 0 0,.slice none 0 0,.slice none 0 0,.slice none 0 0,.int .i64 0] 39)).mono HB3.out.size))
  have BQ:=hid (fun (q : Nat) => (below_drewN (w3.alloc (.cells #[.slice none 0 0,.slice none 0 0,.slice none 0 0,.slice none 0 0,.int .i64 0] 39)) q).mono (show w.heap.size ≤ (w3.alloc (.cells #[.slice none 0 0,.slice none 0 0,.slice none 0 0,.slice none 0 0,.int .i64 0] 39)).heap.size by have:=BZ.out.size; exact this))
  go_wp2_with fail
  go_quiet (fail)
  go_wp2_with fail
  go_ret
  exact ⟨rfl,BZ.out.trans (BQ.out _)⟩
 have hb:=hO.1
 have HB3:=hid (HB2.out.trans (hb.mono HB2.out.size))
 have HBX:=hid (blk_later hb HBX.out)
 have hb2:=hb
 rcases hO.2 with ⟨h1,rfl⟩ | ⟨hG,P,Q,hPQ,_,⟨j,hj,_,h1,rfl⟩ | ⟨hz,SH,EN,EL,FL,l1,l2,l3,l4,_,_,_,_,rfl,r1,r2,r3,r4⟩⟩
 ·clear hO hb hb2
  generalize (res (opF (x.2.2.2.map inx)) x.2.2.1.2.1 0).1 = ce at *
  generalize (res (opF (x.2.2.2.map inx)) x.2.2.1.2.1 0).2 = cp at *
  have hne : (ce != 0) = true:=by simpa using h1
  have hne' : (ce == 0) = false:=by simpa using h1
  clear h1
  unfold zT
  have BZ:=hid (HB3.out.trans ((below_new w3 (.cells #[.slice none 0 0,.slice none 0 0,.slice none 0 0,.slice none 0 0,.int .i64 0] 39)).mono HB3.out.size))
  have BQ:=hid (fun (q : Nat) => (below_drewN (w3.alloc (.cells #[.slice none 0 0,.slice none 0 0,.slice none 0 0,.slice none 0 0,.int .i64 0] 39)) q).mono (show w.heap.size ≤ (w3.alloc (.cells #[.slice none 0 0,.slice none 0 0,.slice none 0 0,.slice none 0 0,.int .i64 0] 39)).heap.size by have:=BZ.out.size; exact this))
  go_wp2_with fail
  go_quiet (fail)
  go_wp2_with fail
  go_ret
  exact ⟨rfl,BZ.out.trans (BQ.out _)⟩
 ·clear hO hb hb2 hPQ hG hj
  generalize erA m (strBytes (P ++ x.2.1)) (x.2.2.2.map inx) Q x.2.2.1.2.1 j = ce at *
  have hne : (ce != 0) = true:=by simpa using h1
  have hne' : (ce == 0) = false:=by simpa using h1
  clear h1
  unfold zT
  have BZ:=hid (HB3.out.trans ((below_new w3 (.cells #[.slice none 0 0,.slice none 0 0,.slice none 0 0,.slice none 0 0,.int .i64 0] 39)).mono HB3.out.size))
  have BQ:=hid (fun (q : Nat) => (below_drewN (w3.alloc (.cells #[.slice none 0 0,.slice none 0 0,.slice none 0 0,.slice none 0 0,.int .i64 0] 39)) q).mono (show w.heap.size ≤ (w3.alloc (.cells #[.slice none 0 0,.slice none 0 0,.slice none 0 0,.slice none 0 0,.int .i64 0] 39)).heap.size by have:=BZ.out.size; exact this))
  go_wp2_with fail
  go_quiet (fail)
  go_wp2_with fail
  go_ret
  exact ⟨rfl,BZ.out.trans (BQ.out _)⟩
 obtain ⟨kf,rfl⟩ : ∃ k : Nat,f = (k : Int):=⟨f.toNat,by omega⟩
 rw [Int.toNat_natCast] at hx
 have hTb : Tb m x P Q w3 SH EN EL FL:=⟨r1,r2,r3,r4⟩
 obtain ⟨N,hN⟩ : ∃ N,N = x.2.2.1.2.1:=⟨_,rfl⟩
 have HG:=hid (And.intro h0 (And.intro hG (And.intro hPQ hz)))
 have HX:=hid (And.intro hx hN)
 rw [← hN]
 obtain ⟨hi,hhi⟩ : ∃ hi : Nat,hi = (stA m (strBytes (P ++ x.2.1)) (x.2.2.2.map inx) Q N N).hi:=⟨_,rfl⟩
 rw [← hhi]
 have HHI:=hid hhi
 have B5:=below_new w3 (.cells #[.slice (some ⟨SH,0,none⟩) N N,.slice (some ⟨EN,0,none⟩) N N,.slice (some ⟨EL,0,none⟩) N N,.slice (some ⟨FL,0,none⟩) N N,.int .i64 hi] 39)
 have b5:=heap_alloc_new w3 (.cells #[.slice (some ⟨SH,0,none⟩) N N,.slice (some ⟨EN,0,none⟩) N N,.slice (some ⟨EL,0,none⟩) N N,.slice (some ⟨FL,0,none⟩) N N,.int .i64 hi] 39)
 have HB5:=hid (HB3.out.trans (B5.mono HB3.out.size))
 have HBX:=hid (blk_later B5 HBX.out)
 have HTb:=hid (hTb.keep (kept_of B5))
 have t0 : (w3.alloc (.cells #[.slice (some ⟨SH,0,none⟩) N N,.slice (some ⟨EN,0,none⟩) N N,.slice (some ⟨EL,0,none⟩) N N,.slice (some ⟨FL,0,none⟩) N N,.int .i64 hi] 39)).cell? ⟨w3.heap.size,0,none⟩ = some (.slice (some ⟨SH,0,none⟩) N N):=cell_at b5
 have HTA:=hid b5
 have hN40 : N ≤ 2048:=by
  obtain ⟨_,_,_,_,_,_,_,h7,_⟩:=fn_of h0 (HM.out w3 HB3.out w3.heap.size w3.heap.size (Nat.le_refl _) (Nat.le_refl _)) hx
  omega
 clear hO hb hb2 hTb r1 r2 r3 r4 hz hPQ hG h0 l1 l2 l3 l4 B5 b5 hhi HH15 HB2 hN hx
 have BQ:=hid (fun (q : Nat) => (below_drewN (w3.alloc (.cells #[.slice (some ⟨SH,0,none⟩) N N,.slice (some ⟨EN,0,none⟩) N N,.slice (some ⟨EL,0,none⟩) N N,.slice (some ⟨FL,0,none⟩) N N,.int .i64 hi] 39)) q).mono HB5.out.size)
 have hc5:=cell_at (i:=5) HBX.out
 have m5 : (w3.alloc (.cells #[.slice (some ⟨SH,0,none⟩) N N,.slice (some ⟨EN,0,none⟩) N N,.slice (some ⟨EL,0,none⟩) N N,.slice (some ⟨FL,0,none⟩) N N,.int .i64 hi] 39)).cell? ⟨w.heap.size,5,none⟩ = some (.slice m.fa m.fn m.fc):=hc5
 clear hc5
 by_cases hq : p < 0
 ·have d1 : decide (p < 0) = true:=by simpa using hq
  clear hq
  go_wp2_with fail
  go_quiet (fail)
  go_wp2_with fail
  go_ret
  exact ⟨rfl,HB5.out.trans (BQ.out _)⟩
 have d1 : decide (p < 0) = false:=by simpa using hq
 have hp0 : ¬ p < 0:=hq
 clear hq
 by_cases hq : (N : Int) ≤ p
 ·have d2 : decide ((N : Int) ≤ p) = true:=by simpa using hq
  clear hq
  go_wp2_with fail
  go_quiet (fail)
  go_wp2_with fail
  go_ret
  exact ⟨rfl,HB5.out.trans (BQ.out _)⟩
 have d2 : decide ((N : Int) ≤ p) = false:=by simpa using hq
 have hp1 : ¬ (N : Int) ≤ p:=hq
 clear hq
 obtain ⟨kp,rfl⟩ : ∃ k : Nat,p = (k : Int):=⟨p.toNat,by omega⟩
 have hkp : kp < N:=by omega
 have hok:=HM.out _ HB5.out _ _ (Nat.le_refl _) (Nat.le_refl _)
 have hlf:=lt_of_get HX.out.1
 have hkf : (kf : Int) < (m.fn : Int):=by omega
 obtain ⟨b,off,hfa,hat⟩:=hok.pf.2.resolve_left (by omega)
 obtain ⟨_,_,g2⟩:=hat kf x HX.out.1
 have hfr:=hok.fr kf x HX.out.1
 have HIN:=hid hfr.2
 rw [← HX.out.2] at g2
 have HFA:=hid hfa
 rw [hfa] at m5
 rw [hfa]
 clear hok hat hfa hfr
 generalize hca : x.2.2.1.1 = ca at g2 ⊢
 generalize x.2.2.1.2.2 = cc at g2 ⊢
 have HCA:=hid hca
 clear hca
 go_wp2_with fail
 obtain ⟨TA,hTA⟩ : ∃ TA,TA = w3.heap.size:=⟨_,rfl⟩
 rw [← hTA] at HTA t0 ⊢
 have HTAL:=hid (show TA < (w3.alloc (.cells #[.slice (some ⟨SH,0,none⟩) N N,.slice (some ⟨EN,0,none⟩) N N,.slice (some ⟨EL,0,none⟩) N N,.slice (some ⟨FL,0,none⟩) N N,.int .i64 hi] 39)).heap.size by rw [hTA]; simp)
 clear BQ HB3
 generalize w3.alloc (.cells #[.slice (some ⟨SH,0,none⟩) N N,.slice (some ⟨EN,0,none⟩) N N,.slice (some ⟨EL,0,none⟩) N N,.slice (some ⟨FL,0,none⟩) N N,.int .i64 hi] 39) = W5 at *
 clear hTA
 have HBQ:=hid (fun (q : Nat) => below_drewN W5 q)
 go_quiet (fail)
 obtain ⟨Wq,hWq⟩ : ∃ Wq,Wq = W5.drewN nq:=⟨_,rfl⟩
 rw [← hWq]
 have hbq : Below W5.heap.size W5 Wq:=by rw [hWq]; exact HBQ.out nq
 clear HBQ hWq
 have HBq:=hid (HB5.out.trans (hbq.mono HB5.out.size))
 have HBX:=hid (blk_later hbq HBX.out)
 have HTb:=hid (HTb.out.keep (kept_of hbq))
 have HTA:=hid (blk_later hbq HTA.out)
 have HTAL:=hid (Nat.lt_of_lt_of_le HTAL.out hbq.size)
 have m5:=later_cell hbq m5
 have t0:=later_cell hbq t0
 have g2:=later_cell hbq g2
 have hin:=HIN.out.1.kept (kept_of (S:=fun _ => False) hbq) (fun _ _ _ _ x => x)
 rw [HCA.out,← HX.out.2] at hin
 obtain ⟨cb,co,hcae,hcod⟩:=hin.2.resolve_left (by omega)
 subst hcae
 have HCOD:=hid hcod
 have HXL:=hid hin.1
 clear hbq hin hcod HIN
 go_upto_region 8 with fail
 obtain ⟨AW,hAW⟩ : ∃ AW : Bool,AW = decide (0 < kp ∧ (((x.2.2.2.map inx).getD (kp - 1) dx).c = 7 ∨ ((x.2.2.2.map inx).getD (kp - 1) dx).c = 9 ∨ ((x.2.2.2.map inx).getD (kp - 1) dx).c = 10 ∨ ((x.2.2.2.map inx).getD (kp - 1) dx).c = 0)):=⟨_,rfl⟩
 have HAW:=hid hAW
 clear hAW
 go_cut [74] from 19 to 75 (fun b W => b = .bool AW ∧ W = Wq)
 case first =>
  by_cases h0 : kp = 0
  ·have e : AW = false:=HAW.out.trans (decide_eq_false (fun h => by omega))
   have HE2:=hid e
   clear e
   subst h0
   go_wp2_with fail
   go_meet
   exact ⟨by rw [HE2.out],rfl⟩
  ·obtain ⟨k1,rfl⟩ : ∃ k1,kp = k1 + 1:=⟨kp - 1,by omega⟩
   obtain ⟨y,hy⟩ : ∃ y,x.2.2.2[k1]? = some y:=⟨_,List.getElem?_eq_getElem (by have:=HXL.out; omega)⟩
   have hc:=(HCOD.out k1 y hy).1
   have e : ((x.2.2.2.map inx).getD (k1 + 1 - 1) dx).c = y.1:=by rw [Nat.add_sub_cancel,getD_inx hy]; rfl
   have HA:=hid (away18 y.1 Wq)
   have e2 : AW = decide (y.1 = 7 ∨ y.1 = 9 ∨ y.1 = 10 ∨ y.1 = 0):=by
    rw [HAW.out,e]; simp
   rw [← e2] at HA
   clear e e2 h0 hy
   generalize y.1 = yc at *
   have hlt : (k1 : Int) < (N : Int):=by omega
   go_wp2_with fail
   refine HA.out.mono ?_
   rintro e w' ⟨rfl,hw⟩
   have hw':=hw.symm; subst hw'; clear hw
   go_wp2_with fail
   go_meet
   exact ⟨rfl,rfl⟩
 case rest =>
  obtain ⟨hcu,hwc⟩:=hcut
  subst hcu
  have hwc':=hwc.symm; subst hwc'; clear hwc
  cases hA : AW
  rotate_left
  ·go_wp2_with fail
   go_ret
   exact ⟨rfl,HBq.out⟩
  have HBB:=hid (show kp = 0 ∨ ¬ (((x.2.2.2.map inx).getD (kp - 1) dx).c = 7 ∨ ((x.2.2.2.map inx).getD (kp - 1) dx).c = 9 ∨ ((x.2.2.2.map inx).getD (kp - 1) dx).c = 10 ∨ ((x.2.2.2.map inx).getD (kp - 1) dx).c = 0) from by
   have h:=of_decide_eq_false (HAW.out.symm.trans hA)
   by_cases hk0 : kp = 0
   ·exact .inl hk0
   ·exact .inr (fun h' => h ⟨by omega,h'⟩))
  clear hA HAW
  have H16:=copyMod m Wq (mco_of HG.out.1 (HM.out Wq HBq.out _ _ (Nat.le_refl _) (Nat.le_refl _)) HC.out (by have:=HSS.out; omega))
  unfold mV at H16
  rw [HFA.out] at H16
  have HH16:=hid H16
  clear H16
  have hc8:=eight_cells HBX.out
  obtain ⟨⟨m0,m1,m2,m3,m4,m5',m6,m7⟩,_⟩:=hc8
  rw [HFA.out] at m5'
  go_wp2_with fail
  clear m0 m1 m2 m3 m4 m5' m6 m7 m5 g2 t0
  refine HH16.out.mono ?_
  rintro e w6 ⟨n,rfl,hMC,hb6⟩
  have HB6:=hid (HBq.out.trans (hb6.mono HBq.out.size))
  have hnf : n.fn = m.fn:=hMC.fn
  obtain ⟨FB,fcur,hfaN,hFB,hFbk,hFc⟩:=hMC.fblk (by omega)
  obtain ⟨y,hy⟩ : ∃ y,n.fns[kf]? = some y:=⟨_,List.getElem?_eq_getElem (by have:=hMC.fl; omega)⟩
  obtain ⟨u2,hu2⟩:=hFc (kf * 3 + 2) (by omega)
  obtain ⟨o7,ho7⟩ : ∃ o7,o7 = Obj.cells #[.slice n.ta n.tn n.tc,.slice n.ha n.hn n.hc,.slice n.ga n.gn n.gc,.int .i64 n.fi,.int .i64 n.mo,.slice (some ⟨FB,0,none⟩) m.fn n.fc,.slice n.da n.dn n.dc,.slice n.ea n.en n.ec] 29:=⟨_,rfl⟩
  have b7:=below_new w6 o7
  have n7:=heap_alloc_new w6 o7
  have B7 : Below Wq.heap.size Wq (w6.alloc o7):=hb6.trans (b7.mono hb6.size)
  have HTb7:=hid (HTb.out.keep (kept_of B7))
  have HTA7:=hid (blk_later B7 HTA.out)
  have HCO7:=hid (fun (j : Nat) (z : InM) (hj : x.2.2.2[j]? = some z) => And.intro (later_cell B7 (HCOD.out j z hj).1) (And.intro (later_cell B7 (HCOD.out j z hj).2.1) (later_cell B7 (HCOD.out j z hj).2.2)))
  have HMC7:=hid (hMC.keep (kept_of b7))
  have HF7:=hid (And.intro hfaN (And.intro hFB (blk_later b7 hFbk)))
  have HU2:=hid (later_cell b7 hu2)
  have HB7:=hid (HBq.out.trans (B7.mono HBq.out.size))
  have HNB:=hid n7
  have HY:=hid hy
  have HO7:=hid ho7
  have hFl : FB < w6.heap.size:=blk_lt hFbk
  have hqs : Wq.heap.size ≤ w6.heap.size:=hb6.size
  rw [hfaN,hnf]
  clear hMC hfaN hFB hFbk hFc hy hu2 b7 n7 B7 hb6 ho7 HB6 HH16 HTb HTA HCOD
  go_upto_region 13 with fail
  rw [← HO7.out]
  obtain ⟨NB,hNB⟩ : ∃ NB,NB = w6.heap.size:=⟨_,rfl⟩
  rw [← hNB] at HNB hFl hqs ⊢
  have HNBl:=hid (show NB < (w6.alloc o7).heap.size by rw [hNB]; simp)
  clear hNB
  generalize w6.alloc o7 = W7 at *
  obtain ⟨base,hbase⟩ : ∃ base,base = W7.heap.size:=⟨_,rfl⟩
  obtain ⟨sh,hsh⟩ : ∃ sh,sh = (stA m (strBytes (P ++ x.2.1)) (x.2.2.2.map inx) Q N N).sh:=⟨_,rfl⟩
  have hT7:=HTb7.out.sh
  rw [← HX.out.2,← hsh] at hT7
  have HT7:=hid hT7
  have hshl : sh.length = N:=by have:=hT7.1; simpa using this
  have HSHL:=hid hshl
  have HSH:=hid hsh
  have HBAS:=hid hbase
  obtain ⟨sp,hsp⟩ : ∃ sp,sh[kp]? = some sp:=⟨_,List.getElem?_eq_getElem (by omega)⟩
  have HSP:=hid hsp
  have HNL0:=hid (NL.start base kp (x.2.2.2.map inx) sh sp W7)
  clear hT7 hshl hsh hbase hsp
  go_wp2_with fail
  go_loopw [13,14,15] (fun v13 v14 i wr => ∃ k : Nat,k ≤ N ∧ i = .int .i64 k ∧ NL base kp k (x.2.2.2.map inx) sh sp v13 v14 wr ∧ Below W7.heap.size W7 wr) (fun _ _ i _ => N - (intOf i).toNat)
  case atStart => exact ⟨0,by omega,rfl,HNL0.out,Below.refl _ _⟩
  case round =>
   obtain ⟨k,hk,rfl,hnl,hbw⟩:=hrel
   obtain ⟨a13,c13,a14,c14,rfl,rfl⟩:=hnl.slices
   have HNL:=hid hnl
   have HBW:=hid hbw
   by_cases hkN : k < N
   ·have hkN' : (k : Int) < (N : Int):=by omega
    obtain ⟨z,hz⟩ : ∃ z,x.2.2.2[k]? = some z:=⟨_,List.getElem?_eq_getElem (by have:=HXL.out; omega)⟩
    obtain ⟨sk,hsk⟩ : ∃ sk,sh[k]? = some sk:=⟨_,List.getElem?_eq_getElem (by have:=HSHL.out; omega)⟩
    have HCEL:=hid (fun (W : World) (hb : Below W7.heap.size W7 W) => And.intro (later_cell hb (cell_at (i:=0) HTA7.out : W7.cell? ⟨TA,0,none⟩ = some (.slice (some ⟨SH,0,none⟩) N N))) (And.intro (later_cell hb (show W7.cell? ⟨SH,k,none⟩ = some (.string sk) from (Row.cell HT7.out k hkN).trans (by rw [List.getElem?_map,hsk]; rfl))) (And.intro (later_cell hb (HCO7.out k z hz).1) (And.intro (later_cell hb (HCO7.out k z hz).2.1) (later_cell hb (HCO7.out k z hz).2.2)))))
    have HZ:=hid (show (x.2.2.2.map inx)[k]? = some (inx z) by rw [List.getElem?_map,hz]; rfl)
    have HSK:=hid hsk
    have hcn : cntK kp k ≤ 2049:=by unfold cntK; split <;> omega
    have hbs : base ≤ wr.heap.size:=by rw [HBAS.out]; exact hbw.size
    obtain ⟨zc,za,⟨zla,zln,zlc⟩,zl⟩:=z
    clear hnl hbw hz hsk
    have RM0:=hid HNL.out.more
    have RW0:=hid HNL.out.want
    by_cases hkk : k = kp
    ·have HKK:=hid hkk
     have hkk2:=hkk.symm; subst hkk2; clear hkk
     have hsks : sk = sp:=by have h1:=HSK.out; have h2:=HSP.out; rw [h1] at h2; exact Option.some.inj h2
     subst hsks
     have hee : ((kp : Int) == (kp : Int)) = true:=by simp
     obtain ⟨o1,ho1⟩ : ∃ o1,o1 = Obj.cells #[.int .u8 1,.int .i64 0,.slice none 0 0] 51:=⟨_,rfl⟩
     have ba1:=below_new wr o1
     have RM1:=hid (own_laterW RM0.out ba1)
     have RW1:=hid (own_laterW RW0.out ba1)
     have hs1 : base ≤ (wr.alloc o1).heap.size:=by have:=ba1.size; omega
     have HN1:=hid (news3 (w:=wr) ho1)
     have HO1:=hid ho1
     have HBA1:=hid ba1
     clear ba1 ho1
     go_upto_region 18 with (first | (at_builtin; rw [← HO1.out]; refine app_oneI _ rfl (.tmp 87) (.tmp 89) rfl base (cntK kp kp) _ _ rfl RM1.out hs1 ⟨wr.heap.size,0,none⟩ nopX rfl HN1.out (by omega) ?_; intro b1 d1 w1 hr1 hb1 hk1; have XM1:=hid hr1; have XW1:=hid (hk1 _ _ _ _ _ _ (by decide) RW1.out); have XB1:=hid hb1; clear hr1 hb1 hk1 hs1 HN1 RM1 RW1 HO1))
     have hbw1 : Below W7.heap.size W7 w1:=HBW.out.trans ((HBA1.out.mono (by have:=HBW.out.size; exact this)).trans (by rw [← HBAS.out]; exact XB1.out))
     have hbs1 : base ≤ w1.heap.size:=by rw [HBAS.out]; exact hbw1.size
     have HBW1:=hid hbw1
     clear hbw1
     obtain ⟨e1,e2,e3,e4,e5⟩:=HCEL.out w1 HBW1.out
     obtain ⟨o2,ho2⟩ : ∃ o2,o2 = Obj.cells #[.string sk] 9:=⟨_,rfl⟩
     have ba2:=below_new w1 o2
     have RM2:=hid (own_laterW XM1.out ba2)
     have RW2:=hid (own_laterW XW1.out ba2)
     have hs2 : base ≤ (w1.alloc o2).heap.size:=by have:=ba2.size; omega
     have HN2:=hid (news1 (w:=w1) ho2)
     have HO2:=hid ho2
     have HBA2:=hid ba2
     clear ba2 ho2
     go_upto_region 19 with (first | (at_builtin; rw [← HO2.out]; refine app_oneT _ rfl (.tmp 91) (.tmp 97) rfl base (cntK kp kp) _ _ rfl RW2.out hs2 ⟨w1.heap.size,0,none⟩ sk rfl HN2.out (by omega) ?_; intro b2 d2 w2 hr2 hb2 hk2; have XW2:=hid hr2; have XM2:=hid (hk2 _ _ _ _ _ _ (by decide) RM2.out); have XB2:=hid hb2; clear hr2 hb2 hk2 hs2 HN2 RM2 RW2 HO2))
     have hbw2 : Below W7.heap.size W7 w2:=HBW1.out.trans ((HBA2.out.mono (by have:=HBW1.out.size; exact this)).trans (by rw [← HBAS.out]; exact XB2.out))
     have hbs2 : base ≤ w2.heap.size:=by rw [HBAS.out]; exact hbw2.size
     have HBW2:=hid hbw2
     clear hbw2
     clear e1 e2 e3 e4 e5
     obtain ⟨e1,e2,e3,e4,e5⟩:=HCEL.out w2 HBW2.out
     simp only at e3 e4 e5
     obtain ⟨o3,ho3⟩ : ∃ o3,o3 = Obj.cells #[.int .u8 zc,.int .i64 za,.slice zla zln zlc] 51:=⟨_,rfl⟩
     have ba3:=below_new w2 o3
     have RM3:=hid (own_laterW XM2.out ba3)
     have RW3:=hid (own_laterW XW2.out ba3)
     have hs3 : base ≤ (w2.alloc o3).heap.size:=by have:=ba3.size; omega
     have HN3:=hid (news3 (w:=w2) ho3)
     have HO3:=hid ho3
     have HBA3:=hid ba3
     clear ba3 ho3
     go_upto_region 20 with (first | (at_builtin; rw [← HO3.out]; refine app_oneI _ rfl (.tmp 99) (.tmp 104) rfl base (cntK kp kp + 1) _ _ rfl RM3.out hs3 ⟨w2.heap.size,0,none⟩ (inx (zc,za,(zla,zln,zlc),zl)) rfl HN3.out (by omega) ?_; intro b3 d3 w3 hr3 hb3 hk3; have XM3:=hid hr3; have XW3:=hid (hk3 _ _ _ _ _ _ (by decide) RW3.out); have XB3:=hid hb3; clear hr3 hb3 hk3 hs3 HN3 RM3 RW3 HO3))
     have hbw3 : Below W7.heap.size W7 w3:=HBW2.out.trans ((HBA3.out.mono (by have:=HBW2.out.size; exact this)).trans (by rw [← HBAS.out]; exact XB3.out))
     have hbs3 : base ≤ w3.heap.size:=by rw [HBAS.out]; exact hbw3.size
     have HBW3:=hid hbw3
     clear hbw3
     clear e1 e2 e3 e4 e5
     obtain ⟨e1,e2,e3,e4,e5⟩:=HCEL.out w3 HBW3.out
     obtain ⟨o4,ho4⟩ : ∃ o4,o4 = Obj.cells #[.string sk] 9:=⟨_,rfl⟩
     have ba4:=below_new w3 o4
     have RM4:=hid (own_laterW XM3.out ba4)
     have RW4:=hid (own_laterW XW3.out ba4)
     have hs4 : base ≤ (w3.alloc o4).heap.size:=by have:=ba4.size; omega
     have HN4:=hid (news1 (w:=w3) ho4)
     have HO4:=hid ho4
     have HBA4:=hid ba4
     clear ba4 ho4
     go_wp2_with (first | (at_builtin; rw [← HO4.out]; refine app_oneT _ rfl (.tmp 106) (.tmp 112) rfl base (cntK kp kp + 1) _ _ rfl RW4.out hs4 ⟨w3.heap.size,0,none⟩ sk rfl HN4.out (by omega) ?_; intro b4 d4 w4 hr4 hb4 hk4; have XW4:=hid hr4; have XM4:=hid (hk4 _ _ _ _ _ _ (by decide) RM4.out); have XB4:=hid hb4; clear hr4 hb4 hk4 hs4 HN4 RM4 RW4 HO4))
     have hbw4 : Below W7.heap.size W7 w4:=HBW3.out.trans ((HBA4.out.mono (by have:=HBW3.out.size; exact this)).trans (by rw [← HBAS.out]; exact XB4.out))
     have hbs4 : base ≤ w4.heap.size:=by rw [HBAS.out]; exact hbw4.size
     have HBW4:=hid hbw4
     clear hbw4
     exact ⟨⟨kp + 1,by omega,by go_num,NL.at_ (by rw [List.length_map,HXL.out]; exact hkN) (by rw [List.length_map,HXL.out,HSHL.out]) HZ.out HSK.out XM4.out XW4.out,HBW4.out⟩,by simp [intOf]; omega⟩
    ·have hee : ((k : Int) == (kp : Int)) = false:=by simp; omega
     obtain ⟨e1,e2,e3,e4,e5⟩:=HCEL.out wr HBW.out
     simp only at e3 e4 e5
     obtain ⟨o1,ho1⟩ : ∃ o1,o1 = Obj.cells #[.int .u8 zc,.int .i64 za,.slice zla zln zlc] 51:=⟨_,rfl⟩
     have ba1:=below_new wr o1
     have RM1:=hid (own_laterW RM0.out ba1)
     have RW1:=hid (own_laterW RW0.out ba1)
     have hs1 : base ≤ (wr.alloc o1).heap.size:=by have:=ba1.size; omega
     have HN1:=hid (news3 (w:=wr) ho1)
     have HO1:=hid ho1
     have HBA1:=hid ba1
     clear ba1 ho1
     go_upto_region 20 with (first | (at_builtin; rw [← HO1.out]; refine app_oneI _ rfl (.tmp 99) (.tmp 104) rfl base (cntK kp k) _ _ rfl RM1.out hs1 ⟨wr.heap.size,0,none⟩ (inx (zc,za,(zla,zln,zlc),zl)) rfl HN1.out (by omega) ?_; intro b1 d1 w1 hr1 hb1 hk1; have XM1:=hid hr1; have XW1:=hid (hk1 _ _ _ _ _ _ (by decide) RW1.out); have XB1:=hid hb1; clear hr1 hb1 hk1 hs1 HN1 RM1 RW1 HO1))
     have hbw1 : Below W7.heap.size W7 w1:=HBW.out.trans ((HBA1.out.mono (by have:=HBW.out.size; exact this)).trans (by rw [← HBAS.out]; exact XB1.out))
     have hbs1 : base ≤ w1.heap.size:=by rw [HBAS.out]; exact hbw1.size
     have HBW1:=hid hbw1
     clear hbw1
     clear e1 e2 e3 e4 e5
     obtain ⟨e1,e2,e3,e4,e5⟩:=HCEL.out w1 HBW1.out
     obtain ⟨o2,ho2⟩ : ∃ o2,o2 = Obj.cells #[.string sk] 9:=⟨_,rfl⟩
     have ba2:=below_new w1 o2
     have RM2:=hid (own_laterW XM1.out ba2)
     have RW2:=hid (own_laterW XW1.out ba2)
     have hs2 : base ≤ (w1.alloc o2).heap.size:=by have:=ba2.size; omega
     have HN2:=hid (news1 (w:=w1) ho2)
     have HO2:=hid ho2
     have HBA2:=hid ba2
     clear ba2 ho2
     go_wp2_with (first | (at_builtin; rw [← HO2.out]; refine app_oneT _ rfl (.tmp 106) (.tmp 112) rfl base (cntK kp k) _ _ rfl RW2.out hs2 ⟨w1.heap.size,0,none⟩ sk rfl HN2.out (by omega) ?_; intro b2 d2 w2 hr2 hb2 hk2; have XW2:=hid hr2; have XM2:=hid (hk2 _ _ _ _ _ _ (by decide) RM2.out); have XB2:=hid hb2; clear hr2 hb2 hk2 hs2 HN2 RM2 RW2 HO2))
     have hbw2 : Below W7.heap.size W7 w2:=HBW1.out.trans ((HBA2.out.mono (by have:=HBW1.out.size; exact this)).trans (by rw [← HBAS.out]; exact XB2.out))
     have hbs2 : base ≤ w2.heap.size:=by rw [HBAS.out]; exact hbw2.size
     have HBW2:=hid hbw2
     clear hbw2
     exact ⟨⟨k + 1,by omega,by go_num,NL.step (by rw [List.length_map,HXL.out]; exact hkp) (by rw [List.length_map,HXL.out,HSHL.out]) hkk HZ.out HSK.out XM2.out XW2.out,HBW2.out⟩,by simp [intOf]; omega⟩
   ·have hkN2 : N = k:=by omega
    subst hkN2
    have ecn : cntK kp N = N + 1:=if_neg (by omega)
    have hrows:=HNL.out.end_ (by rw [HXL.out]) hkp HSHL.out
    rw [ecn] at hrows ⊢
    have HRO:=hid hrows
    obtain ⟨hfaN,hFBq,hFb7⟩:=HF7.out
    have hFbk:=blk_later hbw hFb7
    have hNBk:=blk_later hbw HNB.out
    rw [HO7.out] at hNBk
    have n5 : wr.cell? ⟨NB,5,none⟩ = some (.slice (some ⟨FB,0,none⟩) m.fn n.fc):=cell_at hNBk
    have hu2:=later_cell hbw HU2.out
    have hz2 : wr.frozen? ⟨FB,kf * 3 + 2,none⟩ = false:=free_at hFbk
    have hBwr : Below w.heap.size w wr:=HB7.out.trans (hbw.mono HB7.out.size)
    have hMC8:=HMC7.out.keep (kept_of (S:=fun _ => False) hbw)
    have hm0:=HM.out wr hBwr wr.heap.size wr.heap.size (Nat.le_refl _) (Nat.le_refl _)
    have hokn:=hMC8.ok hm0 wr.heap.size wr.heap.size (Nat.le_refl _) (Nat.le_refl _)
    have hyl:=lt_of_get HY.out
    have c1 : wr.cell? ⟨FB,kf * 3 + 1,none⟩ = some (.string y.2.1):=by
     obtain ⟨b0,off0,e0,hat⟩:=hokn.pf.2.resolve_left (by have:=hMC8.fl; have:=hMC8.fn; omega)
     rw [hfaN] at e0
     injection e0 with e0
     injection e0 with e1 e2
     subst e1 e2
     have:=(hat kf y HY.out).2.1
     rw [Nat.zero_add] at this
     exact this
    have hkS:=kept_set wr FB (kf * 3 + 2) (.slice a13 (N + 1) c13)
    have s1 : (wr.setCell ⟨FB,kf * 3 + 2,none⟩ (.slice a13 (N + 1) c13)).cell? ⟨FB,kf * 3 + 1,none⟩ = some (.string y.2.1):=(World.cell?_setCell_other _ _ _ _ (by simp)).trans c1
    have s2 : (wr.setCell ⟨FB,kf * 3 + 2,none⟩ (.slice a13 (N + 1) c13)).cell? ⟨FB,kf * 3 + 2,none⟩ = some (.slice a13 (N + 1) c13):=World.cell?_setCell_same _ _ _ hu2
    have s3 : ∀ o,o ≠ kf * 3 + 1 → o ≠ kf * 3 + 2 → (wr.setCell ⟨FB,kf * 3 + 2,none⟩ (.slice a13 (N + 1) c13)).cell? ⟨FB,o,none⟩ = wr.cell? ⟨FB,o,none⟩:=fun o _ h2 => World.cell?_setCell_other _ _ _ _ (fun h => h2 (congrArg Addr.off h).symm)
    have hN9 : FnZ wr FB (nopF y a13 c13 N kp x.2.2.2):=nopF_ok (w:=Wq) (fun R g h1 h2 => HM.out wr hBwr R g h1 h2) HX.out.1 HX.out.2.symm hkp hFBq (fun R g h1 h2 => HM.out Wq HBq.out R g h1 h2) hrows.1 hFbk
    have HOK:=hid (hMC8.setZ (y':=nopF y a13 c13 N kp x.2.2.2) hm0 hfaN HY.out hkS s1 s2 s3 rfl hN9)
    have HSM:=hid (same_set hMC8 nf HY.out (y':=nopF y a13 c13 N kp x.2.2.2) rfl)
    have HFS:=hid (hMC8.fs kf x y HX.out.1 HY.out)
    have hcap13 : N + 1 ≤ c13:=(own_at cel (fun _ => rfl) hrows.1 (by rw [List.length_map,insM_len (by have:=HXL.out; omega),HXL.out])).1
    have HCP:=hid (show ∀ z ∈ (setFn n kf (nopF y a13 c13 N kp x.2.2.2)).fns,z.2.2.1.2.1 ≤ z.2.2.1.2.2 from fun z hz => by
     rcases List.mem_or_eq_of_mem_set hz with hz | rfl
     ·exact hMC8.cap hm0 z hz
     ·exact hcap13)
    have hsf : (setFn n kf (nopF y a13 c13 N kp x.2.2.2)).fns.length = (setFn n kf (nopF y a13 c13 N kp x.2.2.2)).fn:=by
     show (n.fns.set kf _).length = n.fn
     rw [List.length_set,hMC8.fl,hMC8.fn]
    have HSF:=hid hsf
    have HYS:=hid (show (setFn n kf (nopF y a13 c13 N kp x.2.2.2)).fns[kf]? = some (nopF y a13 c13 N kp x.2.2.2) from List.getElem?_set_self hyl)
    have hmv : mV (setFn n kf (nopF y a13 c13 N kp x.2.2.2)) = #[.slice n.ta n.tn n.tc,.slice n.ha n.hn n.hc,.slice n.ga n.gn n.gc,.int .i64 n.fi,.int .i64 n.mo,.slice (some ⟨FB,0,none⟩) m.fn n.fc,.slice n.da n.dn n.dc,.slice n.ea n.en n.ec]:=by
     unfold mV
     show (#[.slice n.ta n.tn n.tc,.slice n.ha n.hn n.hc,.slice n.ga n.gn n.gc,.int .i64 n.fi,.int .i64 n.mo,.slice n.fa n.fn n.fc,.slice n.da n.dn n.dc,.slice n.ea n.en n.ec] : Array Value) = _
     rw [hfaN,hnf]
    have HMV:=hid hmv
    have hB8 : Below w.heap.size w (wr.setCell ⟨FB,kf * 3 + 2,none⟩ (.slice a13 (N + 1) c13)):=hBwr.trans (hkS.to_below hBwr.size (fun b hb hx => by have:=HBq.out.size; omega))
    have HB8:=hid hB8
    have HTA8:=hid ((hkS.block TA (by have:=HTAL.out; have:=hbw.size; have:=HNBl.out; omega) (by have:=HTAL.out; omega)).trans (blk_later hbw HTA7.out))
    have HW8:=hid (own_keepB hrows.2 hkS (fun bb hb e => by
     obtain ⟨_,_,cc1,g1⟩:=own_ty hrows.2 hb
     subst e
     rw [hFbk] at g1
     simp at g1))
    have hNB8:=(hkS.block NB (by have:=HNBl.out; have:=hbw.size; omega) (by omega)).trans hNBk
    have HNB8:=hid hNB8
    have H11:=check31 (setFn n kf (nopF y a13 c13 N kp x.2.2.2)) _ (HK.out _ hB8).1 HOK.out
    rw [hmv] at H11
    have HH11:=hid H11
    have hkfn : (kf : Int) < (m.fn : Int):=hkf
    have q0 : (wr.setCell ⟨FB,kf * 3 + 2,none⟩ (.slice a13 (N + 1) c13)).cell? ⟨NB,0,none⟩ = some (.slice n.ta n.tn n.tc):=cell_at hNB8
    have q1 : (wr.setCell ⟨FB,kf * 3 + 2,none⟩ (.slice a13 (N + 1) c13)).cell? ⟨NB,1,none⟩ = some (.slice n.ha n.hn n.hc):=cell_at hNB8
    have q2 : (wr.setCell ⟨FB,kf * 3 + 2,none⟩ (.slice a13 (N + 1) c13)).cell? ⟨NB,2,none⟩ = some (.slice n.ga n.gn n.gc):=cell_at hNB8
    have q3 : (wr.setCell ⟨FB,kf * 3 + 2,none⟩ (.slice a13 (N + 1) c13)).cell? ⟨NB,3,none⟩ = some (.int .i64 n.fi):=cell_at hNB8
    have q4 : (wr.setCell ⟨FB,kf * 3 + 2,none⟩ (.slice a13 (N + 1) c13)).cell? ⟨NB,4,none⟩ = some (.int .i64 n.mo):=cell_at hNB8
    have q5 : (wr.setCell ⟨FB,kf * 3 + 2,none⟩ (.slice a13 (N + 1) c13)).cell? ⟨NB,5,none⟩ = some (.slice (some ⟨FB,0,none⟩) m.fn n.fc):=cell_at hNB8
    have q6 : (wr.setCell ⟨FB,kf * 3 + 2,none⟩ (.slice a13 (N + 1) c13)).cell? ⟨NB,6,none⟩ = some (.slice n.da n.dn n.dc):=cell_at hNB8
    have q7 : (wr.setCell ⟨FB,kf * 3 + 2,none⟩ (.slice a13 (N + 1) c13)).cell? ⟨NB,7,none⟩ = some (.slice n.ea n.en n.ec):=cell_at hNB8
    clear hnl HNL hrows hFb7 hFbk hNBk hBwr hMC8 hm0 hokn c1 hkS s1 s2 s3 hN9 hcap13 hsf hmv hB8 hNB8 H11 hbw HRO
    go_upto_region 22 with fail
    generalize wr.setCell ⟨FB,kf * 3 + 2,none⟩ (.slice a13 (N + 1) c13) = W8 at *
    go_wp2_with fail
    clear q0 q1 q2 q3 q4 q5 q6 q7 n5 hu2 hz2
    refine HH11.out.mono ?_
    rintro e w9 ⟨rfl,hb9⟩
    obtain ⟨ce,hce⟩ : ∃ ce,ce = chkMM (setFn n kf (nopF y a13 c13 N kp x.2.2.2)):=⟨_,rfl⟩
    rw [← hce]
    have HCE:=hid hce
    have HB9:=hid (HB8.out.trans (hb9.mono HB8.out.size))
    have HHB9:=hid hb9
    clear hce hb9 HH11
    by_cases hc0 : ce = 0
    rotate_left
    ·have hne : (ce != 0) = true:=by simpa using hc0
     have hne' : (ce == 0) = false:=by simpa using hc0
     clear hc0
     go_wp2_with fail
     go_ret
     exact ⟨rfl,HB9.out⟩
    have HN0:=hid (show chkMM (setFn n kf (nopF y a13 c13 N kp x.2.2.2)) = 0 from HCE.out.symm.trans hc0)
    subst hc0
    have HTA9:=hid (blk_later HHB9.out HTA8.out)
    have HW9:=hid (own_laterW HW8.out HHB9.out)
    have hNB9:=blk_later HHB9.out HNB8.out
    have H15:=function15 (setFn n kf (nopF y a13 c13 N kp x.2.2.2)) (kf : Int) w9 (by omega) (by omega) (HK.out w9 HB9.out).1 (HK.out w9 HB9.out).2 (fun R g h1 h2 => (HOK.out R g (Nat.le_trans HHB9.out.size h1) (Nat.le_trans HHB9.out.size h2)).later HHB9.out) HCP.out
    rw [HMV.out] at H15
    have HH15:=hid H15
    have q0 : w9.cell? ⟨NB,0,none⟩ = some (.slice n.ta n.tn n.tc):=cell_at hNB9
    have q1 : w9.cell? ⟨NB,1,none⟩ = some (.slice n.ha n.hn n.hc):=cell_at hNB9
    have q2 : w9.cell? ⟨NB,2,none⟩ = some (.slice n.ga n.gn n.gc):=cell_at hNB9
    have q3 : w9.cell? ⟨NB,3,none⟩ = some (.int .i64 n.fi):=cell_at hNB9
    have q4 : w9.cell? ⟨NB,4,none⟩ = some (.int .i64 n.mo):=cell_at hNB9
    have q5 : w9.cell? ⟨NB,5,none⟩ = some (.slice (some ⟨FB,0,none⟩) m.fn n.fc):=cell_at hNB9
    have q6 : w9.cell? ⟨NB,6,none⟩ = some (.slice n.da n.dn n.dc):=cell_at hNB9
    have q7 : w9.cell? ⟨NB,7,none⟩ = some (.slice n.ea n.en n.ec):=cell_at hNB9
    clear H15 hNB9
    go_wp2_with fail
    clear q0 q1 q2 q3 q4 q5 q6 q7
    refine HH15.out.mono ?_
    intro e w10 hO
    obtain ⟨hb10,SH2,EN2,EL2,FL2,hrw,he10⟩:=nop_out (y':=nopF y a13 c13 N kp x.2.2.2) HG.out.1 HSM.out HXL.out HX.out.2.symm hkp HG.out.2.2.1 (by rw [HX.out.2]; exact HG.out.2.1) HBB.out (by rw [HX.out.2]; exact HG.out.2.2.2) HFS.out.ty HFS.out.lo rfl rfl HN0.out HSF.out HYS.out hO (sp:=sp) (by rw [← HSH.out]; exact HSP.out) (by rw [← HSH.out]; exact HSHL.out)
    rw [← HSH.out] at hrw
    rw [← HHI.out] at he10
    subst he10
    have HB10:=hid (HB9.out.trans (hb10.mono HB9.out.size))
    have b11:=below_new w10 (.cells #[.slice (some ⟨SH2,0,none⟩) (N + 1) (N + 1),.slice (some ⟨EN2,0,none⟩) (N + 1) (N + 1),.slice (some ⟨EL2,0,none⟩) (N + 1) (N + 1),.slice (some ⟨FL2,0,none⟩) (N + 1) (N + 1),.int .i64 hi] 39)
    have t11:=heap_alloc_new w10 (.cells #[.slice (some ⟨SH2,0,none⟩) (N + 1) (N + 1),.slice (some ⟨EN2,0,none⟩) (N + 1) (N + 1),.slice (some ⟨EL2,0,none⟩) (N + 1) (N + 1),.slice (some ⟨FL2,0,none⟩) (N + 1) (N + 1),.int .i64 hi] 39)
    have hb11 : Below w9.heap.size w9 (w10.alloc (.cells #[.slice (some ⟨SH2,0,none⟩) (N + 1) (N + 1),.slice (some ⟨EN2,0,none⟩) (N + 1) (N + 1),.slice (some ⟨EL2,0,none⟩) (N + 1) (N + 1),.slice (some ⟨FL2,0,none⟩) (N + 1) (N + 1),.int .i64 hi] 39)):=hb10.trans (b11.mono hb10.size)
    have HB11:=hid (HB9.out.trans (hb11.mono HB9.out.size))
    have tA:=blk_later hb11 HTA9.out
    have HW11:=own_laterW HW9.out hb11
    have hrw11:=hrw.kept (kept_of (S:=fun _ => False) b11) (fun x => x)
    have a4 : (w10.alloc (.cells #[.slice (some ⟨SH2,0,none⟩) (N + 1) (N + 1),.slice (some ⟨EN2,0,none⟩) (N + 1) (N + 1),.slice (some ⟨EL2,0,none⟩) (N + 1) (N + 1),.slice (some ⟨FL2,0,none⟩) (N + 1) (N + 1),.int .i64 hi] 39)).cell? ⟨TA,4,none⟩ = some (.int .i64 hi):=cell_at tA
    have b0 : (w10.alloc (.cells #[.slice (some ⟨SH2,0,none⟩) (N + 1) (N + 1),.slice (some ⟨EN2,0,none⟩) (N + 1) (N + 1),.slice (some ⟨EL2,0,none⟩) (N + 1) (N + 1),.slice (some ⟨FL2,0,none⟩) (N + 1) (N + 1),.int .i64 hi] 39)).cell? ⟨w10.heap.size,0,none⟩ = some (.slice (some ⟨SH2,0,none⟩) (N + 1) (N + 1)):=cell_at t11
    have b4 : (w10.alloc (.cells #[.slice (some ⟨SH2,0,none⟩) (N + 1) (N + 1),.slice (some ⟨EN2,0,none⟩) (N + 1) (N + 1),.slice (some ⟨EL2,0,none⟩) (N + 1) (N + 1),.slice (some ⟨FL2,0,none⟩) (N + 1) (N + 1),.int .i64 hi] 39)).cell? ⟨w10.heap.size,4,none⟩ = some (.int .i64 hi):=cell_at t11
    obtain ⟨WB,hWB⟩ : ∃ WB,a14 = some ⟨WB,0,none⟩:=by
     rcases HW11.2 with ⟨_,h0⟩ | ⟨g,cp,cur,h1,_⟩
     ·omega
     ·injection h1 with h1; exact ⟨g,h1⟩
    subst hWB
    have hil : (insL kp sp sh).length = N + 1:=by rw [insL_len (by have:=HSHL.out; omega),HSHL.out]
    have HEQ:=hid (eqt19 SH2 WB (N + 1) (N + 1) c14 (insL kp sp sh) (w10.alloc (.cells #[.slice (some ⟨SH2,0,none⟩) (N + 1) (N + 1),.slice (some ⟨EN2,0,none⟩) (N + 1) (N + 1),.slice (some ⟨EL2,0,none⟩) (N + 1) (N + 1),.slice (some ⟨FL2,0,none⟩) (N + 1) (N + 1),.int .i64 hi] 39)) hil (by omega) (fun j s hj => (Row.cell hrw11 j (by have:=lt_of_get hj; omega)).trans (by rw [List.getElem?_map,hj]; rfl)) (fun j s hj => (World.ownsRow.cellAt HW11 j (by have:=lt_of_get hj; omega)).trans (by rw [List.getElem?_map,hj]; rfl)))
    clear hO hb10 hrw b11 t11 hb11 tA HW11 hrw11 hil HH15
    go_upto_region 25 with fail
    generalize w10.alloc (.cells #[.slice (some ⟨SH2,0,none⟩) (N + 1) (N + 1),.slice (some ⟨EN2,0,none⟩) (N + 1) (N + 1),.slice (some ⟨EL2,0,none⟩) (N + 1) (N + 1),.slice (some ⟨FL2,0,none⟩) (N + 1) (N + 1),.int .i64 hi] 39) = W11 at *
    generalize w10.heap.size = TA2 at *
    go_wp2_with fail
    refine HEQ.out.mono ?_
    rintro e w12 ⟨rfl,q,hw⟩
    have hb12 : Below W11.heap.size W11 w12:=by rw [hw]; exact below_drewN W11 q
    have a4:=later_cell hb12 a4
    have b4:=later_cell hb12 b4
    have HB12:=hid (HB11.out.trans (hb12.mono HB11.out.size))
    clear hw hb12
    have hhh : ((hi : Int) == (hi : Int)) = true:=by simp
    go_wp2_with fail
    go_ret
    exact ⟨rfl,HB12.out⟩
end Go.Proofs.YtepnnenohjfkbaaGreatDoor
