/-
  Texts Xo.
-/
import Derived.Test.YtepnnenohjfkbaaGreatDoorQ46
set_option linter.unusedVariables false
set_option maxRecDepth 100000
set_option maxHeartbeats 16000000
namespace Go.Proofs.YtepnnenohjfkbaaGreatDoor
open Go.RowKit
theorem SzB.later {w W : World} {m : MM} (h : SzB w m) (hb : Below w.heap.size w W) : SzB W m :=
 ⟨h.tn,h.hn,h.gn,h.fn,h.dn,h.en,h.t,fun j x hj => ⟨(h.f j x hj).1,(h.f j x hj).2.1,(h.f j x hj).2.2.1.kept (kept_of hb) (fun _ _ _ _ => id),(h.f j x hj).2.2.2⟩,h.d,h.e⟩
theorem set_world (w6 : World) (FB k : Nat) (v s : Value) (o1 o2 : Obj) {u1 u2 : Value} (h1 : w6.cell? ⟨FB,k * 3 + 1,none⟩ = some u1) (h2 : w6.cell? ⟨FB,k * 3 + 2,none⟩ = some u2) :
  Kept (fun b => b = FB) ((w6.alloc o1).alloc o2) ((((w6.setCell ⟨FB,k * 3 + 2,none⟩ v).setCell ⟨FB,k * 3 + 1,none⟩ s).alloc o1).alloc o2) ∧
  ((((w6.setCell ⟨FB,k * 3 + 2,none⟩ v).setCell ⟨FB,k * 3 + 1,none⟩ s).alloc o1).alloc o2).cell? ⟨FB,k * 3 + 1,none⟩ = some s ∧ ((((w6.setCell ⟨FB,k * 3 + 2,none⟩ v).setCell ⟨FB,k * 3 + 1,none⟩ s).alloc o1).alloc o2).cell? ⟨FB,k * 3 + 2,none⟩ = some v ∧
  ∀ o,o ≠ k * 3 + 1 → o ≠ k * 3 + 2 → ((((w6.setCell ⟨FB,k * 3 + 2,none⟩ v).setCell ⟨FB,k * 3 + 1,none⟩ s).alloc o1).alloc o2).cell? ⟨FB,o,none⟩ = ((w6.alloc o1).alloc o2).cell? ⟨FB,o,none⟩:=by
 have hF : FB < w6.heap.size:=block_lt_of_cell h1
 have B1:=below_new w6 o1
 have B2:=below_new (w6.alloc o1) o2
 have d1:=later_cell B2 (later_cell B1 h1)
 have d2:=later_cell B2 (later_cell B1 h2)
 have e : ((((w6.setCell ⟨FB,k * 3 + 2,none⟩ v).setCell ⟨FB,k * 3 + 1,none⟩ s).alloc o1).alloc o2) = ((((w6.alloc o1).alloc o2).setCell ⟨FB,k * 3 + 2,none⟩ v).setCell ⟨FB,k * 3 + 1,none⟩ s):=by
  rw [World.setCell_alloc_past _ _ _ _ (show FB < (w6.alloc o1).heap.size by simp; omega),World.setCell_alloc_past _ _ _ _ hF,World.setCell_alloc_past _ _ _ _ (show FB < ((w6.setCell ⟨FB,k * 3 + 2,none⟩ v).alloc o1).heap.size by simp; omega),World.setCell_alloc_past _ _ _ _ (show FB < (w6.setCell ⟨FB,k * 3 + 2,none⟩ v).heap.size by simp; omega)]
 rw [e]
 generalize (w6.alloc o1).alloc o2 = W1 at *
 have x1 : (W1.setCell ⟨FB,k * 3 + 2,none⟩ v).cell? ⟨FB,k * 3 + 1,none⟩ = some u1:=(World.cell?_setCell_other _ _ _ _ (by simp)).trans d1
 refine ⟨(kept_set W1 FB _ v).trans (kept_set _ FB _ s),World.cell?_setCell_same _ _ _ x1,?_,fun o h1 h2 => ?_⟩
 ·rw [World.cell?_setCell_other _ _ _ _ (by simp)]
  exact World.cell?_setCell_same _ _ _ d2
 ·rw [World.cell?_setCell_other _ _ _ _ (fun h => h1 (congrArg Addr.off h).symm),World.cell?_setCell_other _ _ _ _ (fun h => h2 (congrArg Addr.off h).symm)]
theorem Tb.same {m n' : MM} {x x' : FuM} {P Q : ByteArray} {w : World} {SH EN EL FL : Nat} (h : Tb n' x' P Q w SH EN EL FL) (hS : SameM m n') (hf : FnS x x') : Tb m x P Q w SH EN EL FL:=by
 obtain ⟨h1,h2,h3,h4⟩:=h
 rw [hS.stA hf.sameX,hf.n,hf.lo] at h1 h4
 rw [hf.op,hf.n] at h2 h3
 exact ⟨h1,h2,h3,h4⟩
theorem alone_law (m : MM) (f g : Int) (w : World) (hf : -9223372036854775808 ≤ f ∧ f ≤ 9223372036854775807) (hg : -9223372036854775808 ≤ g ∧ g ≤ 9223372036854775807) (hk : KindsOk w) (hp : 0 < w.heap.size) (hm : ∀ R g',w.heap.size ≤ R → w.heap.size ≤ g' → MOk w R g' m) (hcap : ∀ x ∈ m.fns,x.2.2.1.2.1 ≤ x.2.2.1.2.2) (hsz : SzB w m) :
  Calls Tryz.prog 4 #[.agg (mV m),.int .i64 f,.int .i64 g] w fun e w' => e = .returned (.bool true) ∧ Below w.heap.size w w':=by
 have HK:=hid (fun (W : World) (hb : Below w.heap.size w W) => And.intro (hk.later hb hp) (Nat.lt_of_lt_of_le hp hb.size))
 have HM:=hid (fun (W : World) (hb : Below w.heap.size w W) (R g' : Nat) (h1 : W.heap.size ≤ R) (h2 : W.heap.size ≤ g') => (hm R g' (Nat.le_trans hb.size h1) (Nat.le_trans hb.size h2)).later hb)
 have HS:=hid (fun (W : World) (hb : Below w.heap.size w W) => hsz.later hb)
 have HC:=hid hcap
 have nf:=(hm w.heap.size w.heap.size (Nat.le_refl _) (Nat.le_refl _)).pf.1
 have hfn:=hsz.fn
 have B0:=below_new w (.cells (mV m) 29)
 have bx : (w.alloc (.cells (mV m) 29)).heap[w.heap.size]? = some (.cells (mV m) 29):=heap_alloc_new w (.cells (mV m) 29)
 have HW : w.alloc (.cells #[.slice m.ta m.tn m.tc,.slice m.ha m.hn m.hc,.slice m.ga m.gn m.gc,.int .i64 m.fi,.int .i64 m.mo,.slice m.fa m.fn m.fc,.slice m.da m.dn m.dc,.slice m.ea m.en m.ec] 29) = w.alloc (.cells (mV m) 29):=rfl
 clear hk hm hsz hcap
 generalize w.alloc (.cells (mV m) 29) = W0 at *
 have HB0:=hid B0
 have HBX:=hid bx
 clear B0 bx
 show Calls Tryz.prog 4 #[.agg #[.slice m.ta m.tn m.tc,.slice m.ha m.hn m.hc,.slice m.ga m.gn m.gc,.int .i64 m.fi,.int .i64 m.mo,.slice m.fa m.fn m.fc,.slice m.da m.dn m.dc,.slice m.ea m.en m.ec],.int .i64 f,.int .i64 g] w _
 go_enter Tryz.func4,Tryz.ntmps4
 go_wp2_with fail
 refine (works8 W0 (HK.out W0 HB0.out).1 (HK.out W0 HB0.out).2).mono ?_
 rintro e w1 ⟨rfl,hb⟩
 have HB1:=hid (HB0.out.trans (hb.mono HB0.out.size))
 have HBX:=hid (blk_later hb HBX.out)
 clear hb HB0 HW
 have hok:=HM.out w1 HB1.out w1.heap.size w1.heap.size (Nat.le_refl _) (Nat.le_refl _)
 have H9:=size9s m w1 (HS.out w1 HB1.out) hok.pt hok.pf hok.pd hok.pe
 unfold mV at H9
 have HH9:=hid H9
 clear H9 hok
 have hc8:=eight_cells HBX.out
 obtain ⟨⟨m0,m1,m2,m3,m4,m5,m6,m7⟩,_⟩:=hc8
 go_wp2_with fail
 clear m0 m1 m2 m3 m4 m5 m6 m7
 refine HH9.out.mono ?_
 rintro e w2 ⟨s,rfl,hb,hs⟩
 have HB2:=hid (HB1.out.trans (hb.mono HB1.out.size))
 have HBX:=hid (blk_later hb HBX.out)
 have HSS:=hid hs
 clear hb HH9 HB1 hs
 by_cases h4 : s ≤ 4000
 rotate_left
 ·have h4' : (4000 : Int) < (s : Int):=by omega
  go_wp2_with fail
  go_ret
  exact ⟨rfl,HB2.out⟩
 have h4' : ¬ (4000 : Int) < (s : Int):=by omega
 have HSS:=hid (show fsum m.fns + dsum m.data ≤ 4000 from HSS.out h4)
 have H10:=module10 m w2 (HK.out w2 HB2.out).1 (HK.out w2 HB2.out).2 (HM.out w2 HB2.out) HC.out
 unfold mV at H10
 have HH10:=hid H10
 clear H10
 have hc8:=eight_cells HBX.out
 obtain ⟨⟨m0,m1,m2,m3,m4,m5,m6,m7⟩,_⟩:=hc8
 go_wp2_with fail
 clear m0 m1 m2 m3 m4 m5 m6 m7
 refine HH10.out.mono ?_
 intro e w3 hO
 have hb:=hO.1
 have HB3:=hid (HB2.out.trans (hb.mono HB2.out.size))
 have HBX:=hid (blk_later hb HBX.out)
 clear hb HH10 HB2 h4 h4'
 rcases hO.2 with ⟨h1,rfl⟩ | ⟨_,k,x,E,pc,hx,hE,hE0,_,rfl⟩ | ⟨h0,TT,arr,hTT,rfl,hA,hs5,hTabs⟩
 ·generalize chkMM m = ce at *
  have hne : (ce != 0) = true:=by simpa using h1
  have hne' : (ce == 0) = false:=by simpa using h1
  clear hO h1
  go_wp2_with fail
  go_ret
  exact ⟨rfl,HB3.out⟩
 ·have hne : (E != 0) = true:=by simpa using hE0
  have hne' : (E == 0) = false:=by simpa using hE0
  clear hO hE hE0 hx
  go_wp2_with fail
  go_ret
  exact ⟨rfl,HB3.out⟩
 have HT:=hid (show ∀ (i : Nat) y,m.fns[i]? = some y → ∃ W b t,TabV m y b W t from fun i y hi => by obtain ⟨t,ht,_⟩:=hTabs i y hi; exact ⟨_,_,t,ht⟩)
 have H0:=hid h0
 have m5 : w3.cell? ⟨w.heap.size,5,none⟩ = some (.slice m.fa m.fn m.fc):=cell_at HBX.out
 clear hO hA hs5 hTabs hTT h0
 by_cases hq : f < 0
 ·have d1 : decide (f < 0) = true:=by simpa using hq
  go_wp2_with fail
  go_ret
  exact ⟨rfl,HB3.out⟩
 have d1 : decide (f < 0) = false:=by simpa using hq
 have hf0 : ¬ f < 0:=hq
 clear hq
 by_cases hq : g < 0
 ·have d2 : decide (g < 0) = true:=by simpa using hq
  go_wp2_with fail
  go_ret
  exact ⟨rfl,HB3.out⟩
 have d2 : decide (g < 0) = false:=by simpa using hq
 have hg0 : ¬ g < 0:=hq
 clear hq
 by_cases hq : (m.fn : Int) ≤ f
 ·have d3 : decide ((m.fn : Int) ≤ f) = true:=by simpa using hq
  go_wp2_with fail
  go_ret
  exact ⟨rfl,HB3.out⟩
 have d3 : decide ((m.fn : Int) ≤ f) = false:=by simpa using hq
 have hf1 : ¬ (m.fn : Int) ≤ f:=hq
 clear hq
 by_cases hq : (m.fn : Int) ≤ g
 ·have d4 : decide ((m.fn : Int) ≤ g) = true:=by simpa using hq
  go_wp2_with fail
  go_ret
  exact ⟨rfl,HB3.out⟩
 have d4 : decide ((m.fn : Int) ≤ g) = false:=by simpa using hq
 have hg1 : ¬ (m.fn : Int) ≤ g:=hq
 clear hq
 by_cases hq : f = g
 ·have d5 : (f == g) = true:=by simpa using hq
  have HQ:=hid hq
  clear hq
  go_wp2_with fail
  go_ret
  exact ⟨rfl,HB3.out⟩
 have d5 : (f == g) = false:=by simpa using hq
 obtain ⟨kf,rfl⟩ : ∃ k : Nat,f = (k : Int):=⟨f.toNat,by omega⟩
 obtain ⟨kg,rfl⟩ : ∃ k : Nat,g = (k : Int):=⟨g.toNat,by omega⟩
 have hkf : kf < m.fn:=by omega
 have hkg : kg < m.fn:=by omega
 have hne : kf ≠ kg:=by omega
 obtain ⟨x,hx⟩ : ∃ x,m.fns[kf]? = some x:=⟨_,List.getElem?_eq_getElem (by omega)⟩
 have HX:=hid hx
 have H15:=function15 m (kf : Int) w3 (by omega) (by omega) (HK.out w3 HB3.out).1 (HK.out w3 HB3.out).2 (HM.out w3 HB3.out) HC.out
 unfold mV at H15
 have HH15:=hid H15
 clear H15 m5 hx hq
 have hc8:=eight_cells HBX.out
 obtain ⟨⟨m0,m1,m2,m3,m4,m5,m6,m7⟩,_⟩:=hc8
 go_wp2_with fail
 clear m0 m1 m2 m3 m4 m5 m6 m7
 refine HH15.out.mono ?_
 intro e w4 hO
 obtain ⟨hb,P,Q,SH,EN,EL,FL,hPQ,hlt,hTb,rfl⟩:=outfn_ok hO H0.out HX.out nf (fun E pc hE => by obtain ⟨W,b,t,ht⟩:=HT.out kf x HX.out; exact tab_no ht hE)
 obtain ⟨N,hN⟩ : ∃ N,N = x.2.2.1.2.1:=⟨_,rfl⟩
 rw [← hN]
 obtain ⟨hi,hhi⟩ : ∃ hi : Nat,hi = (stA m (strBytes (P ++ x.2.1)) (x.2.2.2.map inx) Q N N).hi:=⟨_,rfl⟩
 rw [← hhi]
 have HB4:=hid (HB3.out.trans (hb.mono HB3.out.size))
 have B5:=below_new w4 (.cells #[.slice (some ⟨SH,0,none⟩) N N,.slice (some ⟨EN,0,none⟩) N N,.slice (some ⟨EL,0,none⟩) N N,.slice (some ⟨FL,0,none⟩) N N,.int .i64 hi] 39)
 have b5:=heap_alloc_new w4 (.cells #[.slice (some ⟨SH,0,none⟩) N N,.slice (some ⟨EN,0,none⟩) N N,.slice (some ⟨EL,0,none⟩) N N,.slice (some ⟨FL,0,none⟩) N N,.int .i64 hi] 39)
 have HB5:=hid (HB4.out.trans (B5.mono HB4.out.size))
 have HBX:=hid (blk_later B5 (blk_later hb HBX.out))
 have HTA:=hid b5
 have HTb:=hid (hTb.keep (kept_of B5))
 have HPQ:=hid (And.intro hPQ (And.intro hN hhi))
 have HLT:=hid (show SH < w4.heap.size ∧ EN < w4.heap.size ∧ EL < w4.heap.size ∧ FL < w4.heap.size from hlt)
 clear hO hb hTb hPQ hlt HH15 HB3 B5 b5 hN hhi
 have H16:=copyMod m _ (mco_of H0.out (HM.out _ HB5.out _ _ (Nat.le_refl _) (Nat.le_refl _)) HC.out (by have:=HSS.out; omega))
 unfold mV at H16
 have HH16:=hid H16
 clear H16
 have hc8:=eight_cells HBX.out
 obtain ⟨⟨m0,m1,m2,m3,m4,m5,m6,m7⟩,_⟩:=hc8
 go_wp2_with fail
 clear m0 m1 m2 m3 m4 m5 m6 m7
 obtain ⟨TA,hTA⟩ : ∃ TA,TA = w4.heap.size:=⟨_,rfl⟩
 rw [← hTA] at HTA HLT ⊢
 have HTAL:=hid (show TA < (w4.alloc (.cells #[.slice (some ⟨SH,0,none⟩) N N,.slice (some ⟨EN,0,none⟩) N N,.slice (some ⟨EL,0,none⟩) N N,.slice (some ⟨FL,0,none⟩) N N,.int .i64 hi] 39)).heap.size by rw [hTA]; simp)
 generalize w4.alloc (.cells #[.slice (some ⟨SH,0,none⟩) N N,.slice (some ⟨EN,0,none⟩) N N,.slice (some ⟨EL,0,none⟩) N N,.slice (some ⟨FL,0,none⟩) N N,.int .i64 hi] 39) = W5 at *
 clear hTA HB4
 refine HH16.out.mono ?_
 rintro e w6 ⟨n,rfl,hMC,hb⟩
 have HB6:=hid (HB5.out.trans (hb.mono HB5.out.size))
 have HTA:=hid (blk_later hb HTA.out)
 have HTb:=hid (HTb.out.keep (kept_of hb))
 have hnf : n.fn = m.fn:=hMC.fn
 obtain ⟨FB,fcur,hfa,hFB,hFbk,hFc⟩:=hMC.fblk (by omega)
 obtain ⟨y,hy⟩ : ∃ y,n.fns[kg]? = some y:=⟨_,List.getElem?_eq_getElem (by have:=hMC.fl; omega)⟩
 obtain ⟨u1,hu1⟩:=hFc (kg * 3 + 1) (by omega)
 obtain ⟨u2,hu2⟩:=hFc (kg * 3 + 2) (by omega)
 have hz1 : w6.frozen? ⟨FB,kg * 3 + 1,none⟩ = false:=free_at hFbk
 have hz2 : w6.frozen? ⟨FB,kg * 3 + 2,none⟩ = false:=free_at hFbk
 have hFl : FB < w6.heap.size:=blk_lt hFbk
 rw [hfa]
 have hW5 : W5.heap.size ≤ w6.heap.size:=hb.size
 have HMC:=hid (And.intro hMC (And.intro hfa (And.intro hy (And.intro hFB hFbk))))
 clear hMC hfa hy hFB hFbk hFc hb HH16
 have hkg' : (kg : Int) < (n.fn : Int):=by omega
 go_wp2_with fail
 have sw:=set_world w6 FB kg (.slice (some ⟨w6.heap.size + 1,0,none⟩) 2 2) (.string ⟨#[]⟩) (.cells #[.slice n.ta n.tn n.tc,.slice n.ha n.hn n.hc,.slice n.ga n.gn n.gc,.int .i64 n.fi,.int .i64 n.mo,.slice (some ⟨FB,0,none⟩) m.fn n.fc,.slice n.da n.dn n.dc,.slice n.ea n.en n.ec] 29) (.cells #[.int .u8 0,.int .i64 0,.slice none 0 0,.int .u8 6,.int .i64 0,.slice none 0 0] 51) hu1 hu2
 have BA:=below_new w6 (.cells #[.slice n.ta n.tn n.tc,.slice n.ha n.hn n.hc,.slice n.ga n.gn n.gc,.int .i64 n.fi,.int .i64 n.mo,.slice (some ⟨FB,0,none⟩) m.fn n.fc,.slice n.da n.dn n.dc,.slice n.ea n.en n.ec] 29)
 have BB:=below_new (w6.alloc (.cells #[.slice n.ta n.tn n.tc,.slice n.ha n.hn n.hc,.slice n.ga n.gn n.gc,.int .i64 n.fi,.int .i64 n.mo,.slice (some ⟨FB,0,none⟩) m.fn n.fc,.slice n.da n.dn n.dc,.slice n.ea n.en n.ec] 29)) (.cells #[.int .u8 0,.int .i64 0,.slice none 0 0,.int .u8 6,.int .i64 0,.slice none 0 0] 51)
 have bNB:=blk_later BB (heap_alloc_new w6 (.cells #[.slice n.ta n.tn n.tc,.slice n.ha n.hn n.hc,.slice n.ga n.gn n.gc,.int .i64 n.fi,.int .i64 n.mo,.slice (some ⟨FB,0,none⟩) m.fn n.fc,.slice n.da n.dn n.dc,.slice n.ea n.en n.ec] 29))
 have bCB : ((w6.alloc (.cells #[.slice n.ta n.tn n.tc,.slice n.ha n.hn n.hc,.slice n.ga n.gn n.gc,.int .i64 n.fi,.int .i64 n.mo,.slice (some ⟨FB,0,none⟩) m.fn n.fc,.slice n.da n.dn n.dc,.slice n.ea n.en n.ec] 29)).alloc (.cells #[.int .u8 0,.int .i64 0,.slice none 0 0,.int .u8 6,.int .i64 0,.slice none 0 0] 51)).heap[w6.heap.size + 1]? = some (.cells #[.int .u8 0,.int .i64 0,.slice none 0 0,.int .u8 6,.int .i64 0,.slice none 0 0] 51):=alloc_at (by simp)
 have hBC : Below w6.heap.size w6 ((w6.alloc (.cells #[.slice n.ta n.tn n.tc,.slice n.ha n.hn n.hc,.slice n.ga n.gn n.gc,.int .i64 n.fi,.int .i64 n.mo,.slice (some ⟨FB,0,none⟩) m.fn n.fc,.slice n.da n.dn n.dc,.slice n.ea n.en n.ec] 29)).alloc (.cells #[.int .u8 0,.int .i64 0,.slice none 0 0,.int .u8 6,.int .i64 0,.slice none 0 0] 51)):=BA.trans (BB.mono BA.size)
 have hzW : ((w6.alloc (.cells #[.slice n.ta n.tn n.tc,.slice n.ha n.hn n.hc,.slice n.ga n.gn n.gc,.int .i64 n.fi,.int .i64 n.mo,.slice (some ⟨FB,0,none⟩) m.fn n.fc,.slice n.da n.dn n.dc,.slice n.ea n.en n.ec] 29)).alloc (.cells #[.int .u8 0,.int .i64 0,.slice none 0 0,.int .u8 6,.int .i64 0,.slice none 0 0] 51)).heap.size = w6.heap.size + 2:=by simp
 clear BA BB
 generalize ((w6.alloc (.cells #[.slice n.ta n.tn n.tc,.slice n.ha n.hn n.hc,.slice n.ga n.gn n.gc,.int .i64 n.fi,.int .i64 n.mo,.slice (some ⟨FB,0,none⟩) m.fn n.fc,.slice n.da n.dn n.dc,.slice n.ea n.en n.ec] 29)).alloc (.cells #[.int .u8 0,.int .i64 0,.slice none 0 0,.int .u8 6,.int .i64 0,.slice none 0 0] 51)) = W1 at *
 generalize ((((w6.setCell ⟨FB,kg * 3 + 2,none⟩ (.slice (some ⟨w6.heap.size + 1,0,none⟩) 2 2)).setCell ⟨FB,kg * 3 + 1,none⟩ (.string ⟨#[]⟩)).alloc (.cells #[.slice n.ta n.tn n.tc,.slice n.ha n.hn n.hc,.slice n.ga n.gn n.gc,.int .i64 n.fi,.int .i64 n.mo,.slice (some ⟨FB,0,none⟩) m.fn n.fc,.slice n.da n.dn n.dc,.slice n.ea n.en n.ec] 29)).alloc (.cells #[.int .u8 0,.int .i64 0,.slice none 0 0,.int .u8 6,.int .i64 0,.slice none 0 0] 51)) = W9 at *
 obtain ⟨hkS,s1,s2,s3⟩:=sw
 have hMC1:=HMC.out.1.keep (kept_of hBC)
 have hy:=HMC.out.2.2.1
 have hmm:=HM.out w3
 clear hmm hu1 hu2 hz1 hz2
 have hN9 : FnN W1 FB (teF y.1 (w6.heap.size + 1)):=by
  refine ⟨⟨rfl,.inr ⟨w6.heap.size + 1,0,rfl,fun j z hj => ?_⟩⟩,fun b off c hb => ?_,fun i z hz => ?_⟩
  ·match j,hj with
   | 0,hj | 1,hj =>
    obtain rfl:=Option.some.inj hj
    exact ⟨cell_at bCB,cell_at bCB,cell_at bCB⟩
   | j + 2,hj => simp [teF,coT] at hj
  ·cases hb
   exact ⟨by omega,by omega⟩
  ·have hz' : z ∈ coT:=List.mem_of_getElem? hz
   have hz2 : 0 ≤ z.1 ∧ z.1 ≤ 255 ∧ z.2.2.1 = (none,0,0) ∧ z.2.2.2 = []:=by
    simp only [coT,inn,List.mem_cons,List.not_mem_nil,or_false] at hz'
    rcases hz' with rfl | rfl <;> exact ⟨by decide,by decide,rfl,rfl⟩
   obtain ⟨q1,q2,q3,q4⟩:=hz2
   refine ⟨q1,q2,?_,fun b off c hb => ?_⟩
   ·rw [q3,q4]; exact ⟨rfl,Nat.zero_le _,Nat.zero_le _,fun z hz => by simp at hz,.inl rfl⟩
   ·rw [q3] at hb; cases hb
 have hm0:=HM.out W5 HB5.out W5.heap.size W5.heap.size (Nat.le_refl _) (Nat.le_refl _)
 have HOK:=hid (hMC1.set (y':=teF y.1 (w6.heap.size + 1)) hm0 HMC.out.2.1 hy hkS s1 s2 s3 rfl hN9)
 have HCH:=hid (chk_set hMC1 hm0 H0.out HSS.out (CB:=w6.heap.size + 1) hy)
 have HNE:=hid (fun (j : Nat) (x : FuM) (E pc : Int) (hx : (setFn n kg (teF y.1 (w6.heap.size + 1))).fns[j]? = some x) (hE : ErrF (setFn n kg (teF y.1 (w6.heap.size + 1))) x E pc) => no_errF hMC1 hm0 H0.out HT.out hy hx hE)
 have HSM:=hid (same_set hMC1 nf hy (y':=teF y.1 (w6.heap.size + 1)) rfl)
 have HCP:=hid (show ∀ x ∈ (setFn n kg (teF y.1 (w6.heap.size + 1))).fns,x.2.2.1.2.1 ≤ x.2.2.1.2.2 from fun z hz => by
  rcases List.mem_or_eq_of_mem_set hz with hz | rfl
  ·exact hMC1.cap hm0 z hz
  ·exact Nat.le_refl 2)
 obtain ⟨x',hx'⟩ : ∃ x',n.fns[kf]? = some x':=⟨_,List.getElem?_eq_getElem (by have:=hMC1.fl; omega)⟩
 have HFS:=hid (hMC1.fs kf x x' HX.out hx')
 have HX2:=hid (show (setFn n kg (teF y.1 (w6.heap.size + 1))).fns[kf]? = some x' from (List.getElem?_set_ne (fun e => hne e.symm)).trans hx')
 have hFB:=HMC.out.2.2.2.1
 have hTAl:=HTAL.out
 have hlt4:=HLT.out
 have HTA:=hid ((hkS.block TA (by have:=hBC.size; omega) (by show ¬ TA = FB; omega)).trans (blk_later hBC HTA.out))
 have HTb:=hid ((HTb.out.keep (kept_of hBC)).keepS hkS (by show ¬ SH = FB; omega) (by show ¬ EN = FB; omega) (by show ¬ EL = FB; omega) (by show ¬ FL = FB; omega))
 have hNBF : ¬ w6.heap.size = FB:=by omega
 have HNB:=hid ((hkS.block w6.heap.size (by have:=hBC.size; omega) hNBF).trans bNB)
 have hb1:=HB6.out.trans (hBC.mono HB6.out.size)
 have HB9:=hid (hb1.trans (hkS.to_below (B:=w.heap.size) hb1.size (fun b hb hx => by have : b = FB:=hx; have:=HB5.out.size; omega)))
 have hsf : (setFn n kg (teF y.1 (w6.heap.size + 1))).fns.length = (setFn n kg (teF y.1 (w6.heap.size + 1))).fn:=by
  show (n.fns.set kg _).length = n.fn
  rw [List.length_set,hMC1.fl,hMC1.fn]
 have HSF:=hid hsf
 have hsz9 : w6.heap.size + 2 ≤ W9.heap.size:=by have:=hkS.size; omega
 have HFA:=hid HMC.out.2.1
 clear hkS s1 s2 s3 hMC1 hy hN9 hm0 hx' hFB hTAl hlt4 hNBF hb1 hsf bNB bCB hBC hzW HMC HLT HTAL HB6 HT hW5 hFl
 have hmv : mV (setFn n kg (teF y.1 (w6.heap.size + 1))) = #[.slice n.ta n.tn n.tc,.slice n.ha n.hn n.hc,.slice n.ga n.gn n.gc,.int .i64 n.fi,.int .i64 n.mo,.slice (some ⟨FB,0,none⟩) m.fn n.fc,.slice n.da n.dn n.dc,.slice n.ea n.en n.ec]:=by
  unfold mV
  show (#[.slice n.ta n.tn n.tc,.slice n.ha n.hn n.hc,.slice n.ga n.gn n.gc,.int .i64 n.fi,.int .i64 n.mo,.slice n.fa n.fn n.fc,.slice n.da n.dn n.dc,.slice n.ea n.en n.ec] : Array Value) = _
  rw [HFA.out,hnf]
 have H15:=function15 (setFn n kg (teF y.1 (w6.heap.size + 1))) (kf : Int) W9 (by omega) (by omega) (HK.out W9 HB9.out).1 (HK.out W9 HB9.out).2 HOK.out HCP.out
 rw [hmv] at H15
 refine H15.mono ?_
 clear H15
 intro e w10 hO
 obtain ⟨hb,P2,Q2,SH2,EN2,EL2,FL2,hPQ2,hlt,hTb2,rfl⟩:=outfn_ok hO HCH.out HX2.out HSF.out (fun E pc hE => HNE.out kf x' E pc HX2.out hE)
 have hPQ:=HPQ.out
 have hPP : P2 = P ∧ Q2 = Q:=by
  have h1:=hPQ.1
  have h2 : n.types[x'.1.toNat]? = some (P2,Q2):=hPQ2
  have h3 : n.types = m.types:=HSM.out.types
  rw [h3,HFS.out.ty,h1] at h2
  exact (Prod.mk.inj (Option.some.inj h2)).imp Eq.symm Eq.symm
 obtain ⟨rfl,rfl⟩:=hPP
 have hTb2:=hTb2.same HSM.out HFS.out
 have hhi2 : (stA (setFn n kg (teF y.1 (w6.heap.size + 1))) (strBytes (P2 ++ x'.2.1)) (x'.2.2.2.map inx) Q2 x'.2.2.1.2.1 x'.2.2.1.2.1).hi = hi:=by
  rw [HSM.out.stA HFS.out.sameX,HFS.out.n,HFS.out.lo,← hPQ.2.1,← hPQ.2.2]
 have hN2 : x'.2.2.1.2.1 = N:=by rw [HFS.out.n]; exact hPQ.2.1.symm
 rw [hhi2,hN2]
 have B11:=below_new w10 (.cells #[.slice (some ⟨SH2,0,none⟩) N N,.slice (some ⟨EN2,0,none⟩) N N,.slice (some ⟨EL2,0,none⟩) N N,.slice (some ⟨FL2,0,none⟩) N N,.int .i64 hi] 39)
 have b11:=heap_alloc_new w10 (.cells #[.slice (some ⟨SH2,0,none⟩) N N,.slice (some ⟨EN2,0,none⟩) N N,.slice (some ⟨EL2,0,none⟩) N N,.slice (some ⟨FL2,0,none⟩) N N,.int .i64 hi] 39)
 have hb11 : Below W9.heap.size W9 (w10.alloc (.cells #[.slice (some ⟨SH2,0,none⟩) N N,.slice (some ⟨EN2,0,none⟩) N N,.slice (some ⟨EL2,0,none⟩) N N,.slice (some ⟨FL2,0,none⟩) N N,.int .i64 hi] 39)):=hb.trans (B11.mono hb.size)
 have HB11:=hid (HB9.out.trans (hb11.mono HB9.out.size))
 have HTA:=hid (blk_later hb11 HTA.out)
 have HTb:=hid (HTb.out.keep (kept_of hb11))
 have HTb2:=hid (hTb2.keep (kept_of B11))
 have HNB:=hid (blk_later hb11 HNB.out)
 have HTA2:=hid b11
 have HOK:=hid (fun (R g' : Nat) (h1 : (w10.alloc (.cells #[.slice (some ⟨SH2,0,none⟩) N N,.slice (some ⟨EN2,0,none⟩) N N,.slice (some ⟨EL2,0,none⟩) N N,.slice (some ⟨FL2,0,none⟩) N N,.int .i64 hi] 39)).heap.size ≤ R) (h2 : (w10.alloc (.cells #[.slice (some ⟨SH2,0,none⟩) N N,.slice (some ⟨EN2,0,none⟩) N N,.slice (some ⟨EL2,0,none⟩) N N,.slice (some ⟨FL2,0,none⟩) N N,.int .i64 hi] 39)).heap.size ≤ g') => (HOK.out R g' (Nat.le_trans hb11.size h1) (Nat.le_trans hb11.size h2)).later hb11)
 have H10:=module10 (setFn n kg (teF y.1 (w6.heap.size + 1))) _ (HK.out _ HB11.out).1 (HK.out _ HB11.out).2 HOK.out HCP.out
 rw [hmv] at H10
 have HH10:=hid H10
 have hc8:=HNB.out
 have q0:=cell_at (i:=0) hc8
 have q1:=cell_at (i:=1) hc8
 have q2:=cell_at (i:=2) hc8
 have q3:=cell_at (i:=3) hc8
 have q4:=cell_at (i:=4) hc8
 have q5:=cell_at (i:=5) hc8
 have q6:=cell_at (i:=6) hc8
 have q7:=cell_at (i:=7) hc8
 simp only [List.getElem?_toArray,List.getElem?_cons_zero,List.getElem?_cons_succ] at q0 q1 q2 q3 q4 q5 q6 q7
 have hw10 : w6.heap.size + 2 ≤ w10.heap.size:=Nat.le_trans hsz9 hb.size
 have HHB:=hid hb
 clear hO hb hPQ2 hlt hTb2 hPQ hhi2 hN2 B11 b11 hb11 H10 hc8 hmv
 go_wp2_with fail
 clear q0 q1 q2 q3 q4 q5 q6 q7
 obtain ⟨TA2,hTA2⟩ : ∃ TA2,TA2 = w10.heap.size:=⟨_,rfl⟩
 rw [← hTA2] at HTA2 ⊢
 clear hTA2
 generalize w10.alloc (.cells #[.slice (some ⟨SH2,0,none⟩) N N,.slice (some ⟨EN2,0,none⟩) N N,.slice (some ⟨EL2,0,none⟩) N N,.slice (some ⟨FL2,0,none⟩) N N,.int .i64 hi] 39) = W11 at *
 refine HH10.out.mono ?_
 intro e w12 hO
 obtain ⟨hb,TT2,rfl⟩:=outm_ok hO HCH.out (fun j x E pc hx hE => HNE.out j x E pc hx hE)
 have tA:=blk_later hb HTA.out
 have tB:=blk_later hb HTA2.out
 have HB12:=hid (HB11.out.trans (hb.mono HB11.out.size))
 have hT1:=HTb.out.keep (kept_of hb)
 have hT2:=HTb2.out.keep (kept_of hb)
 have hPQ:=HPQ.out
 obtain ⟨t1,t2,t3,t4⟩:=hT1
 obtain ⟨r1,r2,r3,r4⟩:=hT2
 rw [← hPQ.2.1] at t1 t2 t3 t4 r1 r2 r3 r4
 have hshl : (stA m (strBytes (P2 ++ x.2.1)) (x.2.2.2.map inx) Q2 N N).sh.length = N:=by
  have:=t1.1
  simpa using this
 have hNb : N ≤ 1099511627776:=by
  have h1:=(HS.out w3)
  clear h1
  have hh:=fn_of H0.out (HM.out W5 HB5.out W5.heap.size W5.heap.size (Nat.le_refl _) (Nat.le_refl _)) HX.out
  obtain ⟨_,_,_,_,_,_,_,h7,_⟩:=hh
  have:=hPQ.2.1
  omega
 have HEQ:=hid (eqtab17 SH EN EL FL SH2 EN2 EL2 FL2 N hi _ _ _ _ w12 hNb hshl t1 r1 t2 r2 t3 r3 t4 r4)
 have a0 : w12.cell? ⟨TA,0,none⟩ = some (.slice (some ⟨SH,0,none⟩) N N):=cell_at tA
 have a1 : w12.cell? ⟨TA,1,none⟩ = some (.slice (some ⟨EN,0,none⟩) N N):=cell_at tA
 have a2 : w12.cell? ⟨TA,2,none⟩ = some (.slice (some ⟨EL,0,none⟩) N N):=cell_at tA
 have a3 : w12.cell? ⟨TA,3,none⟩ = some (.slice (some ⟨FL,0,none⟩) N N):=cell_at tA
 have a4 : w12.cell? ⟨TA,4,none⟩ = some (.int .i64 hi):=cell_at tA
 have b0 : w12.cell? ⟨TA2,0,none⟩ = some (.slice (some ⟨SH2,0,none⟩) N N):=cell_at tB
 have b1 : w12.cell? ⟨TA2,1,none⟩ = some (.slice (some ⟨EN2,0,none⟩) N N):=cell_at tB
 have b2 : w12.cell? ⟨TA2,2,none⟩ = some (.slice (some ⟨EL2,0,none⟩) N N):=cell_at tB
 have b3 : w12.cell? ⟨TA2,3,none⟩ = some (.slice (some ⟨FL2,0,none⟩) N N):=cell_at tB
 have b4 : w12.cell? ⟨TA2,4,none⟩ = some (.int .i64 hi):=cell_at tB
 clear hO hb t1 t2 t3 t4 r1 r2 r3 r4 hPQ hshl tA tB
 go_wp2_with fail
 refine HEQ.out.mono ?_
 rintro e w13 ⟨rfl,hb⟩
 have HB13:=hid (HB12.out.trans (hb.mono HB12.out.size))
 clear hb
 go_wp2_with fail
 go_ret
 exact ⟨rfl,HB13.out⟩
end Go.Proofs.YtepnnenohjfkbaaGreatDoor
