/-
  Texts Jx Yg.
-/
import Derived.Test.YtepnnenohjfkbaaGreatDoorP00
import Derived.Test.YtepnnenohjfkbaaGreatDoorP23
import Derived.Test.YtepnnenohjfkbaaGreatDoorP34
import Derived.Test.YtepnnenohjfkbaaGreatDoorP38
set_option linter.unusedVariables false
set_option maxRecDepth 100000
set_option maxHeartbeats 16000000
namespace Go.Proofs.YtepnnenohjfkbaaGreatDoor
open Go.RowKit
def fM (T : Nat → ByteArray) (n : Nat) (j : Nat) : ByteArray:=if j < n then T j else ⟨#[]⟩
def ll (m : MM) (x : FuM) (T : Nat → ByteArray) (sn : Nat) : Bool :=
 decide ((res (opF (x.2.2.2.map inx)) x.2.2.1.2.1 0).1 = 0) && (decide (sn = x.2.2.1.2.1) && (j5 T sn && vU m (aD ((bE m x.1).1 ++ x.2.1)) (bE m x.1).2 (x.2.2.2.map inx) (fM T sn) x.2.2.1.2.1))
def ky (m : MM) (f : Int) (T : Nat → ByteArray) (sn : Nat) : Bool :=
 if cB m = 0 then (if f < 0 ∨ (m.fn : Int) ≤ f then false else ((m.fns[f.toNat]?).map fun x => ll m x T sn).getD false) else false
abbrev hcS (FB : Nat) (cv : Value) (W : World) : Prop:=W.cell? ⟨FB,2,none⟩ = some cv
theorem QB {m : MM} {w W : World} (h0 : cB m = 0) (hk : aW w) (hp : 0 < w.heap.size) (hm : MOk w w.heap.size w.heap.size m) (hb : Below w.heap.size w W) {kf t : Nat} {x : FuM} (hx : m.fns[kf]? = some x) {P Q : ByteArray} (ht : x.1 = t) (hP : m.types[t]? = some (P,Q))
  (hll : ∀ z ∈ aD (P ++ x.2.1),z = 119 ∨ z = 108) (h64 : P.size + x.2.1.size ≤ 64) (hn : x.2.2.1.2.1 ≤ 2048) (hG : Good (opF (x.2.2.2.map inx)) x.2.2.1.2.1)
  {J L lc cb coff cc RB A B C sb soff sc : Nat} {T : Nat → ByteArray} (hcd : Cod w cb coff x.2.2.1.2.1 (x.2.2.2.map inx)) (hT : ∀ j,j < x.2.2.1.2.1 → w.cell? ⟨sb,soff + j,none⟩ = some (.string (T j))) (hal : ∀ j,j < x.2.2.1.2.1 → lett (T j) 256 = true)
  (hJ : W.heap[J]? = some (.cells #[.slice m.ta m.tn m.tc,.slice m.ha m.hn m.hc,.slice m.ga m.gn m.gc,.int .i64 m.fi,.int .i64 m.mo,.slice m.fa m.fn m.fc,.slice m.da m.dn m.dc,.slice m.ea m.en m.ec,.string Q,.slice (some ⟨L,0,none⟩) (P.size + x.2.1.size) lc,.slice (some ⟨cb,coff,none⟩) x.2.2.1.2.1 cc,.slice (some ⟨RB,0,none⟩) x.2.2.1.2.1 x.2.2.1.2.1,.slice (some ⟨A,0,none⟩) x.2.2.1.2.1 x.2.2.1.2.1,.slice (some ⟨B,0,none⟩) x.2.2.1.2.1 x.2.2.1.2.1,.slice (some ⟨C,0,none⟩) x.2.2.1.2.1 x.2.2.1.2.1,.slice (some ⟨sb,soff,none⟩) x.2.2.1.2.1 sc] 95))
  (hL : ∀ (j : Nat) z,(aD (P ++ x.2.1))[j]? = some z → W.cell? ⟨L,j,none⟩ = some (.int .u8 z)) (hRB : ∀ j,j < x.2.2.1.2.1 → ∀ q,q < 6 → W.cell? ⟨RB,j * 6 + q,none⟩ = (rv (ofV (opF (x.2.2.2.map inx) j)).1)[q]?)
  (hA : RI W A x.2.2.1.2.1 (enF (opF (x.2.2.2.map inx)) x.2.2.1.2.1)) (hB : RI W B x.2.2.1.2.1 (elF (opF (x.2.2.2.map inx)) x.2.2.1.2.1)) (hC : RI W C x.2.2.1.2.1 (owF (opF (x.2.2.2.map inx)) x.2.2.1.2.1)) :
  Jw ⟨J,L,lc,cb,coff,cc,RB,A,B,C,sb,soff,sc,x.2.2.1.2.1,m,Q,aD (P ++ x.2.1),x.2.2.2.map inx,fM T x.2.2.1.2.1⟩ W ∧ JS ⟨J,L,lc,cb,coff,cc,RB,A,B,C,sb,soff,sc,x.2.2.1.2.1,m,Q,aD (P ++ x.2.1),x.2.2.2.map inx,fM T x.2.2.1.2.1⟩:=by
 have hev:=Hs h0 hm hk hp;have hLL:=NY h0;have hmW:=hm.later hb;have hlen : (aD (P ++ x.2.1)).length = (P ++ x.2.1).size:=cR _
 refine ⟨⟨ai hJ,ai hJ,ai hJ,ai hJ,ai hJ,?_,ai hJ,ai hJ,ai hJ,ai hJ,ai hJ,ai hJ,hL,hcd.later hb (Nat.le_refl _),hRB,hA,hB,hC,fun j hj => ?_,hmW.pt,hmW.ph,hmW.pg,hmW.pf⟩,?_⟩
 ·show W.cell? ⟨J,9,none⟩ = some (.slice (some ⟨L,0,none⟩) (aD (P ++ x.2.1)).length lc)
  rw [hlen,ByteArray.size_append];exact ai hJ
 ·show W.cell? ⟨sb,soff + j,none⟩ = some (.string (fM T x.2.2.1.2.1 j))
  unfold fM;rw [if_pos hj];exact ag hb (hT j hj)
 ·have hQ8 : Q.size ≤ 8:=(hev.tL _ (List.mem_of_getElem? hP)).2
  refine ⟨hn,by have:=hev.t64; show m.tn ≤ _; omega,fun a => ⟨(hLL a).2.2,?_⟩,hQ8,fun j => ?_,hG,hll,hev.gL,hev.hT,hev.fT,?_,by have:=hev.g64; show m.gn ≤ _; omega,by have:=hev.h32; show m.hn ≤ _; omega,by have:=hev.f128; show m.fn ≤ _; omega⟩
  ·exact Ii
  ·show (fM T x.2.2.1.2.1 j).size ≤ 256
   exact CH
  ·show (aD (P ++ x.2.1)).length ≤ _
   rw [hlen,ByteArray.size_append];omega
theorem Dz (m : MM) (f : Int) (w : World) (hf0 : -9223372036854775808 ≤ f) (hf1 : f ≤ 9223372036854775807) (hk : aW w) (hp : 0 < w.heap.size) (hm : ∀ R g,w.heap.size ≤ R → w.heap.size ≤ g → MOk w R g m) (hcap : ∀ x ∈ m.fns,x.2.2.1.2.1 ≤ x.2.2.1.2.2)
  {sa : Option Addr} {sn sc : Nat} {T : Nat → ByteArray} (hT : AtT w sa sn T) (hsn : sn ≤ 1099511627776) (hsz : ∀ j,j < sn → (T j).size ≤ 281474976710656) :
  Calls Tryz.prog 23 #[.agg (mV m),.int .i64 f,.slice sa sn sc] w fun e w' => e = .returned (.bool (ky m f T sn)) ∧ Below w.heap.size w w':=by
 have B0:=aj w (.cells (mV m) 29);have b0:=heap_alloc_new w (.cells (mV m) 29);have hz : (w.alloc (.cells (mV m) 29)).heap.size = w.heap.size + 1:=ak
 have HE:=hid (MU m (w.alloc (.cells (mV m) 29)) (hk.later B0 hp) (fun R g h1 h2 => (hm R g ae ae).later B0))
 have HM:=hid (hm w.heap.size w.heap.size (Nat.le_refl _) (Nat.le_refl _));have HK:=hid hk;have HCP:=hid hcap;have HTT:=hid hT;have HSZ:=hid hsz;clear hm hk hcap hT hsz;have m0 : (w.alloc (.cells (mV m) 29)).cell? ⟨w.heap.size,0,none⟩ = some (.slice m.ta m.tn m.tc):=ai b0;have m1 : (w.alloc (.cells (mV m) 29)).cell? ⟨w.heap.size,1,none⟩ = some (.slice m.ha m.hn m.hc):=ai b0;have m2 : (w.alloc (.cells (mV m) 29)).cell? ⟨w.heap.size,2,none⟩ = some (.slice m.ga m.gn m.gc):=ai b0;have m3 : (w.alloc (.cells (mV m) 29)).cell? ⟨w.heap.size,3,none⟩ = some (.int .i64 m.fi):=ai b0;have m4 : (w.alloc (.cells (mV m) 29)).cell? ⟨w.heap.size,4,none⟩ = some (.int .i64 m.mo):=ai b0;have m5 : (w.alloc (.cells (mV m) 29)).cell? ⟨w.heap.size,5,none⟩ = some (.slice m.fa m.fn m.fc):=ai b0;have m6 : (w.alloc (.cells (mV m) 29)).cell? ⟨w.heap.size,6,none⟩ = some (.slice m.da m.dn m.dc):=ai b0;have m7 : (w.alloc (.cells (mV m) 29)).cell? ⟨w.heap.size,7,none⟩ = some (.slice m.ea m.en m.ec):=ai b0;have HW : w.alloc (bD m.ta m.tn m.tc m.ha m.hn m.hc m.ga m.gn m.gc m.fi m.mo m.fa m.fn m.fc m.da m.dn m.dc m.ea m.en m.ec) = w.alloc (.cells (mV m) 29):=rfl;generalize w.alloc (.cells (mV m) 29) = W0 at *;unfold mV at HE
 show Calls Tryz.prog 23 #[.agg #[.slice m.ta m.tn m.tc,.slice m.ha m.hn m.hc,.slice m.ga m.gn m.gc,.int .i64 m.fi,.int .i64 m.mo,.slice m.fa m.fn m.fc,.slice m.da m.dn m.dc,.slice m.ea m.en m.ec],.int .i64 f,.slice sa sn sc] w _
 go_enter Tryz.func23,Tryz.ntmps23
 go_wp2_with fail;refine HE.out.mono ?_;rintro e w2 ⟨rfl,hb2⟩;have m0:=ag hb2 m0;have m1:=ag hb2 m1;have m2:=ag hb2 m2;have m3:=ag hb2 m3;have m4:=ag hb2 m4;have m5:=ag hb2 m5;have m6:=ag hb2 m6;have m7:=ag hb2 m7;have hB2 : Below w.heap.size w w2:=B0.trans (hb2.mono B0.size);have HB2:=hid hB2;clear hB2 b0 B0 HE HW hb2 hz
 by_cases hx : cB m = 0
 rotate_left
 ·have hx' : (cB m != 0) = true:=by simpa using hx
  have HV:=hid (show ky m f T sn = false by unfold ky; rw [if_neg hx])
  exact CM
 rw [hx]
 by_cases hr : f < 0 ∨ (m.fn : Int) ≤ f
 ·have HV:=hid (show ky m f T sn = false by unfold ky; rw [if_pos hx,if_pos hr])
  exact Jz
 obtain ⟨kf,rfl⟩ : ∃ kf : Nat,f = kf:=⟨f.toNat,ae⟩;have hkf : kf < m.fn:=ae;have hml:=HM.out.pf.1;obtain ⟨x,hxk⟩ : ∃ x,m.fns[kf]? = some x:=⟨_,aN ae⟩
 have HV:=hid (show ky m kf T sn = ll m x T sn by unfold ky; rw [if_pos hx,if_neg hr,Int.toNat_natCast,hxk]; rfl)
 obtain ⟨fb,foff,hfa,hat⟩:=HM.out.pf.2.resolve_left ae;have hat:=hat kf x hxk;obtain ⟨t,P,Q,ht,hP,h64,hll,hn,hcs,hln⟩:=N3 hx HM.out hxk;have hcp:=HCP.out x (List.mem_of_getElem? hxk);have n0:=ag HB2.out hat.1;have n1:=ag HB2.out hat.2.1;have n2:=ag HB2.out hat.2.2;have d1 : decide ((kf : Int) < 0) = false:=ak;have d2 : decide ((m.fn : Int) ≤ (kf : Int)) = false:=aG;have d3 : (kf : Int) < (m.fn : Int):=ae
 have H51:=hid (fun (W : World) (hb : Below w.heap.size w W) => PN x.2.2.1.1 x.2.2.1.2.1 x.2.2.1.2.2 (x.2.2.2.map inx) W ae hcp (hcs.later hb (Nat.le_refl _)))
 rw [hfa] at m5;rw [ht] at n0;have HCS:=hid hcs;have HLN:=hid hln;have HLL:=hid hll;have HTY : Hid (bE m x.1 = (P,Q)):=hid Ef;clear hat hr hml hcs hln hll;go_wp2_with fail;have B3:=HB2.out.trans ((aj w2 (aI (t : Int) x.2.1 x.2.2.1.1 x.2.2.1.2.1 x.2.2.1.2.2)).mono HB2.out.size);have b3:=heap_alloc_new w2 (aI (t : Int) x.2.1 x.2.2.1.1 x.2.2.1.2.1 x.2.2.1.2.2);have BN:=aj w2 (aI (t : Int) x.2.1 x.2.2.1.1 x.2.2.1.2.1 x.2.2.1.2.2);refine (H51.out _ B3).mono ?_;rintro e w3 ⟨a1,a2,a3,mm,rfl,hMO,hb3⟩;have f0:=ai (i:=0) (ar hb3 b3);have f1:=ai (i:=1) (ar hb3 b3);have f2:=ai (i:=2) (ar hb3 b3);have BX:=BN.trans (hb3.mono BN.size);have m0:=ag BX m0;have m1:=ag BX m1;have m2:=ag BX m2;have m3:=ag BX m3;have m4:=ag BX m4;have m5:=ag BX m5;have m6:=ag BX m6;have m7:=ag BX m7;have HB3:=hid (B3.trans (hb3.mono B3.size));have HMO:=hid hMO;have HFB:=hid (show w2.heap.size ≤ (w2.alloc (aI (t : Int) x.2.1 x.2.2.1.1 x.2.2.1.2.1 x.2.2.1.2.2)).heap.size from BN.size);clear B3 b3 BN hb3 BX hMO H51 n0 n1 n2 HB2;generalize w2.heap.size = FB at *
 by_cases hres : (res (opF (x.2.2.2.map inx)) x.2.2.1.2.1 0).1 = 0
 rotate_left
 ·have hr' : ((res (opF (x.2.2.2.map inx)) x.2.2.1.2.1 0).1 != 0) = true:=by simpa using hres
  have HX:=hid (show ll m x T sn = false by unfold ll; rw [decide_eq_false hres,Bool.false_and])
  clear hres m0 m1 m2 m3 m4 m5 m6 m7;generalize (res (opF (x.2.2.2.map inx)) x.2.2.1.2.1 0).1 = re at *;generalize (res (opF (x.2.2.2.map inx)) x.2.2.1.2.1 0).2 = re2 at *;go_wp2_with fail;go_ret;exact ⟨vg,HB3.out⟩
 obtain ⟨hG,rfl,A,B,C,g1,g2,g3,_,_,_,rfl,rfl,rfl,rA,rB,rC⟩ : Good (opF (x.2.2.2.map inx)) x.2.2.1.2.1 ∧ mm = x.2.2.1.2.1 ∧ ∃ A B C,FB ≤ A ∧ FB ≤ B ∧ FB ≤ C ∧ A ≠ B ∧ A ≠ C ∧ B ≠ C ∧ a1 = some ⟨A,0,none⟩ ∧ a2 = some ⟨B,0,none⟩ ∧ a3 = some ⟨C,0,none⟩ ∧ RI w3 A x.2.2.1.2.1 (enF (opF (x.2.2.2.map inx)) x.2.2.1.2.1) ∧ RI w3 B x.2.2.1.2.1 (elF (opF (x.2.2.2.map inx)) x.2.2.1.2.1) ∧ RI w3 C x.2.2.1.2.1 (owF (opF (x.2.2.2.map inx)) x.2.2.1.2.1):=by
  rcases HMO.out with ⟨h,_⟩ | ⟨_,g0,rfl,A,B,C,q1,q2,q3,q4,q5,q6,q7,q8,q9,y1,y2,y3⟩
  ·exact absurd hres h
  ·refine ⟨g0,rfl,A,B,C,?_,?_,?_,q4,q5,q6,q7,q8,q9,y1,y2,y3⟩
   ·have:=HFB.out; omega
   ·have:=HFB.out; omega
   ·have:=HFB.out; omega
 rw [hres];generalize (res (opF (x.2.2.2.map inx)) x.2.2.1.2.1 0).2 = re2 at *;have HABC:=hid (And.intro rA (And.intro rB rC));have HG:=hid hG;clear HMO rA rB rC hG
 by_cases hsn2 : sn = x.2.2.1.2.1
 rotate_left
 ·have d5 : ((sn : Int) != (x.2.2.1.2.1 : Int)) = true:=aG
  have HX:=hid (show ll m x T sn = false by unfold ll; rw [decide_eq_false hsn2,Bool.false_and,Bool.and_false])
  clear hsn2 m0 m1 m2 m3 m4 m5 m6 m7;generalize x.2.2.1.2.1 = cn at *;go_wp2_with fail;go_ret;exact ⟨vg,HB3.out⟩
 subst hsn2;have d5 : ((x.2.2.1.2.1 : Int) != (x.2.2.1.2.1 : Int)) = false:=ak;have H52:=hid (QV (cap:=sc) (HTT.out.later HB3.out) hsn HSZ.out);have h0n:=HG.out.1;obtain ⟨cb,coff,hca,hcd⟩:=HCS.out.2.resolve_left ae;obtain ⟨sb,soff,hsa,hcT⟩:=HTT.out.resolve_left ae;rw [hca] at f2;rw [hca,hsa];rw [hsa] at H52;go_wp2_with fail;refine H52.out.mono ?_;rintro e w4 ⟨rfl,hb4⟩
 cases hav : j5 T x.2.2.1.2.1 with
 | false =>
  have HX:=hid (show ll m x T x.2.2.1.2.1 = false by unfold ll; rw [hav,Bool.false_and,Bool.and_false,Bool.and_false])
  have HB4:=hid (HB3.out.trans (hb4.mono HB3.out.size));clear hb4 m0 m1 m2 m3 m4 m5 m6 m7;go_wp2_with fail;go_ret;exact ⟨vg,HB4.out⟩
 | true =>
  have HAL:=hid (iR.1 hav)
  have HX:=hid (show ll m x T x.2.2.1.2.1 = vU m (aD (P ++ x.2.1)) Q (x.2.2.2.map inx) (fM T x.2.2.1.2.1) x.2.2.1.2.1 by unfold ll; rw [hav,HTY.out,decide_eq_true hres,decide_eq_true rfl,Bool.true_and,Bool.true_and,Bool.true_and])
  have HB4:=hid (HB3.out.trans (hb4.mono HB3.out.size));have f0:=ag hb4 f0;have f1:=ag hb4 f1;have f2:=ag hb4 f2;have m0:=ag hb4 m0;have m1:=ag hb4 m1;have m2:=ag hb4 m2;have m3:=ag hb4 m3;have m4:=ag hb4 m4;have m5:=ag hb4 m5;have m6:=ag hb4 m6;have m7:=ag hb4 m7;have HABC:=hid (And.intro (HABC.out.1.keep (hb4.block _ HABC.out.1.lt)) (And.intro (HABC.out.2.1.keep (hb4.block _ HABC.out.2.1.lt)) (HABC.out.2.2.keep (hb4.block _ HABC.out.2.2.lt))));have htl:=HM.out.pt.1;have hkl2:=ax hP;obtain ⟨tb,toff,hta,hat2⟩:=HM.out.pt.2.resolve_left ae;have q0:=ag HB4.out (hat2 t _ hP).1;have q1:=ag HB4.out (hat2 t _ hP).2;dsimp only at q0 q1;have d6 : (t : Int) < (m.tn : Int):=ae;rw [hta] at m0
  have hPl : (P ++ x.2.1).size ≤ 1000000:=by rw [ByteArray.size_append]; omega
  have s1 : ¬ 9223372036854775807 < P.size + x.2.1.size:=ae;clear hb4 H52 hat2;have HMM:=hid (And.intro m0 (And.intro m1 (And.intro m2 (And.intro m3 (And.intro m4 (And.intro m5 (And.intro m6 m7)))))));have hwl : w.heap.size < w4.heap.size:=block_lt_of_cell m0;have hfl : FB < w4.heap.size:=block_lt_of_cell f0;have htl2 : tb < w4.heap.size:=block_lt_of_cell q0;have BT:=aj w4 (aB P Q);obtain ⟨lc,Wg,hcv,hseg,BG,hzW⟩:=mU (w4.alloc (aB P Q)) (P ++ x.2.1) hPl;have B4g:=BT.trans (BG.mono BT.size);have HBG:=hid (And.intro B4g hseg);clear hzW hseg BG BT B4g;go_wp2_with fail;clear hcv q0 q1 m0 m1 m2 m3 m4 m5 m6 m7 f0 f1;have bJ:=heap_alloc_new Wg (.cells #[.slice (some ⟨tb,toff,none⟩) m.tn m.tc,.slice m.ha m.hn m.hc,.slice m.ga m.gn m.gc,.int .i64 m.fi,.int .i64 m.mo,.slice (some ⟨fb,foff,none⟩) m.fn m.fc,.slice m.da m.dn m.dc,.slice m.ea m.en m.ec,.string Q,.slice (some ⟨w4.heap.size + 1,0,none⟩) (P.size + x.2.1.size) lc,.slice none 0 0,.slice none 0 0,.slice none 0 0,.slice none 0 0,.slice none 0 0,.slice (some ⟨sb,soff,none⟩) x.2.2.1.2.1 sc] 95);have BJ:=aj Wg (.cells #[.slice (some ⟨tb,toff,none⟩) m.tn m.tc,.slice m.ha m.hn m.hc,.slice m.ga m.gn m.gc,.int .i64 m.fi,.int .i64 m.mo,.slice (some ⟨fb,foff,none⟩) m.fn m.fc,.slice m.da m.dn m.dc,.slice m.ea m.en m.ec,.string Q,.slice (some ⟨w4.heap.size + 1,0,none⟩) (P.size + x.2.1.size) lc,.slice none 0 0,.slice none 0 0,.slice none 0 0,.slice none 0 0,.slice none 0 0,.slice (some ⟨sb,soff,none⟩) x.2.2.1.2.1 sc] 95);have B48:=HBG.out.1.trans (BJ.mono HBG.out.1.size);have hf2:=ag B48 f2;have HB8:=hid (HB4.out.trans (B48.mono HB4.out.size))
  have HS8:=hid (fun (j : Nat) z (hj : (aD (P ++ x.2.1))[j]? = some z) => ag BJ (DI HBG.out.2 j z hj))
  have HL8:=hid (fun (j : Nat) z (hj : (aD (P ++ x.2.1))[j]? = some z) => block_lt_of_cell (DI HBG.out.2 j z hj))
  have hJ4 : w4.heap.size ≤ Wg.heap.size:=HBG.out.1.size;have hJ8 : (Wg.alloc (.cells #[.slice (some ⟨tb,toff,none⟩) m.tn m.tc,.slice m.ha m.hn m.hc,.slice m.ga m.gn m.gc,.int .i64 m.fi,.int .i64 m.mo,.slice (some ⟨fb,foff,none⟩) m.fn m.fc,.slice m.da m.dn m.dc,.slice m.ea m.en m.ec,.string Q,.slice (some ⟨w4.heap.size + 1,0,none⟩) (P.size + x.2.1.size) lc,.slice none 0 0,.slice none 0 0,.slice none 0 0,.slice none 0 0,.slice none 0 0,.slice (some ⟨sb,soff,none⟩) x.2.2.1.2.1 sc] 95)).heap.size = Wg.heap.size + 1:=ak;have HJ8:=hid (And.intro hJ4 hJ8);have HB48:=hid B48;have HbJ:=hid bJ;clear bJ BJ B48 f2 HBG hJ8 hJ4
  have hJF : FB < Wg.heap.size:=by have:=HJ8.out.1; omega
  have H53:=hid (fun (W : World) (hb : Below w.heap.size w W) => Oh (cc:=x.2.2.1.2.2) (hcd.later hb (Nat.le_refl _)) hn (HK.out.later hb hp) (Nat.lt_of_lt_of_le hp hb.size))
  have hz1 : (w4.alloc (aB P Q)).heap.size = w4.heap.size + 1:=ak;rw [hz1] at HS8 HL8;clear hz1;generalize Wg.alloc (.cells #[.slice (some ⟨tb,toff,none⟩) m.tn m.tc,.slice m.ha m.hn m.hc,.slice m.ga m.gn m.gc,.int .i64 m.fi,.int .i64 m.mo,.slice (some ⟨fb,foff,none⟩) m.fn m.fc,.slice m.da m.dn m.dc,.slice m.ea m.en m.ec,.string Q,.slice (some ⟨w4.heap.size + 1,0,none⟩) (P.size + x.2.1.size) lc,.slice none 0 0,.slice none 0 0,.slice none 0 0,.slice none 0 0,.slice none 0 0,.slice (some ⟨sb,soff,none⟩) x.2.2.1.2.1 sc] 95) = W8 at *;generalize Wg.heap.size = J at *;have hf2d : hcS FB (.slice (some ⟨cb,coff,none⟩) x.2.2.1.2.1 x.2.2.1.2.2) W8.drew:=hf2
  refine wp_region_held_drew (S:=hcS FB (.slice (some ⟨cb,coff,none⟩) x.2.2.1.2.1 x.2.2.1.2.2)) aw hf2d (fun hHeld => ?_)
  clear hf2;refine tkB (i:=0) (oi:={ dst:=some 76,op:=.move (.tmp 14),type:=92,pos:= "judge.go:28",after:=#[],guard:=none }) (d:=some 76) ?_;(try simp only [Act.put,sIB,sC0,sCs]);refine tkB (i:=1) (oi:={ dst:=some 77,op:=.move (.tmp 14),type:=92,pos:= "judge.go:28",after:=#[{ on:=9,ground:=.gcOnly Go.Departure.lateStores }],guard:=none }) (d:=some 77) ?_;(try simp only [Act.put,sIB,sC0,sCs]);refine tkB (i:=2) (oi:={ dst:=some 78,op:=.fieldAddr 42 (.tmp 7) 2,type:=0,pos:= "judge.go:28",after:=#[],guard:=none }) (d:=some 78) ?_;(try simp only [Act.put,sIB,sC0,sCs]);refine tkB (i:=3) (oi:={ dst:=some 79,op:=.load 40 (.tmp 78),type:=40,pos:= "judge.go:28",after:=#[⟨2,.data⟩],guard:=none }) (d:=some 79) ?_;(try simp only [Act.put,sIB,sC0,sCs]);refine tkB (i:=4) (oi:={ dst:=some 80,op:=.fieldAddr 42 (.tmp 7) 2,type:=0,pos:= "judge.go:28",after:=#[],guard:=none }) (d:=some 80) ?_;(try simp only [Act.put,sIB,sC0,sCs]);refine tkB (i:=5) (oi:={ dst:=some 81,op:=.load 40 (.tmp 80),type:=40,pos:= "judge.go:28",after:=#[⟨4,.data⟩],guard:=none }) (d:=some 81) ?_;(try simp only [Act.put,sIB,sC0,sCs]);refine rdY (rs:=[6]) ?_
  refine rdA (o:={ dst:=some 82,op:=.call { callee:=.value (.func 53),args:=#[.tmp 81],argTypes:=#[40] },type:=93,pos:= "judge.go:28",after:=#[⟨5,.data⟩],guard:=none }) (fun K hK => ?_) rN
  go_simp;refine (H53.out _ HB8.out.drew).mono ?_;rintro e w9 ⟨RB,rfl,hRB,hrow,hb9⟩;have hS9 : hcS FB (.slice (some ⟨cb,coff,none⟩) x.2.2.1.2.1 x.2.2.1.2.2) w9:=ag hb9 hHeld;have b9:=ar hb9 (show W8.drew.heap[J]? = _ from HbJ.out);have k0:=ai (i:=10) b9;have k1:=ai (i:=11) b9;have k2:=ai (i:=12) b9;have k3:=ai (i:=13) b9;have k4:=ai (i:=14) b9;have l0:=free_at (i:=10) b9;have l1:=free_at (i:=11) b9;have l2:=free_at (i:=12) b9;have l3:=free_at (i:=13) b9;have l4:=free_at (i:=14) b9;have HR9:=hid (And.intro hRB (And.intro hrow (And.intro hb9 b9)))
  refine hK.out _ _ hS9 (fun _ => ?_)
  clear hK K hb9 b9 hRB hrow hHeld hf2d;refine tkB (i:=7) (oi:={ dst:=some 83,op:=.nilCheck (.tmp 76),type:=0,pos:= "judge.go:28",after:=#[⟨0,.data⟩,⟨0,.phase⟩,{ on:=1,ground:=.textOnly Go.Departure.lateStores },⟨2,.phase⟩,⟨3,.phase⟩,{ on:=4,ground:=.textOnly Go.Departure.lateStores },{ on:=5,ground:=.textOnly Go.Departure.lateStores },⟨6,.phase⟩],guard:=none }) (d:=some 83) ?_;(try simp only [Act.put,sIB,sC0,sCs]);refine tkB (i:=8) (oi:={ dst:=some 84,op:=.fieldAddr 95 (.tmp 83) 3,type:=0,pos:= "judge.go:28",after:=#[⟨7,.data⟩,⟨0,.phase⟩,{ on:=1,ground:=.textOnly Go.Departure.lateStores },⟨2,.phase⟩,⟨3,.phase⟩,{ on:=4,ground:=.textOnly Go.Departure.lateStores },{ on:=5,ground:=.textOnly Go.Departure.lateStores },⟨6,.phase⟩],guard:=none }) (d:=some 84) ?_;(try simp only [Act.put,sIB,sC0,sCs]);refine rdY (rs:=[9]) ?_
  refine rdA (o:={ dst:=none,op:=.store 40 (.tmp 84) (.tmp 79),type:=0,pos:= "judge.go:28",after:=#[⟨8,.data⟩,⟨3,.data⟩,⟨6,.chain⟩,⟨0,.phase⟩,{ on:=1,ground:=.textOnly Go.Departure.lateStores },⟨2,.phase⟩,⟨3,.phase⟩,{ on:=4,ground:=.textOnly Go.Departure.lateStores },{ on:=5,ground:=.textOnly Go.Departure.lateStores },⟨6,.phase⟩],guard:=none }) (fun K hK => ?_) rN
  go_simp
  have hS10 : hcS FB (.slice (some ⟨cb,coff,none⟩) x.2.2.1.2.1 x.2.2.1.2.2) (w9.setCell ⟨J,10,none⟩ (.slice (some ⟨cb,coff,none⟩) x.2.2.1.2.1 x.2.2.1.2.2)):=(ay w9 J 10 _).cell hS9 (by show FB ≠ J; omega)
  refine hK.out _ _ hS10 (fun _ => ?_)
  clear hK K hS9;refine tkB (i:=10) (oi:={ dst:=some 85,op:=.nilCheck (.tmp 77),type:=0,pos:= "judge.go:28",after:=#[⟨1,.data⟩,⟨0,.phase⟩,⟨1,.phase⟩,⟨2,.phase⟩,⟨3,.phase⟩,⟨4,.phase⟩,⟨5,.phase⟩,⟨6,.phase⟩,⟨7,.phase⟩,⟨8,.phase⟩,⟨9,.phase⟩],guard:=none }) (d:=some 85) ?_;(try simp only [Act.put,sIB,sC0,sCs]);refine tkB (i:=11) (oi:={ dst:=some 86,op:=.fieldAddr 95 (.tmp 85) 4,type:=0,pos:= "judge.go:28",after:=#[⟨10,.data⟩,⟨0,.phase⟩,⟨1,.phase⟩,⟨2,.phase⟩,⟨3,.phase⟩,⟨4,.phase⟩,⟨5,.phase⟩,⟨6,.phase⟩,⟨7,.phase⟩,⟨8,.phase⟩,⟨9,.phase⟩],guard:=none }) (d:=some 86) ?_;(try simp only [Act.put,sIB,sC0,sCs]);refine rdY (rs:=[12]) ?_
  refine rdA (o:={ dst:=none,op:=.store 93 (.tmp 86) (.tmp 82),type:=0,pos:= "judge.go:28",after:=#[⟨11,.data⟩,⟨6,.data⟩,⟨9,.chain⟩,⟨0,.phase⟩,⟨1,.phase⟩,⟨2,.phase⟩,⟨3,.phase⟩,⟨4,.phase⟩,⟨5,.phase⟩,⟨6,.phase⟩,⟨7,.phase⟩,⟨8,.phase⟩,⟨9,.phase⟩],guard:=none }) (fun K hK => ?_) rN
  go_simp
  have hS11 : hcS FB (.slice (some ⟨cb,coff,none⟩) x.2.2.1.2.1 x.2.2.1.2.2) ((w9.setCell ⟨J,10,none⟩ (.slice (some ⟨cb,coff,none⟩) x.2.2.1.2.1 x.2.2.1.2.2)).setCell ⟨J,11,none⟩ (.slice (some ⟨RB,0,none⟩) x.2.2.1.2.1 x.2.2.1.2.1)):=(ay _ J 11 _).cell hS10 (by show FB ≠ J; omega)
  refine hK.out _ _ hS11 (fun _ => ?_)
  clear hK K hS10 hS11;refine wpAnyH_done aw ?_ _;go_wp2_with fail;clear k0 k1 k2 k3 k4 l0 l1 l2 l3 l4;obtain ⟨hRB,hrow,hb9,b9⟩:=HR9.out;obtain ⟨hJ4,hJ8⟩:=HJ8.out;have hb89 : Below W8.heap.size W8 w9:=(Below.refl W8.heap.size W8).drew.trans hb9
  have KS : Kept (fun k => k = J) w9 (((((w9.setCell ⟨J,10,none⟩ (.slice (some ⟨cb,coff,none⟩) x.2.2.1.2.1 x.2.2.1.2.2)).setCell ⟨J,11,none⟩ (.slice (some ⟨RB,0,none⟩) x.2.2.1.2.1 x.2.2.1.2.1)).setCell ⟨J,12,none⟩ (.slice (some ⟨A,0,none⟩) x.2.2.1.2.1 x.2.2.1.2.1)).setCell ⟨J,13,none⟩ (.slice (some ⟨B,0,none⟩) x.2.2.1.2.1 x.2.2.1.2.1)).setCell ⟨J,14,none⟩ (.slice (some ⟨C,0,none⟩) x.2.2.1.2.1 x.2.2.1.2.1)):=((((ay w9 J 10 _).trans (ay _ J 11 _)).trans (ay _ J 12 _)).trans (ay _ J 13 _)).trans (ay _ J 14 _)
  have K9 : Kept (fun k => k = J) W8 (((((w9.setCell ⟨J,10,none⟩ (.slice (some ⟨cb,coff,none⟩) x.2.2.1.2.1 x.2.2.1.2.2)).setCell ⟨J,11,none⟩ (.slice (some ⟨RB,0,none⟩) x.2.2.1.2.1 x.2.2.1.2.1)).setCell ⟨J,12,none⟩ (.slice (some ⟨A,0,none⟩) x.2.2.1.2.1 x.2.2.1.2.1)).setCell ⟨J,13,none⟩ (.slice (some ⟨B,0,none⟩) x.2.2.1.2.1 x.2.2.1.2.1)).setCell ⟨J,14,none⟩ (.slice (some ⟨C,0,none⟩) x.2.2.1.2.1 x.2.2.1.2.1)):=(az hb89).trans KS
  have KW : Kept (fun k => k = J) w4 (((((w9.setCell ⟨J,10,none⟩ (.slice (some ⟨cb,coff,none⟩) x.2.2.1.2.1 x.2.2.1.2.2)).setCell ⟨J,11,none⟩ (.slice (some ⟨RB,0,none⟩) x.2.2.1.2.1 x.2.2.1.2.1)).setCell ⟨J,12,none⟩ (.slice (some ⟨A,0,none⟩) x.2.2.1.2.1 x.2.2.1.2.1)).setCell ⟨J,13,none⟩ (.slice (some ⟨B,0,none⟩) x.2.2.1.2.1 x.2.2.1.2.1)).setCell ⟨J,14,none⟩ (.slice (some ⟨C,0,none⟩) x.2.2.1.2.1 x.2.2.1.2.1)):=(az HB48.out).trans K9
  have hb08:=HB8.out.trans (hb89.mono HB8.out.size)
  have hb10 : Below w.heap.size w (((((w9.setCell ⟨J,10,none⟩ (.slice (some ⟨cb,coff,none⟩) x.2.2.1.2.1 x.2.2.1.2.2)).setCell ⟨J,11,none⟩ (.slice (some ⟨RB,0,none⟩) x.2.2.1.2.1 x.2.2.1.2.1)).setCell ⟨J,12,none⟩ (.slice (some ⟨A,0,none⟩) x.2.2.1.2.1 x.2.2.1.2.1)).setCell ⟨J,13,none⟩ (.slice (some ⟨B,0,none⟩) x.2.2.1.2.1 x.2.2.1.2.1)).setCell ⟨J,14,none⟩ (.slice (some ⟨C,0,none⟩) x.2.2.1.2.1 x.2.2.1.2.1)):=hb08.trans (KS.to_below (B:=w.heap.size) hb08.size (fun k hk h => by have : k = J:=h; omega))
  have bF : (((((w9.setCell ⟨J,10,none⟩ (.slice (some ⟨cb,coff,none⟩) x.2.2.1.2.1 x.2.2.1.2.2)).setCell ⟨J,11,none⟩ (.slice (some ⟨RB,0,none⟩) x.2.2.1.2.1 x.2.2.1.2.1)).setCell ⟨J,12,none⟩ (.slice (some ⟨A,0,none⟩) x.2.2.1.2.1 x.2.2.1.2.1)).setCell ⟨J,13,none⟩ (.slice (some ⟨B,0,none⟩) x.2.2.1.2.1 x.2.2.1.2.1)).setCell ⟨J,14,none⟩ (.slice (some ⟨C,0,none⟩) x.2.2.1.2.1 x.2.2.1.2.1)).heap[J]? = some (.cells #[.slice (some ⟨tb,toff,none⟩) m.tn m.tc,.slice m.ha m.hn m.hc,.slice m.ga m.gn m.gc,.int .i64 m.fi,.int .i64 m.mo,.slice (some ⟨fb,foff,none⟩) m.fn m.fc,.slice m.da m.dn m.dc,.slice m.ea m.en m.ec,.string Q,.slice (some ⟨w4.heap.size + 1,0,none⟩) (P.size + x.2.1.size) lc,.slice (some ⟨cb,coff,none⟩) x.2.2.1.2.1 x.2.2.1.2.2,.slice (some ⟨RB,0,none⟩) x.2.2.1.2.1 x.2.2.1.2.1,.slice (some ⟨A,0,none⟩) x.2.2.1.2.1 x.2.2.1.2.1,.slice (some ⟨B,0,none⟩) x.2.2.1.2.1 x.2.2.1.2.1,.slice (some ⟨C,0,none⟩) x.2.2.1.2.1 x.2.2.1.2.1,.slice (some ⟨sb,soff,none⟩) x.2.2.1.2.1 sc] 95):=bP (i:=14) (bP (i:=13) (bP (i:=12) (bP (i:=11) (bP (i:=10) b9))))
  have hRJ : RB ≠ J:=by
   have h1 : W8.heap.size ≤ RB:=hRB;omega
  generalize (((((w9.setCell ⟨J,10,none⟩ (.slice (some ⟨cb,coff,none⟩) x.2.2.1.2.1 x.2.2.1.2.2)).setCell ⟨J,11,none⟩ (.slice (some ⟨RB,0,none⟩) x.2.2.1.2.1 x.2.2.1.2.1)).setCell ⟨J,12,none⟩ (.slice (some ⟨A,0,none⟩) x.2.2.1.2.1 x.2.2.1.2.1)).setCell ⟨J,13,none⟩ (.slice (some ⟨B,0,none⟩) x.2.2.1.2.1 x.2.2.1.2.1)).setCell ⟨J,14,none⟩ (.slice (some ⟨C,0,none⟩) x.2.2.1.2.1 x.2.2.1.2.1)) = WW at *
  obtain ⟨jw,js⟩:=QB hx HK.out hp HM.out hb10 hxk ht hP HLL.out h64 hn HG.out (T:=T) (J:=J) (L:=w4.heap.size + 1) (lc:=lc) (cc:=x.2.2.1.2.2) (RB:=RB) (sc:=sc) hcd hcT HAL.out (by rw [hta,hfa]; exact bF) (fun j z hj => K9.cell (HS8.out j z hj) (by have:=HL8.out j z hj; show w4.heap.size + 1 ≠ J; omega)) (fun j hj q hq => by
   have e:=hrow j hj q hq
   obtain ⟨u,hu⟩ : ∃ u,(rv (ofV (opF (x.2.2.2.map inx) j)).1)[q]? = some u:=by
    have : q < (rv (ofV (opF (x.2.2.2.map inx) j)).1).size:=hq;exact ⟨_,Array.getElem?_eq_getElem this⟩
   rw [hu] at e ⊢
   exact KS.cell e hRJ) (HABC.out.1.kept KW (by have:=HABC.out.1.lt; show A ≠ J; omega)) (HABC.out.2.1.kept KW (by have:=HABC.out.2.1.lt; show B ≠ J; omega)) (HABC.out.2.2.kept KW (by have:=HABC.out.2.2.lt; show C ≠ J; omega))
  have H54:=hid (LY jw js (fun i hi h9 => ⟨((hcd.2 i hi).2.2.2.2.2.2.2.2 (HLN.out i hi).1).later hb10 (Nat.le_refl _),(HLN.out i hi).1⟩))
  have HB10:=hid hb10;clear hRB hrow hb9 b9 hJ4 hJ8 hb89 KS K9 KW hb08 hb10 bF jw js;refine H54.out.mono ?_;rintro e w11 ⟨rfl,hb11⟩;have HB11:=hid (HB10.out.trans (hb11.mono HB10.out.size));clear hb11 H54;go_wp2_with fail;go_ret;exact ⟨vg,HB11.out⟩
theorem Pm (c : Int) (w : World) : Calls Tryz.prog 18 #[.int .u8 c] w fun e w' => e = .returned (.bool (decide (c = 7 ∨ c = 9 ∨ c = 10 ∨ c = 0))) ∧ w' = w:=by
 by_cases h0 : c = 0
 ·subst h0;exact nH
 by_cases h7 : c = 7
 ·subst h7;exact nH
 by_cases h9 : c = 9
 ·subst h9;exact nH
 by_cases h10 : c = 10
 ·subst h10;exact nH
 have e : decide (c = 7 ∨ c = 9 ∨ c = 10 ∨ c = 0) = false:=decide_eq_false ae;rw [e];have b0 : (c == 0) = false:=fV
 have b7 : (c == 7) = false:=by simpa using h7
 have b9 : (c == 9) = false:=by simpa using h9
 have b10 : (c == 10) = false:=by simpa using h10
 exact nH
end Go.Proofs.YtepnnenohjfkbaaGreatDoor
