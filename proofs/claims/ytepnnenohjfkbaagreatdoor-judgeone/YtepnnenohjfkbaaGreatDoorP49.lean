/-
  Texts Md Me Laid.
-/
import Derived.ChangeArms
import Derived.FnData
import Derived.OpenShut
import Derived.Stop.LaidErr
import Derived.Test.YtepnnenohjfkbaaGreatDoorCards
import Derived.Test.YtepnnenohjfkbaaGreatDoorP10
import Derived.Test.YtepnnenohjfkbaaGreatDoorP36
import Derived.Test.YtepnnenohjfkbaaGreatDoorP48
set_option linter.unusedVariables false
set_option maxRecDepth 100000
set_option maxHeartbeats 16000000
namespace Go.Proofs.YtepnnenohjfkbaaGreatDoor
open Go.RowKit
theorem vQ {w : World} {m : MM} (h0 : bX m = 0) (hk : aL w) (hp : 0 < w.heap.size) (hm : MOk w w.heap.size w.heap.size m) {kf : Nat} {x : FuM} (hx : m.fns[kf]? = some x) (hG : Good (opF (x.2.2.2.map inx)) x.2.2.1.2.1) {P Q : ByteArray} (hP : m.types[x.1.toNat]? = some (P,Q)) :
  JH m (ax (P ++ x.2.1)) (x.2.2.2.map inx) Q x.2.2.1.2.1 ∧ aH m x.1 = (P,Q):=by
 obtain ⟨t,P',Q',ht,hP',_,_,_,hcs,hln⟩:=tQ h0 hm hx;have hev:=rV h0 hm hk hp;have hLL:=yV h0
 have hty : aH m x.1 = (P,Q):=by
  unfold aH;rw [Cc hP]
 have hcd : ∃ cb coff,Cod w cb coff x.2.2.1.2.1 (x.2.2.2.map inx):=by
  obtain ⟨cb,coff,_,hcd⟩:=hcs.2.resolve_left (by have:=hG.1; omega)
  exact ⟨cb,coff,hcd⟩
 obtain ⟨cb,coff,hcd⟩:=hcd
 refine ⟨⟨hG,hLL,fun a => ⟨(hLL a).2.2,?_⟩,?_,(hev.tL _ (List.mem_of_getElem? hP)).2,fun i hi => hcd.range hi,fun i hi h9 => ?_⟩,hty⟩
 ·unfold aH;rw [List.getD_eq_getElem?_getD]
  cases h : m.types[a.toNat]? with
  | none => exact Nat.zero_le _
  | some y => exact (hev.tL y (List.mem_of_getElem? h)).2
 ·have:=(hLL x.1).2.1
  rw [hty] at this;exact this
 ·have h1:=(hln i hi).2 h9;have h2:=((hcd.2 i hi).2.2.2.2.2.2.2.2 (hln i hi).1).1;intro h3;rw [h3] at h2
  change 0 = _ at h2
  omega
theorem yq {w : World} {m : MM} (h0 : bX m = 0) (hk : aL w) (hp : 0 < w.heap.size) (hm : MOk w w.heap.size w.heap.size m) {kf : Nat} {x : FuM} (hx : m.fns[kf]? = some x) {E pc : Int} (hE : A1 m x E pc) (T : Nat → ByteArray) (sn : Nat) : gF m x T sn = false:=by
 cases hh : gF m x T sn with
 | false => rfl
 | true =>
  exfalso
  unfold gF at hh;rw [Bool.and_eq_true,Bool.and_eq_true,Bool.and_eq_true,decide_eq_true_eq,decide_eq_true_eq] at hh;obtain ⟨h1,h2,h3,h4⟩:=hh
  rcases hE with ⟨e,_⟩ | ⟨hG,P,Q,hP,j,hj,_,he,_⟩
  ·exact e h1
  ·obtain ⟨hJ,hty⟩:=vQ h0 hk hp hm hx hG hP;rw [hty] at h4
   refine he ((vp hJ (fun i hi => ?_) h4).1 j hj)
   unfold jU
   rw [if_pos (by omega)]
   have:=eH.1 h3 i (by omega)
   exact ⟨Ltr.of this,((fZ _ _).1 this).2⟩
theorem tP {w : World} {m : MM} (h0 : bX m = 0) (hk : aL w) (hp : 0 < w.heap.size) (hm : MOk w w.heap.size w.heap.size m) {kf : Nat} {x : FuM} (hx : m.fns[kf]? = some x) (hG : Good (opF (x.2.2.2.map inx)) x.2.2.1.2.1) {P Q : ByteArray} (hP : m.types[x.1.toNat]? = some (P,Q))
  (he : ∀ i,i < x.2.2.1.2.1 → erA m (ax (P ++ x.2.1)) (x.2.2.2.map inx) Q x.2.2.1.2.1 i = 0) (T : Nat → ByteArray) (sn : Nat) :
  gF m x T sn = eqT sn x.2.2.1.2.1 T (fun j => (stA m (ax (P ++ x.2.1)) (x.2.2.2.map inx) Q x.2.2.1.2.1 j).st):=by
 obtain ⟨hJ,hty⟩:=vQ h0 hk hp hm hx hG hP;rw [Bool.eq_iff_iff,CG];unfold gF;rw [Bool.and_eq_true,Bool.and_eq_true,Bool.and_eq_true,decide_eq_true_eq,decide_eq_true_eq,hty]
 constructor
 ·intro ⟨h1,h2,h3,h4⟩
  refine ⟨h2,fun j hj => ?_⟩
  have:=(vp hJ (fun i hi => ?_) h4).2 j (by omega)
  ·unfold jU at this;rw [if_pos hj] at this;exact this
  ·unfold jU
   rw [if_pos (by omega)]
   have:=eH.1 h3 i (by omega)
   exact ⟨Ltr.of this,((fZ _ _).1 this).2⟩
 ·intro ⟨h2,h3⟩
  refine ⟨by rw [ez hG],h2,eH.2 fun j hj => ?_,zD hJ he fun i hi => ?_⟩
  ·rw [h3 j hj];have hl:=jm hJ.LL (ax (P ++ x.2.1)) (x.2.2.2.map inx) hJ.RL x.2.2.1.2.1 j;exact hl.st.lett hl.sz
  ·unfold jU
   rw [if_pos (by omega)]
   exact h3 i (by omega)
theorem xL (m : MM) (f : Int) (w : World) (hf : -9223372036854775808 ≤ f ∧ f ≤ 9223372036854775807) (hk : aL w) (hp : 0 < w.heap.size) (hr : Raw w m) {sa : Option Addr} {sn sc : Nat} {T : Nat → ByteArray} (hT : AtT w sa sn T) (hsn : sn ≤ 281474976710656) (hsz : ∀ j,j < sn → (T j).size ≤ 281474976710656) :
  Calls Tryz.prog 7 #[.agg (mV m),.int .i64 f,.slice sa sn sc] w fun e w' => e = .returned (.bool true) ∧ Below w.heap.size w w':=by
 have HK:=hid (fun (W : World) (hb : Below w.heap.size w W) => And.intro (hk.later hb hp) (Nat.lt_of_lt_of_le hp hb.size))
 have HR:=hid (fun (W : World) (hb : Below w.heap.size w W) => hr.later hb)
 have HM:=hid (fun (hs : Small m) => hr.ok hs)
 have HCP:=hid hr.cap
 have HTT:=hid (fun (W : World) (hb : Below w.heap.size w W) => hT.later hb)
 have HSZ:=hid hsz;have B0:=ag w (.cells (mV m) 29);have bx : (w.alloc (.cells (mV m) 29)).heap[w.heap.size]? = some (.cells (mV m) 29):=heap_alloc_new w (.cells (mV m) 29);have HW : w.alloc (.cells #[.slice m.ta m.tn m.tc,.slice m.ha m.hn m.hc,.slice m.ga m.gn m.gc,.int .i64 m.fi,.int .i64 m.mo,.slice m.fa m.fn m.fc,.slice m.da m.dn m.dc,.slice m.ea m.en m.ec] 29) = w.alloc (.cells (mV m) 29):=rfl;clear hk hr hT hsz;generalize w.alloc (.cells (mV m) 29) = W0 at *;have HB0:=hid B0;have HBX:=hid bx;clear B0 bx
 show Calls Tryz.prog 7 #[.agg #[.slice m.ta m.tn m.tc,.slice m.ha m.hn m.hc,.slice m.ga m.gn m.gc,.int .i64 m.fi,.int .i64 m.mo,.slice m.fa m.fn m.fc,.slice m.da m.dn m.dc,.slice m.ea m.en m.ec],.int .i64 f,.slice sa sn sc] w _
 go_enter Tryz.func7,Tryz.ntmps7
 go_wp2_with fail;refine (x9 W0 (HK.out W0 HB0.out).1 (HK.out W0 HB0.out).2).mono ?_;rintro e w1 ⟨rfl,hb⟩;have HB1:=hid (HB0.out.trans (hb.mono HB0.out.size));have HBX:=hid (aj hb HBX.out);clear hb HB0 HW;obtain ⟨z1,z2,z3,z4,z5⟩:=HR.out w1 HB1.out;have H9:=z7 m w1 z1 z2 z3 z4 z5;unfold mV at H9;have HH9:=hid H9;clear H9 z1 z2 z3 z4 z5;have m0 : w1.cell? ⟨w.heap.size,0,none⟩ = some (.slice m.ta m.tn m.tc):=ai HBX.out;have m1 : w1.cell? ⟨w.heap.size,1,none⟩ = some (.slice m.ha m.hn m.hc):=ai HBX.out;have m2 : w1.cell? ⟨w.heap.size,2,none⟩ = some (.slice m.ga m.gn m.gc):=ai HBX.out;have m3 : w1.cell? ⟨w.heap.size,3,none⟩ = some (.int .i64 m.fi):=ai HBX.out;have m4 : w1.cell? ⟨w.heap.size,4,none⟩ = some (.int .i64 m.mo):=ai HBX.out;have m5 : w1.cell? ⟨w.heap.size,5,none⟩ = some (.slice m.fa m.fn m.fc):=ai HBX.out;have m6 : w1.cell? ⟨w.heap.size,6,none⟩ = some (.slice m.da m.dn m.dc):=ai HBX.out;have m7 : w1.cell? ⟨w.heap.size,7,none⟩ = some (.slice m.ea m.en m.ec):=ai HBX.out;go_wp2_with fail;clear m0 m1 m2 m3 m4 m5 m6 m7;refine HH9.out.mono ?_;rintro e w2 ⟨s,rfl,hb,hs⟩;have HB2:=hid (HB1.out.trans (hb.mono HB1.out.size));have HBX:=hid (aj hb HBX.out);clear hb HH9 HB1
 by_cases hs4 : s ≤ 20000
 rotate_left
 ·have h4' : (20000 : Int) < (s : Int):=by omega
  clear hs hs4;go_wp2_with fail;go_ret;exact ⟨rfl,HB2.out⟩
 have h4' : ¬ (20000 : Int) < (s : Int):=by omega
 have hsm : Small m:=hs hs4;clear hs hs4
 by_cases hs5 : sn ≤ 20000
 rotate_left
 ·have h5' : (20000 : Int) < (sn : Int):=by omega
  clear hs5;go_wp2_with fail;go_ret;exact ⟨rfl,HB2.out⟩
 have h5' : ¬ (20000 : Int) < (sn : Int):=by omega
 have HMO:=hid (fun (W : World) (hb : Below w.heap.size w W) => fun R g h1 h2 => (HM.out hsm R g (Nat.le_trans hb.size h1) (Nat.le_trans hb.size h2)).later hb)
 have H15:=hid (sD m f w2 hf.1 hf.2 (HK.out w2 HB2.out).1 (HK.out w2 HB2.out).2 (HMO.out w2 HB2.out) HCP.out)
 have H23:=hid (fun (W : World) (hb : Below w.heap.size w W) (ta : Option Addr) (tn tc : Nat) (U : Nat → ByteArray) (hU : AtT W ta tn U) (htn : tn ≤ 20000) (hus : ∀ j,j < tn → (U j).size ≤ 281474976710656) => tG m f W hf.1 hf.2 (HK.out W hb).1 (HK.out W hb).2 (HMO.out W hb) HCP.out (sc:=tc) hU (by omega) hus)
 unfold mV at H15 H23;have m0 : w2.cell? ⟨w.heap.size,0,none⟩ = some (.slice m.ta m.tn m.tc):=ai HBX.out;have m1 : w2.cell? ⟨w.heap.size,1,none⟩ = some (.slice m.ha m.hn m.hc):=ai HBX.out;have m2 : w2.cell? ⟨w.heap.size,2,none⟩ = some (.slice m.ga m.gn m.gc):=ai HBX.out;have m3 : w2.cell? ⟨w.heap.size,3,none⟩ = some (.int .i64 m.fi):=ai HBX.out;have m4 : w2.cell? ⟨w.heap.size,4,none⟩ = some (.int .i64 m.mo):=ai HBX.out;have m5 : w2.cell? ⟨w.heap.size,5,none⟩ = some (.slice m.fa m.fn m.fc):=ai HBX.out;have m6 : w2.cell? ⟨w.heap.size,6,none⟩ = some (.slice m.da m.dn m.dc):=ai HBX.out;have m7 : w2.cell? ⟨w.heap.size,7,none⟩ = some (.slice m.ea m.en m.ec):=ai HBX.out;go_wp2_with fail;clear m0 m1 m2 m3 m4 m5 m6 m7;refine H15.out.mono ?_;intro e w3 hO;have key : ∃ (tv : Array Value) (E pc : Int),e = .returned (.tuple #[.agg tv,.int .i64 E,.int .i64 pc]) ∧ Below w2.heap.size w2 w3 ∧
   ((E ≠ 0 ∧ tv = zT ∧ fJ m f T sn = false) ∨
    (E = 0 ∧ ∃ (SH EN EL FL N hi : Nat) (U : Nat → ByteArray),tv = #[.slice (some ⟨SH,0,none⟩) N N,.slice (some ⟨EN,0,none⟩) N N,.slice (some ⟨EL,0,none⟩) N N,.slice (some ⟨FL,0,none⟩) N N,.int .i64 hi] ∧ AtT w3 (some ⟨SH,0,none⟩) N U ∧ N ≤ 2048 ∧ (∀ j,(U j).size ≤ 256) ∧ fJ m f T sn = eqT sn N T U ∧ fJ m f U N = true)):=by
  have hmk:=HMO.out w2 HB2.out w2.heap.size w2.heap.size (Nat.le_refl _) (Nat.le_refl _);have hk2:=HK.out w2 HB2.out
  rcases hO with ⟨h1,rfl,hb⟩ | ⟨h1,h2,rfl,hb⟩ | ⟨h1,x,hf0,hx,hO⟩
  ·exact ⟨_,_,_,rfl,hb,.inl ⟨h1,rfl,by unfold fJ; rw [if_neg h1]⟩⟩
  ·exact ⟨_,_,_,rfl,hb,.inl ⟨by decide,rfl,by unfold fJ; rw [if_pos h1,if_pos h2]⟩⟩
  ·have hl:=hmk.pf.1;have hlx:=au hx
   have hV : ∀ U n,fJ m f U n = gF m x U n:=fun U n => by
    unfold fJ
    rw [if_pos h1,if_neg (by omega),hx]
    rfl
   have hb:=hO.1
   rcases hO.cases with ⟨E,pc,hE,hE0,rfl⟩ | ⟨a0,a1,a2,a3,n0,n1,n2,n3,c0,c1,c2,c3,hi,rfl,hTV⟩
   ·exact ⟨_,_,_,rfl,hb,.inl ⟨hE0,rfl,(hV T sn).trans (yq h1 hk2.1 hk2.2 hmk hx hE T sn)⟩⟩
   ·obtain ⟨hG,P,Q,hP,he,SH,EN,EL,FL,_,_,_,_,htv,r1,_⟩:=hTV;obtain ⟨t,P',Q',_,_,_,_,hN,_⟩:=tQ h1 hmk hx;obtain ⟨hJ,_⟩:=vQ h1 hk2.1 hk2.2 hmk hx hG hP
    refine ⟨_,_,_,rfl,hb,.inr ⟨rfl,SH,EN,EL,FL,x.2.2.1.2.1,(stA m (ax (P ++ x.2.1)) (x.2.2.2.map inx) Q x.2.2.1.2.1 x.2.2.1.2.1).hi,fun j => (stA m (ax (P ++ x.2.1)) (x.2.2.2.map inx) Q x.2.2.1.2.1 j).st,htv,.inr ⟨SH,0,rfl,fun j hj => ?_⟩,hN,fun j => (jm hJ.LL _ _ hJ.RL _ j).sz,(hV T sn).trans (tP h1 hk2.1 hk2.2 hmk hx hG hP he T sn),(hV _ _).trans ((tP h1 hk2.1 hk2.2 hmk hx hG hP he _ _).trans (CG.2 ⟨rfl,fun _ _ => rfl⟩))⟩⟩
    rw [Nat.zero_add,Row.cell r1 j hj,List.getElem?_map,vU x.2.2.1.2.1 j hj (Nat.le_refl _)];rfl
 obtain ⟨tv,E,pc,rfl,hb,hcase⟩:=key;clear hO H15;have HB3:=hid (HB2.out.trans (hb.mono HB2.out.size));have HBX:=hid (aj hb HBX.out);clear hb HB2
 rcases hcase with ⟨hE,rfl,hv⟩ | ⟨rfl,SH,EN,EL,FL,N,hi,U,rfl,hU,hN,hUs,hv,hvU⟩
 ·have hE' : (E != 0) = true:=by simpa using hE
  have HV:=hid hv;have m0 : w3.cell? ⟨w.heap.size,0,none⟩ = some (.slice m.ta m.tn m.tc):=ai HBX.out;have m1 : w3.cell? ⟨w.heap.size,1,none⟩ = some (.slice m.ha m.hn m.hc):=ai HBX.out;have m2 : w3.cell? ⟨w.heap.size,2,none⟩ = some (.slice m.ga m.gn m.gc):=ai HBX.out;have m3 : w3.cell? ⟨w.heap.size,3,none⟩ = some (.int .i64 m.fi):=ai HBX.out;have m4 : w3.cell? ⟨w.heap.size,4,none⟩ = some (.int .i64 m.mo):=ai HBX.out;have m5 : w3.cell? ⟨w.heap.size,5,none⟩ = some (.slice m.fa m.fn m.fc):=ai HBX.out;have m6 : w3.cell? ⟨w.heap.size,6,none⟩ = some (.slice m.da m.dn m.dc):=ai HBX.out;have m7 : w3.cell? ⟨w.heap.size,7,none⟩ = some (.slice m.ea m.en m.ec):=ai HBX.out;have hwl:=az HBX.out;clear hE hv;go_wp2_with fail;have B4:=HB3.out.trans ((ag w3 (.cells zT 39)).mono HB3.out.size);clear m0 m1 m2 m3 m4 m5 m6 m7 hwl;refine (H23.out _ B4 sa sn sc T (HTT.out _ B4) hs5 HSZ.out).mono ?_;rintro e w5 ⟨rfl,hb5⟩;rw [HV.out];have HB5:=hid (B4.trans (hb5.mono B4.size));clear hb5 B4;go_wp2_with fail;go_ret;exact ⟨rfl,HB5.out⟩
 ·have HV:=hid hv;have HVU:=hid hvU;have HU:=hid hU;have m0 : w3.cell? ⟨w.heap.size,0,none⟩ = some (.slice m.ta m.tn m.tc):=ai HBX.out;have m1 : w3.cell? ⟨w.heap.size,1,none⟩ = some (.slice m.ha m.hn m.hc):=ai HBX.out;have m2 : w3.cell? ⟨w.heap.size,2,none⟩ = some (.slice m.ga m.gn m.gc):=ai HBX.out;have m3 : w3.cell? ⟨w.heap.size,3,none⟩ = some (.int .i64 m.fi):=ai HBX.out;have m4 : w3.cell? ⟨w.heap.size,4,none⟩ = some (.int .i64 m.mo):=ai HBX.out;have m5 : w3.cell? ⟨w.heap.size,5,none⟩ = some (.slice m.fa m.fn m.fc):=ai HBX.out;have m6 : w3.cell? ⟨w.heap.size,6,none⟩ = some (.slice m.da m.dn m.dc):=ai HBX.out;have m7 : w3.cell? ⟨w.heap.size,7,none⟩ = some (.slice m.ea m.en m.ec):=ai HBX.out;have hwl:=az HBX.out;clear hv hvU hU;go_wp2_with fail;have BT:=ag w3 (.cells #[.slice (some ⟨SH,0,none⟩) N N,.slice (some ⟨EN,0,none⟩) N N,.slice (some ⟨EL,0,none⟩) N N,.slice (some ⟨FL,0,none⟩) N N,.int .i64 hi] 39);have bT:=heap_alloc_new w3 (.cells #[.slice (some ⟨SH,0,none⟩) N N,.slice (some ⟨EN,0,none⟩) N N,.slice (some ⟨EL,0,none⟩) N N,.slice (some ⟨FL,0,none⟩) N N,.int .i64 hi] 39);have B4:=HB3.out.trans (BT.mono HB3.out.size);clear m0 m1 m2 m3 m4 m5 m6 m7 hwl;refine (H23.out _ B4 sa sn sc T (HTT.out _ B4) hs5 HSZ.out).mono ?_;rintro e w5 ⟨rfl,hb5⟩;rw [HV.out];have bX5:=aj hb5 (aj BT HBX.out);have bT5:=aj hb5 bT;have HU5:=hid ((HU.out.later BT).later hb5);have HB5:=hid (B4.trans (hb5.mono B4.size));have m0 : w5.cell? ⟨w.heap.size,0,none⟩ = some (.slice m.ta m.tn m.tc):=ai bX5;have m1 : w5.cell? ⟨w.heap.size,1,none⟩ = some (.slice m.ha m.hn m.hc):=ai bX5;have m2 : w5.cell? ⟨w.heap.size,2,none⟩ = some (.slice m.ga m.gn m.gc):=ai bX5;have m3 : w5.cell? ⟨w.heap.size,3,none⟩ = some (.int .i64 m.fi):=ai bX5;have m4 : w5.cell? ⟨w.heap.size,4,none⟩ = some (.int .i64 m.mo):=ai bX5;have m5 : w5.cell? ⟨w.heap.size,5,none⟩ = some (.slice m.fa m.fn m.fc):=ai bX5;have m6 : w5.cell? ⟨w.heap.size,6,none⟩ = some (.slice m.da m.dn m.dc):=ai bX5
  have m7 : w5.cell? ⟨w.heap.size,7,none⟩ = some (.slice m.ea m.en m.ec):=ai bX5;have t0:=ai (i:=0) bT5;have HT5:=hid bT5;clear hb5 B4 BT bT bX5 bT5 HU;obtain ⟨eb,heb⟩ : ∃ eb,eqT sn N T U = eb:=⟨_,rfl⟩;rw [heb];have HEB:=hid heb;clear heb;go_wp2_with fail;clear m0 m1 m2 m3 m4 m5 m6 m7 t0
  refine (H23.out _ HB5.out _ N N U HU5.out (by omega) (fun j _ => Nat.le_trans (hUs j) (by omega))).mono ?_
  rintro e w6 ⟨rfl,hb6⟩;rw [HVU.out];have t0:=ai (i:=0) (aj hb6 HT5.out);have HB6:=hid (HB5.out.trans (hb6.mono HB5.out.size))
  have H19:=hid (Ag (c1:=sc) (c2:=N) (HTT.out w6 HB6.out) (HU5.out.later hb6) (by omega) (by omega))
  rw [HEB.out] at H19;clear hb6;go_wp2_with fail;refine H19.out.mono ?_;rintro e w7 ⟨rfl,hb7⟩;have HB7:=hid (HB6.out.trans (hb7.mono HB6.out.size));clear hb7 H19 t0
  cases eb with
  | true =>
   go_wp2_with fail;go_ret;exact ⟨rfl,HB7.out⟩
  | false =>
   go_wp2_with fail;go_ret;exact ⟨rfl,HB7.out⟩
open Go.ChangeShapes Go.WideShapes Go.ChangeAt Go.RowKit
theorem yw : Tryz.prog.bytesOf 9 = 16:=by kernel_rfl
section
variable {H : Type} {enc : TypeId × Value → H} {W : World}
theorem qJ {base : Nat} {v : Value} {d : DataW H} {ps : List MemPlace} (hval : Value.okWide Tryz.prog W .any base 37 v) (h : DataW.Trod enc Tryz.prog W 0 (fun _ => true) true 37 v d ps) (hw : ∀ n ∈ d.weights Tryz.prog 37,n ≤ reachBytes) :
  ∃ (a : Option Addr) (n c : Nat) (T : Nat → ByteArray),v = .slice a n c ∧ AtT W a n T ∧ n ≤ 281474976710656 ∧ ∀ j,j < n → (T j).size ≤ 281474976710656:=by
 obtain ⟨a0,n0,c0,rfl⟩:=okWide_slice Tryz.underlying37 hval;obtain ⟨fuel,hf⟩:=h
 obtain ⟨a,n,c,xs,hcs,hat,hsz⟩:=bO (c:=1) (B:=16) (fun (s : ByteArray) => [Value.string s]) (fun (s : ByteArray) => s.size ≤ 140737488355328) Tryz.underlying37 iz (by decide) yw (by decide) (fun _ _ _ h1 h2 => eB Tryz.underlying9 h1 h2) hf hw
 have e : Value.slice a0 n0 c0 = .slice a n c:=by
  have : [Value.slice a0 n0 c0] = [.slice a n c]:=hcs;exact (List.cons.inj this).1
 cases e
 have hl:=hat.len;have hb:=hat.big
 have h2 : ∀ j,j < n0 → (xs.getD j ⟨#[]⟩).size ≤ 281474976710656:=fun j hj => by
  have hx : xs[j]? = some (xs[j]'(by omega)):=List.getElem?_eq_getElem _
  have:=hsz j _ hx
  rw [Cc hx];omega
 have h1 : AtT W a0 n0 (fun j => xs.getD j ⟨#[]⟩):=hat.at_.imp id fun ⟨b,off,e,hc⟩ => ⟨b,off,e,fun j hj => by
  have hx : xs[j]? = some (xs[j]'(by omega)):=List.getElem?_eq_getElem _
  have:=hc j _ hx 0 _ rfl
  rw [Nat.mul_one] at this
  show _ = some (Value.string (xs.getD j ⟨#[]⟩))
  rw [Cc hx];exact this⟩
 exact ⟨a0,n0,c0,_,rfl,h1,by omega,h2⟩
end
theorem Tryz.cells195 : Tryz.prog.cellsOf 195 = 4:=by kernel_rfl
theorem Tryz.cells196 : Tryz.prog.cellsOf 196 = 28:=by kernel_rfl
theorem Tryz.cells5 : Tryz.prog.cellsOf 5 = 1:=by kernel_rfl
theorem Tryz.cells9 : Tryz.prog.cellsOf 9 = 1:=by kernel_rfl
theorem Tryz.kindsAt : Tryz.prog.globalNamed "flagon/ops.kinds" = some 0:=by kernel_rfl
theorem Tryz.kindsType : (Tryz.prog.globals[0]?).map (·.type) = some 196:=by kernel_rfl
theorem A7 {α : Type} : ∀ (l : List α),l.length = 4 → ∃ a b c d,l = [a,b,c,d]
 | [a,b,c,d],_ => ⟨a,b,c,d,rfl⟩
theorem Bp {α : Type} : ∀ (l : List α),l.length = 7 → ∃ a b c d e f g,l = [a,b,c,d,e,f,g]
 | [a,b,c,d,e,f,g],_ => ⟨a,b,c,d,e,f,g,rfl⟩
theorem cR {H : Type} {enc : TypeId × Value → H} {w : World} {base : Nat} {sp : Nat → Bool} {held : Bool} {fuel : Nat} {cs : List Value} {f l : Int} {a s : List UInt8} {p : List MemPlace}
  (h : DataW.trod enc Tryz.prog w base sp held fuel 195 cs = some (.agg [.lit (.int .u8 f),.lit (.int .u8 l),.lit (.string a),.lit (.string s)],p)) :
  cs = [.int .u8 f,.int .u8 l,.string ⟨a.toArray⟩,.string ⟨s.toArray⟩]:=by
 obtain ⟨xs,n,_,hx,hl,hxl,hel⟩:=DataW.trod_struct Tryz.underlying195 h;rw [Tryz.cells195] at hl;obtain ⟨c0,c1,c2,c3,rfl⟩:=A7 cs hl;obtain ⟨x0,x1,x2,x3,rfl⟩:=A7 xs hxl;have e:=congrArg Prod.fst hx
 simp only [List.map_cons,List.map_nil,DataW.agg.injEq,List.cons.injEq,and_true] at e
 obtain ⟨e0,e1,e2,e3⟩:=e;have h0 : DataW.trod enc Tryz.prog w base sp held n 5 (([c0,c1,c2,c3].drop 0).take (Tryz.prog.cellsOf 5)) = some x0:=hel 0 _ rfl;have h1 : DataW.trod enc Tryz.prog w base sp held n 5 (([c0,c1,c2,c3].drop 1).take (Tryz.prog.cellsOf 5)) = some x1:=hel 1 _ rfl;have h2 : DataW.trod enc Tryz.prog w base sp held n 9 (([c0,c1,c2,c3].drop 2).take (Tryz.prog.cellsOf 9)) = some x2:=hel 2 _ rfl;have h3 : DataW.trod enc Tryz.prog w base sp held n 9 (([c0,c1,c2,c3].drop 3).take (Tryz.prog.cellsOf 9)) = some x3:=hel 3 _ rfl;rw [Tryz.cells5] at h0 h1;rw [Tryz.cells9] at h2 h3;obtain ⟨n0,g0,k0,_⟩:=DataW.trod_int Tryz.underlying5 h0;obtain ⟨n1,g1,k1,_⟩:=DataW.trod_int Tryz.underlying5 h1;obtain ⟨s2,g2,k2,_⟩:=DataW.trod_string Tryz.underlying9 h2;obtain ⟨s3,g3,k3,_⟩:=DataW.trod_string Tryz.underlying9 h3;clear hel h hx h0 h1 h2 h3;rw [k0] at e0;rw [k1] at e1;rw [k2] at e2;rw [k3] at e3
 simp only [DataW.lit.injEq,Lit.int.injEq,true_and,Lit.string.injEq] at e0 e1 e2 e3
 simp only [List.drop_zero,List.drop_succ_cons,List.take_succ_cons,List.take_zero,List.cons.injEq,and_true] at g0 g1 g2 g3
 rw [g0,g1,g2,g3,e0,e1,e2,e3]
theorem chunks (l : List Value) (h : l.length = 28) : l = l.take 4 ++ ((l.drop 4).take 4 ++ ((l.drop 8).take 4 ++ ((l.drop 12).take 4 ++ ((l.drop 16).take 4 ++ ((l.drop 20).take 4 ++ (l.drop 24).take 4))))):=by
 have e : ∀ n,l.drop n = (l.drop n).take 4 ++ l.drop (n + 4):=fun n => by
  have:=(List.take_append_drop 4 (l.drop n)).symm
  rwa [List.drop_drop] at this
 have e6 : l.drop 24 = (l.drop 24).take 4:=by rw [List.take_of_length_le (by simp; omega)]
 have e5:=e 20; have e4:=e 16; have e3:=e 12; have e2:=e 8; have e1:=e 4; have e0:=e 0
 simp only [List.drop_zero,Nat.zero_add,Nat.reduceAdd] at e0 e1 e2 e3 e4 e5
 rw [← e6,← e5,← e4,← e3,← e2,← e1,← e0]
theorem CU {W : World} {rest : List (String × DataW Unit)} (h : laidMet Tryz.prog (("flagon/ops.kinds",Rows.laid_flagon_ops_kinds) :: rest) W) : aL W:=by
 obtain ⟨ps,⟨g',t',cs,fuel,p,q,hg',ht',hvar,hd,_,_⟩,_⟩:=h;obtain rfl:=Option.some.inj (Tryz.kindsAt.symm.trans hg');obtain rfl:=Option.some.inj (Tryz.kindsType.symm.trans ht');obtain ⟨xs,n,_,hx,hl,hxl,hel⟩:=DataW.trod_array Tryz.underlying196 hd;rw [Tryz.cells196] at hl;obtain ⟨x0,x1,x2,x3,x4,x5,x6,rfl⟩:=Bp xs hxl;have e:=congrArg Prod.fst hx
 simp only [Rows.laid_flagon_ops_kinds,List.map_cons,List.map_nil,DataW.agg.injEq,List.cons.injEq,and_true] at e
 obtain ⟨e0,e1,e2,e3,e4,e5,e6⟩:=e
 have h0:=hel 0 (by decide); have h1:=hel 1 (by decide); have h2:=hel 2 (by decide); have h3:=hel 3 (by decide); have h4:=hel 4 (by decide); have h5:=hel 5 (by decide); have h6:=hel 6 (by decide)
 simp only [Tryz.cells195,Nat.reduceMul,List.drop_zero,List.getElem?_cons_zero,List.getElem?_cons_succ] at h0 h1 h2 h3 h4 h5 h6
 obtain ⟨d0,p0⟩:=x0; obtain ⟨d1,p1⟩:=x1; obtain ⟨d2,p2⟩:=x2; obtain ⟨d3,p3⟩:=x3; obtain ⟨d4,p4⟩:=x4; obtain ⟨d5,p5⟩:=x5; obtain ⟨d6,p6⟩:=x6
 simp only at e0 e1 e2 e3 e4 e5 e6
 subst e0 e1 e2 e3 e4 e5 e6
 have hcs : cs.toList = iX:=by
  rw [chunks _ hl,cR h0,cR h1,cR h2,cR h3,cR h4,cR h5,cR h6];rfl
 intro j v hj;rw [World.var?_cell Tryz.kindsAt hvar j,← Array.getElem?_toList,hcs];exact hj
end Go.Proofs.YtepnnenohjfkbaaGreatDoor
