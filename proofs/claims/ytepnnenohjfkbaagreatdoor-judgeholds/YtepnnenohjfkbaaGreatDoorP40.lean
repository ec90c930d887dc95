/-
  Texts Lq Ka Ke Kf.
-/
import Derived.Test.YtepnnenohjfkbaaGreatDoorP00
import Derived.Test.YtepnnenohjfkbaaGreatDoorP23
import Derived.Test.YtepnnenohjfkbaaGreatDoorP27
import Derived.Test.YtepnnenohjfkbaaGreatDoorP29
import Derived.Test.YtepnnenohjfkbaaGreatDoorP35
import Derived.Test.YtepnnenohjfkbaaGreatDoorP38
import Derived.Test.YtepnnenohjfkbaaGreatDoorP39
set_option linter.unusedVariables false
set_option maxRecDepth 100000
set_option maxHeartbeats 16000000
namespace Go.Proofs.YtepnnenohjfkbaaGreatDoor
open Go.RowKit
def awB (O : Nat → Int) (p : Nat) : Bool:=!(decide (0 < p) && (decide (O (p - 1) = 7 ∨ O (p - 1) = 9 ∨ O (p - 1) = 10 ∨ O (p - 1) = 0) && (decide (O p ≠ 5) && decide (O p ≠ 6))))
def lq (m : MM) (lo : List Int) (R : ByteArray) (xs : List Inx) (N : Nat) (sh : Nat → ByteArray) : Bool:=(List.range N).all fun p => kH m lo R xs N sh p && awB (opF xs) p
def lH (m : MM) (x : FuM) (T : Nat → ByteArray) (sn : Nat) : Bool :=
 decide ((res (opF (x.2.2.2.map inx)) x.2.2.1.2.1 0).1 = 0) && (decide (sn = x.2.2.1.2.1) && (((T 0).toList == []) && (j5 T sn && lq m (aD ((bE m x.1).1 ++ x.2.1)) (bE m x.1).2 (x.2.2.2.map inx) x.2.2.1.2.1 (fM T sn))))
def wQ (m : MM) (f : Int) (T : Nat → ByteArray) (sn : Nat) : Bool :=
 if cB m = 0 then (if f < 0 ∨ (m.fn : Int) ≤ f then false else ((m.fns[f.toNat]?).map fun x => lH m x T sn).getD false) else false
theorem JK {m : MM} (h0 : cB m = 0) {k : Nat} {x : FuM} (hx : m.fns[k]? = some x) (j : Nat) (hj : j < x.2.2.2.length) : (ofV (opF (x.2.2.2.map inx) j)).2 = true:=by
 obtain ⟨h1,h2,h3,h6⟩:=pQ h0;obtain ⟨b1,b2,b3,b4,b5,b6⟩:=kC ((dW h6).2 k x hx);obtain ⟨y,hyj⟩ : ∃ y,x.2.2.2[j]? = some y:=⟨_,aN hj⟩;have hc:=b6 j y hyj
 have e : opF (x.2.2.2.map inx) j = y.1:=by
  show ((x.2.2.2.map inx).getD j dx).c = _
  rw [fq hyj];rfl
 rw [e]
 cases hk : (ofV y.1).2 with
 | true => rfl
 | false =>
  unfold cA at hc
  have : tkV y.1 = -1:=by unfold tkV; rw [hk]; rfl
  rw [this] at hc
  cases hc
theorem Q4 {m : MM} {w W : World} (h0 : cB m = 0) (hk : aW w) (hp : 0 < w.heap.size) (hm : MOk w w.heap.size w.heap.size m) (hb : Below w.heap.size w W) {kf t : Nat} {x : FuM} (hx : m.fns[kf]? = some x) {P Q : ByteArray} (ht : x.1 = t) (hP : m.types[t]? = some (P,Q))
  (hll : ∀ z ∈ aD (P ++ x.2.1),z = 119 ∨ z = 108) (h64 : P.size + x.2.1.size ≤ 64) {nn : Nat} (hnn : x.2.2.1.2.1 = nn) (hn : nn ≤ 2048) (hE : res (opF (x.2.2.2.map inx)) nn 0 = (0,0))
  {J cb coff cc A B C c1 c2 c3 sb soff sc : Nat} (hcc : nn ≤ cc) {T : Nat → ByteArray} (hcd : Cod w cb coff nn (x.2.2.2.map inx)) (hT : ∀ j,j < nn → w.cell? ⟨sb,soff + j,none⟩ = some (.string (T j))) (hal : ∀ j,j < nn → lett (T j) 256 = true)
  (hJ : W.heap[J]? = some (.cells #[.slice m.ta m.tn m.tc,.slice m.ha m.hn m.hc,.slice m.ga m.gn m.gc,.int .i64 m.fi,.int .i64 m.mo,.slice m.fa m.fn m.fc,.slice m.da m.dn m.dc,.slice m.ea m.en m.ec,.int .i64 kf,.slice (some ⟨cb,coff,none⟩) nn cc,.slice (some ⟨A,0,none⟩) nn c1,.slice (some ⟨B,0,none⟩) nn c2,.slice (some ⟨C,0,none⟩) nn c3,.slice (some ⟨sb,soff,none⟩) nn sc] 100))
  (hA : ∀ j,j < nn → W.cell? ⟨A,j,none⟩ = some (.int .i64 (enF (opF (x.2.2.2.map inx)) nn j))) (hB : ∀ j,j < nn → W.cell? ⟨B,j,none⟩ = some (.int .i64 (elF (opF (x.2.2.2.map inx)) nn j))) (hC : ∀ j,j < nn → W.cell? ⟨C,j,none⟩ = some (.int .i64 (owF (opF (x.2.2.2.map inx)) nn j))) :
  Rw ⟨J,cb,coff,cc,A,B,C,c1,c2,c3,sb,soff,sc,nn,m,kf,Q,x.2.2.2.map inx,fM T nn⟩ W ∧ RS ⟨J,cb,coff,cc,A,B,C,c1,c2,c3,sb,soff,sc,nn,m,kf,Q,x.2.2.2.map inx,fM T nn⟩ (aD (P ++ x.2.1)):=by
 have hev:=Hs h0 hm hk hp;have hLL:=NY h0;have hmW:=hm.later hb
 have hxl : x.2.2.2.length = nn:=by rw [← List.length_map (f:=inx)]; exact hcd.1
 refine ⟨⟨ai hJ,ai hJ,ai hJ,ai hJ,ai hJ,ai hJ,ai hJ,ai hJ,ai hJ,ai hJ,hcd.later hb (Nat.le_refl _),hA,hB,hC,fun j hj => ?_,hmW.pt,hmW.ph,hmW.pg,hmW.pf,⟨x,t,P,hx,ht,hP⟩⟩,?_⟩
 ·show W.cell? ⟨sb,soff + j,none⟩ = some (.string (fM T nn j))
  unfold fM;rw [if_pos hj];exact ag hb (hT j hj)
 ·have hQ8 : Q.size ≤ 8:=(hev.tL _ (List.mem_of_getElem? hP)).2
  refine ⟨hn,hcc,by have:=hev.t64; show m.tn ≤ _; omega,fun a => ⟨(hLL a).2.2,?_⟩,hQ8,fun j => ?_,hE,hll,hev.gL,hev.hT,hev.fT,by have:=hev.g64; show m.gn ≤ _; omega,by have:=hev.h32; show m.hn ≤ _; omega,by have:=hev.f128; show m.fn ≤ _; omega,fun p hp => JK h0 hx p (by rw [hxl]; exact hp),⟨x,t,(P,Q),hx,ht,hP,rfl,by show P.size + x.2.1.size ≤ _; omega⟩⟩
  ·exact Ii
  ·show (fM T nn j).size ≤ 256
   exact CH
theorem Ni (m : MM) (f : Int) (w : World) (hf0 : -9223372036854775808 ≤ f) (hf1 : f ≤ 9223372036854775807) (hk : aW w) (hp : 0 < w.heap.size) (hm : ∀ R g,w.heap.size ≤ R → w.heap.size ≤ g → MOk w R g m) (hz : Szs m) (hcap : ∀ x ∈ m.fns,x.2.2.1.2.1 ≤ x.2.2.1.2.2)
  {sa : Option Addr} {sn sc : Nat} {T : Nat → ByteArray} (hT : AtT w sa sn T) (hsn : sn ≤ 1099511627776) (hsz : ∀ j,j < sn → (T j).size ≤ 281474976710656) :
  Calls Tryz.prog 24 #[.agg (mV m),.int .i64 f,.slice sa sn sc] w fun e w' => e = .returned (.bool (wQ m f T sn)) ∧ Below w.heap.size w w':=by
 have B0:=aj w (.cells (mV m) 29);have b0:=heap_alloc_new w (.cells (mV m) 29);have hz1 : (w.alloc (.cells (mV m) 29)).heap.size = w.heap.size + 1:=ak
 have HE:=hid (Ig m (w.alloc (.cells (mV m) 29)) (fun R g h1 h2 => (hm R g ae ae).later B0) hz)
 have HM:=hid (hm w.heap.size w.heap.size (Nat.le_refl _) (Nat.le_refl _));have HK:=hid hk;have HCP:=hid hcap;have HTT:=hid hT;have HSZ:=hid hsz;clear hm hk hcap hT hsz hz;have m0 : (w.alloc (.cells (mV m) 29)).cell? ⟨w.heap.size,0,none⟩ = some (.slice m.ta m.tn m.tc):=ai b0;have m1 : (w.alloc (.cells (mV m) 29)).cell? ⟨w.heap.size,1,none⟩ = some (.slice m.ha m.hn m.hc):=ai b0;have m2 : (w.alloc (.cells (mV m) 29)).cell? ⟨w.heap.size,2,none⟩ = some (.slice m.ga m.gn m.gc):=ai b0;have m3 : (w.alloc (.cells (mV m) 29)).cell? ⟨w.heap.size,3,none⟩ = some (.int .i64 m.fi):=ai b0;have m4 : (w.alloc (.cells (mV m) 29)).cell? ⟨w.heap.size,4,none⟩ = some (.int .i64 m.mo):=ai b0;have m5 : (w.alloc (.cells (mV m) 29)).cell? ⟨w.heap.size,5,none⟩ = some (.slice m.fa m.fn m.fc):=ai b0;have m6 : (w.alloc (.cells (mV m) 29)).cell? ⟨w.heap.size,6,none⟩ = some (.slice m.da m.dn m.dc):=ai b0;have m7 : (w.alloc (.cells (mV m) 29)).cell? ⟨w.heap.size,7,none⟩ = some (.slice m.ea m.en m.ec):=ai b0;have HW : w.alloc (bD m.ta m.tn m.tc m.ha m.hn m.hc m.ga m.gn m.gc m.fi m.mo m.fa m.fn m.fc m.da m.dn m.dc m.ea m.en m.ec) = w.alloc (.cells (mV m) 29):=rfl;generalize w.alloc (.cells (mV m) 29) = W0 at *;unfold mV at HE
 show Calls Tryz.prog 24 #[.agg #[.slice m.ta m.tn m.tc,.slice m.ha m.hn m.hc,.slice m.ga m.gn m.gc,.int .i64 m.fi,.int .i64 m.mo,.slice m.fa m.fn m.fc,.slice m.da m.dn m.dc,.slice m.ea m.en m.ec],.int .i64 f,.slice sa sn sc] w _
 go_enter Tryz.func24,Tryz.ntmps24
 go_wp2_with fail;refine HE.out.mono ?_;rintro e w2 ⟨rfl,hb2⟩
 replace m0:=ag hb2 m0
 replace m1:=ag hb2 m1
 replace m2:=ag hb2 m2
 replace m3:=ag hb2 m3
 replace m4:=ag hb2 m4
 replace m5:=ag hb2 m5
 replace m6:=ag hb2 m6
 replace m7:=ag hb2 m7
 have HB2:=hid (B0.trans (hb2.mono B0.size));clear b0 B0 HE HW hb2 hz1
 by_cases hx : cB m = 0
 rotate_left
 ·have hx' : (cB m != 0) = true:=by simpa using hx
  have HV:=hid (show wQ m f T sn = false by unfold wQ; rw [if_neg hx])
  exact CM
 rw [hx]
 by_cases hr : f < 0 ∨ (m.fn : Int) ≤ f
 ·have HV:=hid (show wQ m f T sn = false by unfold wQ; rw [if_pos hx,if_pos hr])
  exact Jz
 obtain ⟨kf,rfl⟩ : ∃ kf : Nat,f = kf:=⟨f.toNat,ae⟩;have hkf : kf < m.fn:=ae;have hml:=HM.out.pf.1;obtain ⟨x,hxk⟩ : ∃ x,m.fns[kf]? = some x:=⟨_,aN ae⟩
 have HV:=hid (show wQ m kf T sn = lH m x T sn by unfold wQ; rw [if_pos hx,if_neg hr,Int.toNat_natCast,hxk]; rfl)
 obtain ⟨fb,foff,hfa,hat⟩:=HM.out.pf.2.resolve_left ae;have hat:=hat kf x hxk;obtain ⟨t,P,Q,ht,hP,h64,hll,hn,hcs,hln⟩:=N3 hx HM.out hxk;have hcp:=HCP.out x (List.mem_of_getElem? hxk);have n2:=ag HB2.out hat.2.2;have d1 : decide ((kf : Int) < 0) = false:=ak;have d2 : decide ((m.fn : Int) ≤ (kf : Int)) = false:=aG;have d3 : (kf : Int) < (m.fn : Int):=ae
 have H56:=hid (fun (W : World) (hb : Below w.heap.size w W) => G7 x.2.2.1.1 x.2.2.1.2.1 x.2.2.1.2.2 (x.2.2.2.map inx) W ae hcp (hcs.later hb (Nat.le_refl _)))
 rw [hfa] at m5;have HCS:=hid hcs
 have HLN:=hid (fun j (hj : j < x.2.2.1.2.1) => (hln j hj).1)
 have HLL:=hid hll;have HTY : Hid (bE m x.1 = (P,Q)):=hid Ef
 have HX:=hid (show lH m x T sn = (decide ((res (opF (x.2.2.2.map inx)) x.2.2.1.2.1 0).1 = 0) && (decide (sn = x.2.2.1.2.1) && (((T 0).toList == []) && (j5 T sn && lq m (aD (P ++ x.2.1)) Q (x.2.2.2.map inx) x.2.2.1.2.1 (fM T sn))))) by unfold lH; rw [HTY.out])
 have HFA:=hid hfa;clear hat hr hml hcs hln hll;generalize hca0 : x.2.2.1.1 = ca at *;generalize hnn0 : x.2.2.1.2.1 = nn at *;generalize hcc0 : x.2.2.1.2.2 = cc at *;have HN0:=hid hnn0;clear hca0 hnn0 hcc0;go_wp2_with fail;refine (H56.out _ HB2.out).mono ?_;rintro e w3 ⟨a1,a2,a3,n1,n2',n3,c1,c2,c3,rfl,hMO,hb3⟩
 replace m0:=ag hb3 m0
 replace m1:=ag hb3 m1
 replace m2:=ag hb3 m2
 replace m3:=ag hb3 m3
 replace m4:=ag hb3 m4
 replace m5:=ag hb3 m5
 replace m6:=ag hb3 m6
 replace m7:=ag hb3 m7
 have HB3:=hid (HB2.out.trans (hb3.mono HB2.out.size));have HMO:=hid hMO;clear hb3 hMO H56 n2 HB2
 by_cases hres : (res (opF (x.2.2.2.map inx)) nn 0).1 = 0
 rotate_left
 ·have hr' : ((res (opF (x.2.2.2.map inx)) nn 0).1 != 0) = true:=by simpa using hres
  have HY:=hid (show lH m x T sn = false by rw [HX.out,decide_eq_false hres,Bool.false_and])
  clear hres m0 m1 m2 m3 m4 m5 m6 m7 HX;generalize (res (opF (x.2.2.2.map inx)) nn 0).1 = re at *;generalize (res (opF (x.2.2.2.map inx)) nn 0).2 = re2 at *;exact pM
 obtain ⟨hR0,l1,l2,l3⟩:=HMO.out.resolve_left (fun h => h.1 hres)
 have hG : Good (opF (x.2.2.2.map inx)) nn:=ku hres;obtain ⟨rfl,A,rfl,_,_,hA⟩:=mS l1 hG.1;obtain ⟨rfl,B,rfl,_,_,hB⟩:=mS l2 hG.1;obtain ⟨rfl,C,rfl,_,_,hC⟩:=mS l3 hG.1;have HRES:=hid hR0;have HABC:=hid (And.intro hA (And.intro hB hC));have h0n : 0 < n3:=hG.1;rw [hres];have HRES0:=hid hres;generalize (res (opF (x.2.2.2.map inx)) n3 0).2 = re2 at *;clear HMO l1 l2 l3 hA hB hC hG hres hR0
 by_cases hsn2 : sn = n3
 rotate_left
 ·have d5 : ((sn : Int) != (n3 : Int)) = true:=aG
  have HY:=hid (show lH m x T sn = false by rw [HX.out,decide_eq_false hsn2,Bool.false_and,Bool.and_false])
  clear hsn2 m0 m1 m2 m3 m4 m5 m6 m7 HX;exact pM
 subst hsn2;have d5 : ((sn : Int) != (sn : Int)) = false:=ak;obtain ⟨cb,coff,hca,hcd⟩:=HCS.out.2.resolve_left ae;obtain ⟨sb,soff,hsa,hcT⟩:=HTT.out.resolve_left ae;have HCD:=hid hcd;have HCT:=hid hcT;have i0 : (0 : Int) < (sn : Int):=ae;have k0:=ag HB3.out (hcT 0 h0n);rw [Nat.add_zero] at k0;rw [hca,hsa]
 have HX1:=hid (show lH m x T sn = (((T 0).toList == []) && (j5 T sn && lq m (aD (P ++ x.2.1)) Q (x.2.2.2.map inx) sn (fM T sn))) by rw [HX.out,decide_eq_true HRES0.out,decide_eq_true rfl,Bool.true_and,Bool.true_and])
 clear hcd hcT HX HCS
 cases hT0 : ((T 0).toList == []) with
 | false =>
  have HY:=hid (show lH m x T sn = false by rw [HX1.out,hT0,Bool.false_and])
  clear m0 m1 m2 m3 m4 m5 m6 m7 HX1;generalize T 0 = T0 at *;exact pM
 | true =>
  have HX2:=hid (show lH m x T sn = (j5 T sn && lq m (aD (P ++ x.2.1)) Q (x.2.2.2.map inx) sn (fM T sn)) by rw [HX1.out,hT0,Bool.true_and])
  have hT1 : (T 0).toList = []:=by simpa using hT0
  have HT0 : T 0 = ⟨#[]⟩:=by
   apply ByteArray.ext
   apply Array.toList_inj.1
   rw [← ck];exact hT1
  rw [HT0] at k0;clear hT0 hT1 HT0 HX1;have HMM:=hid (And.intro m0 (And.intro m1 (And.intro m2 (And.intro m3 (And.intro m4 (And.intro m5 (And.intro m6 m7)))))));clear m0 m1 m2 m3 m4 m5 m6 m7;go_wp2_with fail
  go_loopw [13] (fun ix wr => ∃ k : Nat,k ≤ sn ∧ ix = .int .i64 k ∧ (∀ j,j < k → lett (T j) 256 = true) ∧ wr = w3) (fun ix _ => sn - (intOf ix).toNat)
  case atStart => exact ⟨0,Nat.zero_le _,rfl,fun j hj => absurd hj (Nat.not_lt_zero _),rfl⟩
  case round =>
   obtain ⟨k,hk,rfl,hall,rfl⟩:=hrel;have HL:=hid hall;clear hall
   by_cases hlt : k < sn
   ·have c0:=ag HB3.out (HCT.out k hlt);have hk1 : (k : Int) < (sn : Int):=ae;have H57:=hid (Mm (T k) wr (HSZ.out k hlt));clear k0
    cases hl : lett (T k) 256 with
    | true =>
     rw [hl] at H57
     have HK1 : Hid (∀ j,j < k + 1 → lett (T j) 256 = true):=hid fun j hj => by
      exact BI
     clear hl;generalize T k = tk at *;go_wp2_with fail;refine H57.out.mono ?_;rintro e w5 ⟨rfl,rfl⟩;go_wp2_with fail;exact ⟨⟨k + 1,ae,aX,HK1.out,trivial⟩,aZ⟩
    | false =>
     rw [hl] at H57
     have hv : j5 T sn = false:=by
      cases hb : j5 T sn with
      | false => rfl
      | true => have:=iR.1 hb k hlt; rw [hl] at this; cases this
     have HY:=hid (show lH m x T sn = false by rw [HX2.out,hv,Bool.false_and])
     clear hv hl;generalize T k = tk at *;go_wp2_with fail;refine H57.out.mono ?_;rintro e w5 ⟨rfl,rfl⟩;exact pM
   ·have hk1 : ¬ (k : Int) < (sn : Int):=ae
    have hv : j5 T sn = true:=iR.2 fun j hj => HL.out j ae
    have HAL:=hid (iR.1 hv)
    have HX3:=hid (show lH m x T sn = lq m (aD (P ++ x.2.1)) Q (x.2.2.2.map inx) sn (fM T sn) by rw [HX2.out,hv,Bool.true_and])
    obtain ⟨m0,m1,m2,m3,m4,m5,m6,m7⟩:=HMM.out;clear hv HL HX2 k0;go_wp2_with fail;have BJ:=aj wr (.cells #[.slice m.ta m.tn m.tc,.slice m.ha m.hn m.hc,.slice m.ga m.gn m.gc,.int .i64 m.fi,.int .i64 m.mo,.slice (some ⟨fb,foff,none⟩) m.fn m.fc,.slice m.da m.dn m.dc,.slice m.ea m.en m.ec,.int .i64 kf,.slice (some ⟨cb,coff,none⟩) sn cc,.slice (some ⟨A,0,none⟩) sn c1,.slice (some ⟨B,0,none⟩) sn c2,.slice (some ⟨C,0,none⟩) sn c3,.slice (some ⟨sb,soff,none⟩) sn sc] 100);have bJ:=heap_alloc_new wr (.cells #[.slice m.ta m.tn m.tc,.slice m.ha m.hn m.hc,.slice m.ga m.gn m.gc,.int .i64 m.fi,.int .i64 m.mo,.slice (some ⟨fb,foff,none⟩) m.fn m.fc,.slice m.da m.dn m.dc,.slice m.ea m.en m.ec,.int .i64 kf,.slice (some ⟨cb,coff,none⟩) sn cc,.slice (some ⟨A,0,none⟩) sn c1,.slice (some ⟨B,0,none⟩) sn c2,.slice (some ⟨C,0,none⟩) sn c3,.slice (some ⟨sb,soff,none⟩) sn sc] 100);have HB5:=hid (HB3.out.trans (BJ.mono HB3.out.size))
    have HRG:=hid (Q4 hx HK.out hp HM.out HB5.out hxk ht hP HLL.out h64 HN0.out hn HRES.out (J:=wr.heap.size) (c1:=c1) (c2:=c2) (c3:=c3) (sc:=sc) hcp HCD.out HCT.out HAL.out (by rw [HFA.out]; exact bJ) (fun j hj => ag BJ (HABC.out.1 j hj)) (fun j hj => ag BJ (HABC.out.2.1 j hj)) (fun j hj => ag BJ (HABC.out.2.2 j hj)))
    clear m0 m1 m2 m3 m4 m5 m6 m7 BJ bJ HABC HMM;generalize wr.alloc (.cells #[.slice m.ta m.tn m.tc,.slice m.ha m.hn m.hc,.slice m.ga m.gn m.gc,.int .i64 m.fi,.int .i64 m.mo,.slice (some ⟨fb,foff,none⟩) m.fn m.fc,.slice m.da m.dn m.dc,.slice m.ea m.en m.ec,.int .i64 kf,.slice (some ⟨cb,coff,none⟩) sn cc,.slice (some ⟨A,0,none⟩) sn c1,.slice (some ⟨B,0,none⟩) sn c2,.slice (some ⟨C,0,none⟩) sn c3,.slice (some ⟨sb,soff,none⟩) sn sc] 100) = W5 at *;generalize wr.heap.size = J at *;have HKN:=hid (HB5.out)
    go_loopw [15] (fun ix W => ∃ k : Nat,k ≤ sn ∧ ix = .int .i64 k ∧ (∀ j,j < k → (kH m (aD (P ++ x.2.1)) Q (x.2.2.2.map inx) sn (fM T sn) j && awB (opF (x.2.2.2.map inx)) j) = true) ∧ Below W5.heap.size W5 W) (fun ix _ => sn - (intOf ix).toNat)
    case atStart => exact ⟨0,Nat.zero_le _,rfl,fun j hj => absurd hj (Nat.not_lt_zero _),Below.refl _ _⟩
    case round =>
     obtain ⟨k,hk,rfl,hall,hbr⟩:=hrel;have HL:=hid hall;have HB6:=hid hbr;clear hall hbr
     by_cases hlt : k < sn
     ·have hk1 : (k : Int) < (sn : Int):=ae
      have H58 : Hid (Calls Tryz.prog 58 #[.pointer (some ⟨J,0,none⟩),.int .i64 k] wr fun e w' => e = .returned (.bool (kH m (aD (P ++ x.2.1)) Q (x.2.2.2.map inx) sn (fM T sn) k)) ∧ Below wr.heap.size wr w'):=hid (Py (HRG.out.1.later HB6.out) HRG.out.2 (p:=k) hlt (fun _ => HLN.out k hlt))
      have HBW:=hid (HB5.out.trans (HB6.out.mono HB5.out.size));have q0:=ag HBW.out (HCD.out.op hlt)
      have HNO : Hid ((kH m (aD (P ++ x.2.1)) Q (x.2.2.2.map inx) sn (fM T sn) k && awB (opF (x.2.2.2.map inx)) k) = false → lH m x T sn = false):=hid fun hb => by
       rw [HX3.out];unfold lq;rw [List.all_eq_false]
       exact ⟨k,List.mem_range.2 hlt,by rw [hb]; decide⟩
      cases hrv : kH m (aD (P ++ x.2.1)) Q (x.2.2.2.map inx) sn (fM T sn) k with
      | false =>
       rw [hrv] at H58
       have HY:=hid (HNO.out (by rw [hrv,Bool.false_and]))
       go_wp2_with fail;refine H58.out.mono ?_;rintro e w7 ⟨rfl,hb7⟩;have HB7:=hid (HB6.out.trans (hb7.mono HB6.out.size));clear hb7 q0;exact Cb
      | true =>
       rw [hrv] at H58
       by_cases hk0 : k = 0
       ·subst hk0
        have HK1 : Hid (∀ j,j < 0 + 1 → (kH m (aD (P ++ x.2.1)) Q (x.2.2.2.map inx) sn (fM T sn) j && awB (opF (x.2.2.2.map inx)) j) = true):=hid fun j hj => by
         rcases Nat.lt_or_ge j 0 with hx | hx
         ·exact HL.out j hx
         ·obtain rfl : j = 0:=ae;rw [hrv,Bool.true_and];rfl
        go_wp2_with fail;refine H58.out.mono ?_;rintro e w7 ⟨rfl,hb7⟩;have HB7:=hid (HB6.out.trans (hb7.mono HB6.out.size));clear hb7 q0;go_wp2_with fail;exact ⟨⟨1,ae,rfl,HK1.out,HB7.out⟩,aZ⟩
       ·obtain ⟨q,rfl⟩ : ∃ q,k = q + 1:=⟨k - 1,ae⟩
        have q1:=ag HBW.out (HCD.out.op (show q < sn by omega))
        have hw : IntKind.i64.wrap (q : Int) = (q : Int):=i64_in _ ae ae;have hq1 : (q : Int) < (sn : Int):=ae
        have H18:=hid (fun (W : World) => Pm (opF (x.2.2.2.map inx) q) W)
        have HAW:=hid (show awB (opF (x.2.2.2.map inx)) (q + 1) = !(decide (opF (x.2.2.2.map inx) q = 7 ∨ opF (x.2.2.2.map inx) q = 9 ∨ opF (x.2.2.2.map inx) q = 10 ∨ opF (x.2.2.2.map inx) q = 0) && (decide (opF (x.2.2.2.map inx) (q + 1) ≠ 5) && decide (opF (x.2.2.2.map inx) (q + 1) ≠ 6))) by unfold awB; rw [decide_eq_true ae,Bool.true_and,Nat.add_sub_cancel])
        go_wp2_with fail;refine H58.out.mono ?_;rintro e w7 ⟨rfl,hb7⟩;have HB7:=hid (HB6.out.trans (hb7.mono HB6.out.size))
        replace q0:=ag hb7 q0
        replace q1:=ag hb7 q1
        clear hb7;go_wp2_with fail;refine (H18.out _).mono ?_;rintro e w8 ⟨rfl,rfl⟩
        cases haw : decide (opF (x.2.2.2.map inx) q = 7 ∨ opF (x.2.2.2.map inx) q = 9 ∨ opF (x.2.2.2.map inx) q = 10 ∨ opF (x.2.2.2.map inx) q = 0) with
        | false =>
         have HK1 : Hid (∀ j,j < q + 1 + 1 → (kH m (aD (P ++ x.2.1)) Q (x.2.2.2.map inx) sn (fM T sn) j && awB (opF (x.2.2.2.map inx)) j) = true):=hid fun j hj => by
          rcases Nat.lt_or_ge j (q + 1) with hx | hx
          ·exact HL.out j hx
          ·obtain rfl : j = q + 1:=ae
           rw [hrv,Bool.true_and,HAW.out,haw,Bool.false_and]; rfl
         exact tW
        | true =>
         by_cases h5 : opF (x.2.2.2.map inx) (q + 1) = 5
         ·have e5 : (opF (x.2.2.2.map inx) (q + 1) != 5) = false:=qO
          have HK1 : Hid (∀ j,j < q + 1 + 1 → (kH m (aD (P ++ x.2.1)) Q (x.2.2.2.map inx) sn (fM T sn) j && awB (opF (x.2.2.2.map inx)) j) = true):=hid fun j hj => by
           rcases Nat.lt_or_ge j (q + 1) with hx | hx
           ·exact HL.out j hx
           ·obtain rfl : j = q + 1:=ae
            rw [hrv,Bool.true_and,HAW.out,haw,Bool.true_and,h5]; rfl
          exact tW
         have e5 : (opF (x.2.2.2.map inx) (q + 1) != 5) = true:=qO
         by_cases h6 : opF (x.2.2.2.map inx) (q + 1) = 6
         ·have e6 : (opF (x.2.2.2.map inx) (q + 1) != 6) = false:=lD
          have HK1 : Hid (∀ j,j < q + 1 + 1 → (kH m (aD (P ++ x.2.1)) Q (x.2.2.2.map inx) sn (fM T sn) j && awB (opF (x.2.2.2.map inx)) j) = true):=hid fun j hj => by
           rcases Nat.lt_or_ge j (q + 1) with hx | hx
           ·exact HL.out j hx
           ·obtain rfl : j = q + 1:=ae
            rw [hrv,Bool.true_and,HAW.out,haw,Bool.true_and,h6]; rfl
          exact tW
         have e6 : (opF (x.2.2.2.map inx) (q + 1) != 6) = true:=lD
         have HY:=hid (HNO.out (by rw [hrv,Bool.true_and,HAW.out,haw,decide_eq_true h5,decide_eq_true h6]; rfl))
         exact Cb
     ·have hk1 : ¬ (k : Int) < (sn : Int):=ae
      have HY:=hid (show lH m x T sn = true by
       rw [HX3.out]
       exact List.all_eq_true.2 fun j hj => HL.out j (by have:=List.mem_range.1 hj; omega))
      go_wp2_with fail;go_ret;exact ⟨Az,HB5.out.trans (HB6.out.mono HB5.out.size)⟩
theorem D9 {a b : ByteArray} : (a.toList == b.toList) = true ↔ a = b:=by
 rw [beq_iff_eq,ck,ck]
 exact ⟨zQ,fun h => h ▸ rfl⟩
section
variable {m : MM} {R : ByteArray} {xs : List Inx} {sh : Nat → ByteArray} {i : Nat} {B : ByteArray}
end
section
variable {m : MM} {lo : List Int} {xs : List Inx} {R : ByteArray} {n : Nat} {sh : Nat → ByteArray}
end
section
variable {m : MM} {lo : List Int} {R : ByteArray} {xs : List Inx} {n : Nat} {sh : Nat → ByteArray}
theorem lX {p : Nat} (hp : p < n) (t : ByteArray) : iG n sh p t = ((sh p).toList == t.toList):=by
 unfold iG;rw [decide_eq_true hp,Bool.true_and]
theorem kP {p : Nat} (hp : p + 1 < n) (off on : ByteArray) : fk m R xs n sh p off on = gS m R xs sh p (off,on):=by
 unfold fk gS;rw [lX hp]
theorem wm (p : Nat) (t : ByteArray) : fG sh [(p,t)] = ((sh p).toList == t.toList):=by
 unfold fG;rw [List.all_cons,List.all_nil,Bool.and_true]
theorem JF (p q : Nat) (t u : ByteArray) : fG sh [(p,t),(q,u)] = (((sh p).toList == t.toList) && ((sh q).toList == u.toList)):=by
 unfold fG;rw [List.all_cons,List.all_cons,List.all_nil,Bool.and_true]
theorem Hv {s t : ByteArray} (h : ends s t = true) : below s t ++ t = s:=by
 unfold ends at h;rw [Bool.and_eq_true,decide_eq_true_eq,D9] at h;unfold below
 conv => lhs; rhs; rw [← h.2]
 rw [ByteArray.extract_append_extract];have e1 : min 0 (s.size - t.size) = 0:=ae;have e2 : max (s.size - t.size) s.size = s.size:=ae
 simp [e1,e2]
def Opd (m : MM) (R : ByteArray) (xs : List Inx) (n : Nat) : Prop:=∀ t,t < n → isO (opF xs t) = true → (bu m R xs (t : Int)).2 = true
theorem PQ (ho : Opd m R xs n) {i : Nat} (hi : i < n) : fJ m R xs i = ltV m R xs i:=by
 funext a
 unfold fJ;refine Prod.ext rfl ?_
 show ((dH (opF xs) i a).2 && (bu m R xs (dH (opF xs) i a).1).2) = (dH (opF xs) i a).2
 unfold dH
 by_cases h0 : a < 0
 ·rw [if_pos h0]; rfl
 rw [if_neg h0]
 by_cases h1 : a ≤ (stk (opF xs) i).length
 ·rw [if_pos h1]
  show (true && (bu m R xs ((dG (opF xs) i).getD a.toNat 0)).2) = true
  rw [Bool.true_and]
  rcases Nat.lt_or_ge a.toNat (stk (opF xs) i).length with h | h
  ·rw [um h]
   have:=nE (opF xs) i _ (List.getElem_mem h)
   exact ho _ ae this.2
  ·have e : a.toNat = (stk (opF xs) i).length:=ae;rw [e,kM];unfold bu;rw [if_pos rfl]
 ·rw [if_neg h1]; rfl
theorem wR (hG : Good (opF xs) n) {i : Nat} (hi : i < n) {a : Int} (h : (bI (ltV m R xs i) false ⟨#[]⟩ [a]).2 = true) : 0 ≤ a ∧ a ≤ 1000:=by
 have hs:=jn (ra hG hi);rw [bI] at h
 cases hl : (ltV m R xs i a).2 with
 | false => rw [if_pos hl] at h; cases h
 | true =>
  have : (dH (opF xs) i a).2 = true:=hl;unfold dH at this
  by_cases h0 : a < 0
  ·rw [if_pos h0] at this; cases this
  rw [if_neg h0] at this
  by_cases h1 : a ≤ (stk (opF xs) i).length
  ·omega
  ·rw [if_neg h1] at this; cases this
theorem DZ {p : Prop} [Decidable p] {b c : Bool} (h : b = true → p) : (decide p && (b && c)) = (b && c):=by
 cases b with
 | false => simp
 | true => rw [decide_eq_true (h rfl),Bool.true_and]
def nxB (O : Nat → Int) (i : Nat) : Bool:=if O i = 0 ∨ O i = 7 ∨ O i = 9 ∨ O i = 10 then decide (O (i + 1) = 5) || decide (O (i + 1) = 6) else true
theorem KZ (hG : Good (opF xs) n) (ho : Opd m R xs n) {p : Nat} (hp : p < n) : lY m lo R xs sh n p = (nxB (opF xs) p && kH m lo R xs n sh p):=by
 have hlast:=fun h6 => kV (i:=p) hG hp h6
 unfold lY kH nxB rl1 rll;rw [PQ ho hp]
 by_cases c4 : opF xs p = 4
 ·have hO : isO (opF xs p) = true:=cD.2 ae;have hl:=hlast ae;obtain ⟨q,q1,q2,q3,_,_,q4⟩:=kR hG hp hO;rw [if_pos c4,if_neg ae,Bool.true_and,if_neg ae,if_pos hO]
  have eO : fy m R xs p = (bu m R xs p).1.1 ++ ⟨#[119]⟩:=by unfold fy; rw [if_pos c4]
  have eB : (bT m R xs sh p).1 = (isV m R xs sh p ((bu m R xs p).1.1 ++ ⟨#[119]⟩)).1:=by
   unfold bT isV;rw [if_neg ae,Int.toNat_natCast,eO]
  unfold goV zK sL jF jX;rw [if_pos hO,if_pos hO,if_pos c4,eB,eO,lX ae];unfold gS;dsimp only
  by_cases he : 0 ≤ elF (opF xs) n p
  ·rw [if_pos he,if_pos he,lX ae,wm]
   simp only [Bool.and_assoc]
  ·rw [if_neg he,if_neg he,lX ae,wm]
   simp only [Bool.and_assoc]
 rw [if_neg c4]
 by_cases c5 : opF xs p = 5
 ·have hO : isO (opF xs p) = false:=fW ae;have hl:=hlast ae;obtain ⟨_,q,q1,q2,q3,_⟩:=oN hG hp c5;rw [if_pos c5,if_neg ae,Bool.true_and,if_neg ae,if_neg lK,if_pos (.inl c5)];unfold tO xA
  have ht : top (stk (opF xs) p) ≠ -1:=by
   have he:=(hG.2.1 p ae).1
   rcases cQ (opF xs) p with h | ⟨t,h1,h2,h3⟩
   ·exfalso
    unfold er at he;rw [if_neg lK,if_pos c5,h] at he
    cases he
   ·rw [h3]
    show ((t : Nat) : Int) ≠ -1
    omega
  rw [if_neg ht,if_pos c5,lX ae,JF];exact J3
 rw [if_neg c5]
 by_cases c6 : opF xs p = 6
 ·have hO : isO (opF xs p) = false:=fW ae;rw [if_pos c6,if_neg ae,Bool.true_and,if_neg ae,if_neg lK,if_pos (.inr c6)];unfold tO xA
  by_cases ht : top (stk (opF xs) p) = -1
  ·rw [if_pos ht,ht,if_neg ae,wm];unfold tS bT bu
   simp
  ·have hl : p < n - 1:=by
    rcases Nat.lt_or_ge p (n - 1) with h | h
    ·exact h
    ·have e : p = n - 1:=ae;rw [e,hG.2.2.2.2] at ht;exact absurd rfl ht
   have htn : 0 ≤ top (stk (opF xs) p):=by
    rcases zJ (opF xs) p with h | ⟨t,h,_⟩
    ·exact absurd h ht
    ·omega
   rw [if_neg ht,if_neg ae,lX ae,JF,decide_eq_false ae,Bool.false_or];exact J3
 rw [if_neg c6];have hl:=hlast c6
 by_cases cw : opF xs p = 0 ∨ opF xs p = 7 ∨ opF xs p = 9 ∨ opF xs p = 10
 ·have hO : isO (opF xs p) = false:=fW ae;rw [if_pos cw,if_pos cw]
  congr 1
  unfold yN KI
  by_cases c0 : opF xs p = 0
  ·rw [if_pos c0,if_pos c0]
  rw [if_neg c0,if_neg c0,if_neg (show ¬ isO (opF xs p) = true by rw [hO]; decide),if_neg (show ¬ (opF xs p = 5 ∨ opF xs p = 6) by omega)]
  by_cases c7 : opF xs p = 7
  ·rw [if_pos c7,if_pos c7,DZ (wR hG hp)]
  rw [if_neg c7,if_neg c7,if_neg (show ¬ opF xs p = 8 by omega)]
  by_cases c9 : opF xs p = 9
  ·rw [if_pos c9,if_pos c9]
  rw [if_neg c9,if_neg c9,if_pos (show opF xs p = 10 by omega),Bool.true_and]
 rw [if_neg cw,if_neg cw,Bool.true_and]
 by_cases c16 : opF xs p = 16
 ·rw [if_pos c16,if_neg ae,if_neg (by rw [fW ae]; decide),if_neg ae,if_neg ae,if_neg ae,if_neg ae,if_neg ae,if_pos c16,kP ae,kP ae]
 rw [if_neg c16]
 by_cases c17 : opF xs p = 17
 ·rw [if_pos c17,if_neg ae,if_neg (by rw [fW ae]; decide),if_neg ae,if_neg ae,if_neg ae,if_neg ae,if_neg ae,if_neg ae,if_pos c17,kP ae,kP ae]
 rw [if_neg c17,if_neg ae]
 cases hO : isO (opF xs p) with
 | true =>
  have h23:=cD.1 hO;rw [if_pos rfl];unfold goV sL jF jX
  have eO : fy m R xs p = (bu m R xs p).1.1:=by unfold fy; rw [if_neg c4]
  rw [if_pos hO,if_pos hO,if_neg c4,eO,lX ae];unfold gS;dsimp only
  cases hi : (isV m R xs sh p (bu m R xs p).1.1).2 with
  | false => simp
  | true =>
   have : (isV m R xs sh p (bu m R xs p).1.1).1 ++ (bu m R xs p).1.1 = sh p:=by
    unfold isV at hi ⊢;dsimp only at hi ⊢;rw [Bool.and_eq_true,Bool.and_eq_true] at hi;rw [if_pos hi.1.2];exact Hv hi.1.2
   rw [this]
 | false =>
  rw [if_neg aH,if_neg ae,if_neg ae]
  by_cases c8 : opF xs p = 8
  ·rw [if_pos c8,DZ (wR hG hp),kP ae];unfold goV jF jX;rw [hO,if_neg aH,if_pos c8,if_neg aH,if_pos c8]
  rw [if_neg c8,if_neg ae,if_neg ae,if_neg c16,if_neg c17,kP ae];rfl
theorem QN (hG : Good (opF xs) n) (h : ∀ p,p < n → lY m lo R xs sh n p = true) : Opd m R xs n:=by
 intro t ht hO;have hr:=h t ht;have h3:=cD.1 hO
 have hg : goV m lo R xs sh t = true:=by
  unfold lY at hr
  by_cases c4 : opF xs t = 4
  ·rw [if_pos c4,Bool.and_eq_true] at hr;exact hr.1
  ·rw [if_neg c4,if_neg ae,if_neg ae,if_neg ae,if_neg ae,if_neg ae] at hr;exact hr
 unfold goV jF at hg;rw [if_pos hO,Bool.and_eq_true] at hg;exact hg.1
theorem QG (h : ∀ p,p < n → kH m lo R xs n sh p = true) : Opd m R xs n:=by
 intro t ht hO;have hr:=h t ht;have h3:=cD.1 hO;unfold kH at hr;rw [if_neg ae,if_pos hO] at hr;unfold sL at hr;rw [Bool.and_eq_true] at hr;exact hr.1
theorem NT (O : Nat → Int) (p : Nat) : awB O (p + 1) = nxB O p:=by
 unfold awB nxB
 rw [Nat.add_sub_cancel,decide_eq_true (show 0 < p + 1 by omega),Bool.true_and]
 by_cases hc : O p = 0 ∨ O p = 7 ∨ O p = 9 ∨ O p = 10
 ·rw [if_pos hc,decide_eq_true (show O p = 7 ∨ O p = 9 ∨ O p = 10 ∨ O p = 0 by omega),Bool.true_and]
  by_cases h5 : O (p + 1) = 5
  ·simp [h5]
  ·by_cases h6 : O (p + 1) = 6
   ·simp [h6]
   ·simp [h5,h6]
 ·rw [if_neg hc,decide_eq_false (show ¬ (O p = 7 ∨ O p = 9 ∨ O p = 10 ∨ O p = 0) by omega),Bool.false_and]
  rfl
theorem GY {O : Nat → Int} (hG : Good O n) : (∀ p,p < n → awB O p = true) ↔ ∀ p,p < n → nxB O p = true:=by
 constructor
 ·intro h p hp
  rcases Nat.lt_or_ge (p + 1) n with hx | hx
  ·rw [← NT];exact h _ hx
  ·have e : p = n - 1:=ae;have h6:=hG.2.2.2.1;rw [← e] at h6;unfold nxB;rw [if_neg ae]
 ·intro h p hp
  cases p with
  | zero => rfl
  | succ q => rw [NT]; exact h q ae
theorem MF (hG : Good (opF xs) n) : lq m lo R xs n sh = (List.range n).all (lY m lo R xs sh n):=by
 have key : lq m lo R xs n sh = true ↔ (List.range n).all (lY m lo R xs sh n) = true:=by
  unfold lq;rw [List.all_eq_true,List.all_eq_true]
  simp only [List.mem_range]
  constructor
  ·intro h
   have h1 : ∀ p,p < n → kH m lo R xs n sh p = true:=fun p hp => ((Bool.and_eq_true _ _).mp (h p hp)).1
   have h2:=(GY hG).1 fun p hp => ((Bool.and_eq_true _ _).mp (h p hp)).2
   intro p hp;rw [KZ hG (QG h1) hp,h1 p hp,h2 p hp];rfl
  ·intro h;have ho:=QN hG h
   have h1 : ∀ p,p < n → (nxB (opF xs) p && kH m lo R xs n sh p) = true:=fun p hp => by rw [← KZ hG ho hp]; exact h p hp
   have h2:=(GY hG).2 fun p hp => ((Bool.and_eq_true _ _).mp (h1 p hp)).1
   intro p hp;rw [((Bool.and_eq_true _ _).mp (h1 p hp)).2,h2 p hp];rfl
 cases hb : lq m lo R xs n sh with
 | true => exact (key.1 hb).symm
 | false =>
  cases hc : (List.range n).all (lY m lo R xs sh n) with
  | false => rfl
  | true => rw [key.2 hc] at hb; cases hb
end
theorem OU (m : MM) (f : Int) (T : Nat → ByteArray) (sn : Nat) : wQ m f T sn = ky m f T sn:=by
 unfold wQ ky
 have key : ∀ x : FuM,lH m x T sn = ll m x T sn:=fun x => by
  unfold lH ll
  by_cases hr : (res (opF (x.2.2.2.map inx)) x.2.2.1.2.1 0).1 = 0
  ·have hG:=ku hr;rw [decide_eq_true hr,Bool.true_and,Bool.true_and]
   by_cases hs : sn = x.2.2.1.2.1
   ·rw [decide_eq_true hs,Bool.true_and,Bool.true_and,MF hG];unfold vU;rw [wm]
    have h0 : 0 < sn:=by rw [hs]; exact hG.1
    have e0 : fM T sn 0 = T 0:=by unfold fM; rw [if_pos h0]
    rw [e0]
    show (((T 0).toList == []) && _) = (j5 T sn && (((T 0).toList == (ByteArray.mk #[]).toList) && _))
    rw [show (ByteArray.mk #[]).toList = [] from by rw [ck]]
    cases ((T 0).toList == ([] : List UInt8)) <;> cases j5 T sn <;> simp
   ·rw [decide_eq_false hs,Bool.false_and,Bool.false_and]
  ·rw [decide_eq_false hr,Bool.false_and,Bool.false_and]
 by_cases h0 : cB m = 0
 ·rw [if_pos h0,if_pos h0]
  by_cases hf : f < 0 ∨ (m.fn : Int) ≤ f
  ·rw [if_pos hf,if_pos hf]
  ·rw [if_neg hf,if_neg hf]
   cases m.fns[f.toNat]? with
   | none => rfl
   | some x => exact key x
 ·rw [if_neg h0,if_neg h0]
structure SmM (m n : MM) : Prop where
 tn : n.tn = m.tn
 types : n.types = m.types
 hn : n.hn = m.hn
 hosts : n.hosts = m.hosts
 gn : n.gn = m.gn
 globals : n.globals = m.globals
 fn : n.fn = m.fn
 ft : ∀ a,uq n a = uq m a
structure SmX (xs ys : List Inx) : Prop where
 op : opF ys = opF xs
 a : ∀ i,(ys.getD i dx).a = (xs.getD i dx).a
 l : ∀ i,(ys.getD i dx).l = (xs.getD i dx).l
section
variable {m n : MM} {xs ys : List Inx} {R : ByteArray} {sh : Nat → ByteArray} {lo : List Int}
theorem JQ (hm : SmM m n) : bE n = bE m:=by
 funext a
 unfold bE;rw [hm.types]
theorem lS (hm : SmM m n) (hx : SmX xs ys) : bu n R ys = bu m R xs:=by
 funext o
 unfold bu;rw [hx.a,hm.tn,JQ hm]
theorem LD (hm : SmM m n) (hx : SmX xs ys) : fy n R ys = fy m R xs:=by
 funext t
 unfold fy;rw [hx.op,lS hm hx]
theorem pI (hm : SmM m n) (hx : SmX xs ys) : bT n R ys sh = bT m R xs sh:=by
 funext o
 unfold bT;rw [LD hm hx,lS hm hx]
theorem NE (hm : SmM m n) (hx : SmX xs ys) : isV n R ys sh = isV m R xs sh:=by
 funext i t
 unfold isV;rw [hx.op,pI hm hx]
theorem JG (hm : SmM m n) (hx : SmX xs ys) : gS n R ys sh = gS m R xs sh:=by
 funext i x
 unfold gS;rw [NE hm hx]
theorem Km (hm : SmM m n) (hx : SmX xs ys) : ltV n R ys = ltV m R xs:=by
 funext i a
 unfold ltV;rw [hx.op,lS hm hx]
theorem PW (hm : SmM m n) (hx : SmX xs ys) : tS n R ys sh = tS m R xs sh:=by
 funext o
 unfold tS;rw [pI hm hx,lS hm hx]
theorem PG (hm : SmM m n) (hx : SmX xs ys) : tO n R ys sh = tO m R xs sh:=by
 funext i j
 unfold tO;rw [hx.op,PW hm hx,pI hm hx]
theorem NM (hm : SmM m n) : glC n = glC m ∧ glM n = glM m:=by
 constructor
 ·funext a; unfold glC; rw [hm.globals]
 ·funext a; unfold glM; rw [hm.globals]
theorem Qt (hm : SmM m n) (s : Cs) (o : Opn) (c a : Int) : efE n lo s o c a = efE m lo s o c a:=by
 unfold efE;rw [hm.fn,hm.hn,hm.gn,(NM hm).2]
theorem OM (hm : SmM m n) (s : Cs) (o : Opn) (c a : Int) : efV n lo s o c a = efV m lo s o c a:=by
 unfold efV;rw [JQ hm,hm.ft,hm.hosts,(NM hm).1]
theorem QH (hm : SmM m n) (hx : SmX xs ys) : jF n lo R ys = jF m lo R xs:=by
 funext i
 unfold jF;rw [hx.op,hx.a,lS hm hx,Km hm hx,Qt hm]
theorem Ry (hm : SmM m n) (hx : SmX xs ys) : jX n lo R ys = jX m lo R xs:=by
 funext i
 unfold jX;rw [hx.op,hx.a,lS hm hx,Km hm hx,OM hm,LD hm hx]
theorem QY (hm : SmM m n) (hx : SmX xs ys) : goV n lo R ys sh = goV m lo R xs sh:=by
 funext i
 unfold goV;rw [QH hm hx,Ry hm hx,JG hm hx]
theorem PC (hm : SmM m n) (hx : SmX xs ys) : zK n R ys sh = zK m R xs sh:=by
 funext k i
 unfold zK;rw [hx.op,pI hm hx,lS hm hx]
theorem Qo (hm : SmM m n) (hx : SmX xs ys) : yN n R ys sh = yN m R xs sh:=by
 funext i
 unfold yN KI;rw [hx.op,hx.a,hx.l,Km hm hx,NE hm hx]
theorem Oe (hm : SmM m n) (hx : SmX xs ys) : lY n lo R ys sh = lY m lo R xs sh:=by
 funext k i
 unfold lY;rw [hx.op,QY hm hx,PC hm hx,PG hm hx,Qo hm hx,JG hm hx]
theorem OT (hm : SmM m n) (hx : SmX xs ys) (k : Nat) : vU n lo R ys sh k = vU m lo R xs sh k:=by
 unfold vU;rw [Oe hm hx]
end
end Go.Proofs.YtepnnenohjfkbaaGreatDoor
