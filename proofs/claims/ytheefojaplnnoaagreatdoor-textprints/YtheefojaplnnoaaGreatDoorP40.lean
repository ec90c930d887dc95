/-
  Texts Rg.
-/
import Derived.Test.YtheefojaplnnoaaGreatDoorP00
import Derived.Test.YtheefojaplnnoaaGreatDoorP36
set_option linter.unusedVariables false
set_option maxRecDepth 100000
set_option maxHeartbeats 16000000
namespace Go.Proofs.YtheefojaplnnoaaGreatDoor
open Go.RowKit
theorem Fx {l : List DaM} {t : Nat} {y : DaM} (h : l[t]? = some y) (v : Int) : d9 (l.take (t + 1)) v = decide (v ≤ y.1 + (y.2.2.length : Int)):=by
 unfold d9;rw [List.take_add_one,h]
 simp
theorem LO {l : List Ex} {t : Nat} {y : Ex} (h : l[t]? = some y) (s : ByteArray) : fy (l.take (t + 1)) s = !(sGt s y.1):=by
 unfold fy;rw [List.take_add_one,h]
 simp
def ahd (l : List Ex) : ByteArray:=match l.getLast? with | none => ⟨#[]⟩ | some y => y.1
theorem Ir (nf : Int) (l : List Ex) {t : Nat} {x : Ex} (hx : l[t]? = some x) : dw nf (l.take t) x = orE (nmE x.1 (ahd (l.take t)) (decide (t = 0))) (bQ nf x.2):=by
 unfold dw nmE orE
 by_cases h1 : 32 < x.1.size
 ·simp [h1]
 ·rw [if_neg h1,if_neg h1]
  by_cases h2 : iR x.1 = false
  ·simp [h2]
  ·rw [if_neg h2,if_neg h2]
   cases t with
   | zero => simp [fy]
   | succ t =>
    have hl:=aA hx;obtain ⟨y,hy⟩ : ∃ y,l[t]? = some y:=⟨_,aN ae⟩
    have ha : ahd (l.take (t + 1)) = y.1:=by unfold ahd; rw [List.take_add_one,hy]; simp
    rw [LO hy,ha]
    cases hg : sGt x.1 y.1 <;> simp
theorem su (m : MM) (w : World) (pd : jn w m.da m.dn m.data) (dr : ∀ (j : Nat) x,m.data[j]? = some x → (-9223372036854775808 ≤ x.1 ∧ x.1 < 9223372036854775808) ∧ x.2.1.2.1 = x.2.2.length ∧ x.2.1.2.1 ≤ 281474976710656) (hdn : m.dn ≤ 281474976710656) (i0 : 0 ≤ m.fi) (i1 : m.fi ≤ 64)
  (pe : jD w m.ea m.en m.exps) (er : ∀ (j : Nat) x,m.exps[j]? = some x → (-9223372036854775808 ≤ x.2 ∧ x.2 < 9223372036854775808) ∧ x.1.size ≤ 281474976710656) (hen : m.en ≤ 281474976710656) (hfn : m.fn ≤ 281474976710656) :
  Calls Tryz.prog 209 #[.agg (mV m)] w fun e w' => e = .returned (.int .i64 (orE (e7 m) (e8 m))) ∧ Below w.heap.size w w':=by
 have HPD:=hid (fun (W : World) (hb : Below w.heap.size w W) => pd.kept (az hb) (fun _ _ _ _ => id))
 have HPE:=hid (fun (W : World) (hb : Below w.heap.size w W) => pe.kept (az hb) (fun _ _ _ _ => id))
 have HDR:=hid dr;have HER:=hid er;have dl:=pd.1;have el:=pe.1;clear pd pe dr er;have B0:=ak w (.cells (mV m) 29);have b0:=heap_alloc_new w (.cells (mV m) 29);have HW : w.alloc (bg m.ta m.tn m.tc m.ha m.hn m.hc m.ga m.gn m.gc m.fi m.mo m.fa m.fn m.fc m.da m.dn m.dc m.ea m.en m.ec) = w.alloc (.cells (mV m) 29):=rfl;generalize w.alloc (.cells (mV m) 29) = W0 at *;have HB0:=hid B0
 have HX:=hid (fun (W : World) (hb : Below W0.heap.size W0 W) => (⟨ai hb (ag b0),ai hb (ag b0),ai hb (ag b0),ai hb (ag b0)⟩ : W.cell? ⟨w.heap.size,3,none⟩ = some (.int .i64 m.fi) ∧ W.cell? ⟨w.heap.size,5,none⟩ = some (.slice m.fa m.fn m.fc) ∧ W.cell? ⟨w.heap.size,6,none⟩ = some (.slice m.da m.dn m.dc) ∧ W.cell? ⟨w.heap.size,7,none⟩ = some (.slice m.ea m.en m.ec)))
 obtain ⟨m3,m5,m6,m7⟩:=HX.out W0 (Below.refl _ _);clear B0 b0
 show Calls Tryz.prog 209 #[.agg #[.slice m.ta m.tn m.tc,.slice m.ha m.hn m.hc,.slice m.ga m.gn m.gc,.int .i64 m.fi,.int .i64 m.mo,.slice m.fa m.fn m.fc,.slice m.da m.dn m.dc,.slice m.ea m.en m.ec]] w _
 by_cases ht : 64 < m.dn
 ·have HV:=hid (show orE (e7 m) (e8 m) = 20 by
   have : e7 m = 20:=by unfold e7 bu; rw [if_pos ae]
   rw [this]; rfl)
  have ht' : (64 : Int) < (m.dn : Int):=ae
  go_enter Tryz.func209,Tryz.ntmps209
  exact o9
 have ht' : ¬ (64 : Int) < (m.dn : Int):=ae
 have HE7:=hid (show e7 m = bi (fun (ah : List DaM) x => bK (m.fi * 4096) ah x) [] m.data by unfold e7 bu; rw [if_neg ae])
 go_enter Tryz.func209,Tryz.ntmps209
 go_wp2_with fail;clear m3 m5 m6 m7 HW
 go_loopw [3] (fun i wr => ∃ t : Nat,t ≤ m.dn ∧ i = .int .i64 t ∧ Hid (bi (fun (ah : List DaM) x => bK (m.fi * 4096) ah x) [] (m.data.take t) = 0) ∧ Hid (Below W0.heap.size W0 wr)) (fun i _ => m.dn - (intOf i).toNat)
 case atStart => exact ⟨0,Nat.zero_le _,rfl,hid rfl,hid (Below.refl _ _)⟩
 case round =>
  obtain ⟨t,htd,rfl,HF,HB⟩:=hrel;obtain ⟨m3,m5,m6,m7⟩:=HX.out wr HB.out
  by_cases hlt : t < m.dn
  ·have hlt' : (t : Int) < (m.dn : Int):=ae;obtain ⟨x,hx⟩ : ∃ x,m.data[t]? = some x:=⟨_,aN ae⟩;obtain ⟨db,dof,hda,hat⟩:=(HPD.out wr (HB0.out.trans (HB.out.mono HB0.out.size))).2.resolve_left ae;obtain ⟨g0,g1⟩:=hat t x hx;obtain ⟨⟨r0,r1⟩,r2,r3⟩:=HDR.out t x hx
   have HH:=hid (fun hne => eF (fun (ah : List DaM) x => bK (m.fi * 4096) ah x) m.data t x hx HF.out hne)
   have HT:=hid (fun hz => eD (fun (ah : List DaM) x => bK (m.fi * 4096) ah x) m.data t x hx HF.out hz)
   have HAT:=hid hat;rw [hda] at m6
   try rw [hda]
   obtain ⟨pl,⟨ba,bn,bc⟩,bl⟩:=x;dsimp only at *;subst r2;have BN:=ak wr (bh pl ba bl.length bc);have bnn:=heap_alloc_new wr (bh pl ba bl.length bc);have HB1:=hid (HB.out.trans (BN.mono HB.out.size));have y0 : (wr.alloc (bh pl ba bl.length bc)).cell? ⟨wr.heap.size,0,none⟩ = some (.int .i64 pl):=ag bnn;have y1 : (wr.alloc (bh pl ba bl.length bc)).cell? ⟨wr.heap.size,1,none⟩ = some (.slice ba bl.length bc):=ag bnn;have m3':=ai BN m3;have m6':=ai BN m6;have HBN:=hid BN
   have HBD:=hid (fun (n : Nat) => (show Below W0.heap.size W0 ((wr.alloc (bh pl ba bl.length bc)).drewN n) from bT HB1.out (aJ.drewN (fun _ => False) _ n) HB1.out.size (fun _ x => x.elim)))
   have hwm : (m.fi * 4096 : Int) ≤ 262144:=ae;have hww : wrap64 (m.fi * 4096) = m.fi * 4096:=cQ;have hwm0 : (0 : Int) ≤ m.fi * 4096:=ae;clear hat hx BN bnn
   by_cases hb : pl < 0 ∨ m.fi * 4096 < pl
   ·have HV:=hid (show orE (e7 m) (e8 m) = 17 by
     have hc : bK (m.fi * 4096) (m.data.take t) (pl,(ba,bl.length,bc),bl) = 17:=by unfold bK; rw [if_pos hb]
     rw [HE7.out,HH.out gQ,hc]; rfl)
    by_cases h0 : pl < 0
    ·have d0 : decide (pl < 0) = true:=jG;exact pc
    ·have d0 : decide (pl < 0) = false:=jG;have d1 : decide (m.fi * 4096 < pl) = true:=aG;exact pc
   have d0 : decide (pl < 0) = false:=aG;have d1 : decide (m.fi * 4096 < pl) = false:=aG;have hp0 : (0 : Int) ≤ pl:=ae;have hp1 : pl ≤ 262144:=ae;clear r0 r1;have hsb : wrap64 (m.fi * 4096 - pl) = m.fi * 4096 - pl:=cQ
   have HC:=hid (show ∀ b,d9 (m.data.take t) pl = b → bK (m.fi * 4096) (m.data.take t) (pl,(ba,bl.length,bc),bl) = if b = true then 18 else if m.fi * 4096 - pl < (bl.length : Int) then 13 else if bl.length = 0 then 17 else 0 by
    intro b h1;unfold bK;rw [if_neg hb];dsimp only
    rw [h1])
   have HV18:=hid (show d9 (m.data.take t) pl = true → orE (e7 m) (e8 m) = 18 by
    intro h1;have hc:=HC.out _ h1;rw [if_pos rfl] at hc
    rw [HE7.out,HH.out gQ,hc]; rfl)
   have HV13:=hid (show d9 (m.data.take t) pl = false → m.fi * 4096 - pl < (bl.length : Int) → orE (e7 m) (e8 m) = 13 by
    intro h1 h2;have hc:=HC.out _ h1;rw [if_neg av,if_pos h2] at hc
    rw [HE7.out,HH.out gQ,hc]; rfl)
   have HV17:=hid (show d9 (m.data.take t) pl = false → ¬ m.fi * 4096 - pl < (bl.length : Int) → bl.length = 0 → orE (e7 m) (e8 m) = 17 by
    intro h1 h2 h3;have hc:=HC.out _ h1;rw [if_neg av,if_neg h2,if_pos h3] at hc
    rw [HE7.out,HH.out gQ,hc]; rfl)
   have HVN:=hid (show d9 (m.data.take t) pl = false → ¬ m.fi * 4096 - pl < (bl.length : Int) → ¬ bl.length = 0 → bi (fun (ah : List DaM) x => bK (m.fi * 4096) ah x) [] (m.data.take (t + 1)) = 0 by
    intro h1 h2 h3;have hc:=HC.out _ h1;rw [if_neg av,if_neg h2,if_neg h3] at hc;exact HT.out hc)
   have HYB:=hid (fun (s : Nat) (y : DaM) (hs : t = s + 1) (hy : m.data[s]? = some y) => (show 0 ≤ y.1 ∧ y.1 ≤ m.fi * 4096 ∧ (y.2.2.length : Int) ≤ m.fi * 4096 - y.1 by
    have h1:=bq (fun (ah : List DaM) x => bK (m.fi * 4096) ah x) (m.data.take t) [] HF.out s y (by rw [List.getElem?_take,if_pos ae]; exact hy)
    unfold bK at h1
    split at h1
    ·cases h1
    ·split at h1
     ·cases h1
     ·split at h1
      ·cases h1
      ·omega))
   clear HC HH HT hb HF
   by_cases ht0 : t = 0
   ·subst ht0;have hz : d9 (m.data.take 0) pl = false:=rfl
    simp only [Nat.zero_mul,Nat.add_zero] at g0 g1
    have HV13:=hid (HV13.out hz);have HV17:=hid (HV17.out hz);have HVN:=hid (HVN.out hz);clear HV18 hz HAT
    by_cases h13 : m.fi * 4096 - pl < (bl.length : Int)
    ·exact Fw
    ·have d3 : decide (m.fi * 4096 - pl < (bl.length : Int)) = false:=by simpa using h13
     by_cases h17 : bl.length = 0
     ·exact GC
     ·have HN:=hid (HVN.out h13 h17)
      have d4 : ((bl.length : Int) == 0) = false:=by simpa using h17
      go_wp2_with fail
      go_quiet (fail)
      go_wp2_with fail
      exact ⟨⟨0 + 1,ae,by first | rfl | go_num,HN,hid (HBD.out _)⟩,bD⟩
   ·obtain ⟨s,rfl⟩ : ∃ s,t = s + 1:=⟨t - 1,ae⟩;clear ht0;obtain ⟨y,hy⟩ : ∃ y,m.data[s]? = some y:=⟨_,aN ae⟩;obtain ⟨v0,v1⟩:=HAT.out s y hy;have v0:=ai HBN.out v0;have v1:=ai HBN.out v1;obtain ⟨⟨q0,q1⟩,q2,q3⟩:=HDR.out s y hy;have hta:=Fx hy pl;have HYS:=hid hy;obtain ⟨yp,⟨ya,yn,yc⟩,yl⟩:=y;dsimp only at *;subst q2;clear hy HAT;obtain ⟨b0,b1,b2⟩:=HYB.out s _ rfl HYS.out;dsimp only at b0 b1 b2;have hsum : wrap64 (yp + (yl.length : Int)) = yp + (yl.length : Int):=cQ;have hs2 : (0 : Int) < (s : Int) + 1:=ae;have hsn : (s : Int) < (m.dn : Int):=ae
    by_cases h18 : pl ≤ yp + (yl.length : Int)
    ·have HV:=hid (HV18.out (by rw [hta]; simpa using h18))
     have d2 : decide (pl ≤ yp + (yl.length : Int)) = true:=by simpa using h18
     clear HYB HYS hta;exact tY
    have d2 : decide (pl ≤ yp + (yl.length : Int)) = false:=by simpa using h18
    have hz : d9 (m.data.take (s + 1)) pl = false:=by rw [hta]; simpa using h18
    have HV13:=hid (HV13.out hz);have HV17:=hid (HV17.out hz);have HVN:=hid (HVN.out hz);clear HV18 hz HYB HYS hta
    by_cases h13 : m.fi * 4096 - pl < (bl.length : Int)
    ·exact Fw
    ·have d3 : decide (m.fi * 4096 - pl < (bl.length : Int)) = false:=by simpa using h13
     by_cases h17 : bl.length = 0
     ·exact GC
     ·have HN:=hid (HVN.out h13 h17)
      have d4 : ((bl.length : Int) == 0) = false:=by simpa using h17
      go_wp2_with fail
      go_quiet (fail)
      go_wp2_with fail;exact ⟨⟨s + 1 + 1,ae,bB,HN,hid (HBD.out _)⟩,bD⟩
  ·obtain rfl : t = m.dn:=ae
   have hE0 : e7 m = 0:=by rw [HE7.out]; have:=HF.out; rwa [iq dl] at this
   by_cases hh : 64 < m.en
   ·have HV:=hid (show orE (e7 m) (e8 m) = 20 by
     have : e8 m = 20:=by unfold e8 bu; rw [if_pos ae]
     rw [aP hE0,this])
    have hh' : (64 : Int) < (m.en : Int):=ae;exact AA
   have hh' : ¬ (64 : Int) < (m.en : Int):=ae
   have HE8:=hid (show orE (e7 m) (e8 m) = bi (fun (ah : List Ex) x => dw m.fn ah x) [] m.exps by rw [aP hE0]; unfold e8 bu; rw [if_neg ae])
   clear hE0 HE7 HF;go_wp2_with fail;clear m3 m5 m6 m7
   go_loopw [5,6,7] (fun ah i _ wr => ∃ t : Nat,t ≤ m.en ∧ ah = .string (ahd (m.exps.take t)) ∧ i = .int .i64 t ∧ Hid (bi (fun (ah : List Ex) x => dw m.fn ah x) [] (m.exps.take t) = 0) ∧ Hid (Below W0.heap.size W0 wr)) (fun _ i _ _ => m.en - (intOf i).toNat)
   case atStart => exact ⟨0,Nat.zero_le _,rfl,rfl,hid rfl,HB⟩
   case round =>
    obtain ⟨t,hte,rfl,rfl,HF,HB⟩:=hrel;obtain ⟨m3,m5,m6,m7⟩:=HX.out _ HB.out
    by_cases hlt : t < m.en
    ·have hlt' : (t : Int) < (m.en : Int):=ae;obtain ⟨x,hx⟩ : ∃ x,m.exps[t]? = some x:=⟨_,aN ae⟩;obtain ⟨eb,eof,hea,hat⟩:=(HPE.out _ (HB0.out.trans (HB.out.mono HB0.out.size))).2.resolve_left ae;obtain ⟨g0,g1⟩:=hat t x hx;obtain ⟨⟨r0,r1⟩,r2⟩:=HER.out t x hx
     have HH:=hid (fun hne => eF (fun (ah : List Ex) x => dw m.fn ah x) m.exps t x hx HF.out hne)
     have HT:=hid (fun hz => eD (fun (ah : List Ex) x => dw m.fn ah x) m.exps t x hx HF.out hz)
     have HC:=hid (Ir m.fn m.exps hx)
     have HNX:=hid (show ahd (m.exps.take (t + 1)) = x.1 by unfold ahd; rw [List.take_add_one,hx]; simp)
     have HBD:=hid (fun (n : Nat) => (show Below W0.heap.size W0 (wr.drewN n) from bT HB.out (aJ.drewN (fun _ => False) _ n) HB.out.size (fun _ x => x.elim)))
     have HNM:=hid (fun (W : World) => DN x.1 (ahd (m.exps.take t)) (decide (t = 0)) W r2)
     have hdt : ((t : Int) == 0) = decide (t = 0):=by
      by_cases h : t = 0
      ·simp [h]
      ·simp [h]
     rw [hea] at m7
     try rw [hea]
     have hk0 : (0 : Int) ≤ (t : Int):=ae;clear hat hx HF;obtain ⟨xs,xf⟩:=x;dsimp only at *;generalize ahd (m.exps.take t) = ah at *;generalize hd0 : decide (t = 0) = d0 at *;clear hd0
     by_cases z0 : nmE xs ah d0 = 0
     rotate_left
     ·have HV:=hid (show orE (e7 m) (e8 m) = nmE xs ah d0 by
       have hc:=HC.out.trans (cU z0)
       rw [HE8.out,HH.out (by rw [hc]; exact z0),hc])
      generalize nmE xs ah d0 = E at *;have hE : (E != 0) = true:=tD;go_wp2_with fail;refine (HNM.out _).mono ?_;exact sI
     rw [z0] at HNM;have HC2:=hid (HC.out.trans (aP z0));clear HC z0
     by_cases hb : xf < 0 ∨ (m.fn : Int) ≤ xf
     ·have HV:=hid (show orE (e7 m) (e8 m) = 30 by
       have hc:=HC2.out;unfold bQ at hc;rw [if_pos hb] at hc
       rw [HE8.out,HH.out gQ,hc])
      by_cases h0 : xf < 0
      ·have dd : decide (xf < 0) = true:=jG;exact Fk
      ·have dd : decide (xf < 0) = false:=jG;have d1 : decide ((m.fn : Int) ≤ xf) = true:=aG;exact Fk
     ·have HN:=hid (HT.out (by rw [HC2.out]; unfold bQ; rw [if_neg hb]))
      have dd : decide (xf < 0) = false:=aG;have d1 : decide ((m.fn : Int) ≤ xf) = false:=aG;go_wp2_with fail;refine (HNM.out _).mono ?_;rintro e w1 ⟨rfl,hw⟩;have hw2:=hw.symm;subst hw2;go_wp2_with fail
      go_quiet (fail)
      go_wp2_with fail
      exact ⟨⟨t + 1,ae,by rw [HNX.out],bB,HN,hid (HBD.out _)⟩,bD⟩
    ·obtain rfl : t = m.en:=ae
     have HV:=hid (show orE (e7 m) (e8 m) = 0 by rw [HE8.out]; have:=HF.out; rwa [iq el] at this)
     exact ib
end Go.Proofs.YtheefojaplnnoaaGreatDoor
