/-
  Texts Hf BlkLift BlkFact.
-/
import Derived.JoinedOf
import Derived.KernelRfl
import Derived.RowKit
import Derived.Stop.Joined
import Derived.Test.YtheefojaplnnoaaGreatDoorC00
import Derived.Test.YtheefojaplnnoaaGreatDoorCards
import Derived.Test.YtheefojaplnnoaaGreatDoorC38
import Derived.Test.YtheefojaplnnoaaGreatDoorC42
set_option linter.unusedVariables false
set_option maxRecDepth 100000
set_option maxHeartbeats 16000000
namespace Go.Proofs.YtheefojaplnnoaaGreatDoor
open Go.RowKit
theorem ze (TB : Nat) (m : MM) (ua : Option Addr) (un uc : Nat) (ts : List Int) (w : World) (hE : bY TB w) (hr : Raw w m) (hu : CQ w ua un ts) :
  Calls Tryz.prog 6 #[.agg (mV m),.slice ua un uc] w fun e w' => e = .returned (.bool true) ∧ Below w.heap.size w w':=by
 have hTB:=hE.bw
 have HU:=hid (fun (W : World) (hb : Below w.heap.size w W) => hu.later hb)
 clear hu
 have HE:=hid (fun (W : World) (hb : Below w.heap.size w W) => hE.top (hb.mono hTB))
 have HR:=hid (fun (W : World) (hb : Below w.heap.size w W) => hr.later hb)
 have HM:=hid (fun (hs : Small m) => hr.ok hs)
 have HSR:=hid (fun hs => Jn hr hs)
 have HIR:=hid (show wL m from fun j x hj i y hi => KV hr j x hj i y hi)
 have H11:=hid (fun (y : MM) (W : World) (hb : Below w.heap.size w W) (h : MRd W y) => sw W.heap.size y W (Nat.le_refl _) (hE.top (hb.mono hTB)).tens (hE.top (hb.mono hTB)).kinds h.k h.i)
 have H15:=hid (fun (t : ByteArray) (W : World) (hb : Below w.heap.size w W) => tP t W (hE.top (hb.mono hTB)))
 have B0:=ag w (.cells (mV m) 29);have bx : (w.alloc (.cells (mV m) 29)).heap[w.heap.size]? = some (.cells (mV m) 29):=heap_alloc_new w (.cells (mV m) 29);have HW : w.alloc (ck m.ta m.tn m.tc m.ha m.hn m.hc m.ga m.gn m.gc m.fi m.mo m.fa m.fn m.fc m.da m.dn m.dc m.ea m.en m.ec) = w.alloc (.cells (mV m) 29):=rfl
 have H11m:=hid (fun (W : World) (hb : Below w.heap.size w W) (hk : ∀ R g,W.heap.size ≤ R → W.heap.size ≤ g → MOk W R g m) => sw W.heap.size m W (Nat.le_refl _) (hE.top (hb.mono hTB)).tens (hE.top (hb.mono hTB)).kinds hk HIR.out)
 clear hE hr;generalize w.alloc (.cells (mV m) 29) = W0 at *;have HB0:=hid B0;have HBX:=hid bx;clear B0 bx
 show Calls Tryz.prog 6 #[.agg #[.slice m.ta m.tn m.tc,.slice m.ha m.hn m.hc,.slice m.ga m.gn m.gc,.int .i64 m.fi,.int .i64 m.mo,.slice m.fa m.fn m.fc,.slice m.da m.dn m.dc,.slice m.ea m.en m.ec],.slice ua un uc] w _
 go_enter Tryz.func6,Tryz.ntmps6
 go_wp2_with fail;refine (Nu W0 (HE.out W0 HB0.out)).mono ?_;rintro e w1 ⟨rfl,hb⟩;have HB1:=hid (HB0.out.trans (hb.mono HB0.out.size))
 replace HBX:=hid (ak hb HBX.out)
 clear hb HB0 HW;obtain ⟨z1,z2,z3,z4,z5⟩:=HR.out w1 HB1.out;have H9:=Mx m w1 z1 z2 z3 z4 z5;unfold mV at H9;have HH9:=hid H9;clear H9 z1 z2 z3 z4 z5;have m0 : w1.cell? ⟨w.heap.size,0,none⟩ = some (.slice m.ta m.tn m.tc):=aj HBX.out;have m1 : w1.cell? ⟨w.heap.size,1,none⟩ = some (.slice m.ha m.hn m.hc):=aj HBX.out;have m2 : w1.cell? ⟨w.heap.size,2,none⟩ = some (.slice m.ga m.gn m.gc):=aj HBX.out;have m3 : w1.cell? ⟨w.heap.size,3,none⟩ = some (.int .i64 m.fi):=aj HBX.out;have m4 : w1.cell? ⟨w.heap.size,4,none⟩ = some (.int .i64 m.mo):=aj HBX.out;have m5 : w1.cell? ⟨w.heap.size,5,none⟩ = some (.slice m.fa m.fn m.fc):=aj HBX.out;have m6 : w1.cell? ⟨w.heap.size,6,none⟩ = some (.slice m.da m.dn m.dc):=aj HBX.out;have m7 : w1.cell? ⟨w.heap.size,7,none⟩ = some (.slice m.ea m.en m.ec):=aj HBX.out;go_wp2_with fail;clear m0 m1 m2 m3 m4 m5 m6 m7;refine HH9.out.mono ?_;rintro e w2 ⟨k,rfl,hb,hs⟩;have HB2:=hid (HB1.out.trans (hb.mono HB1.out.size))
 replace HBX:=hid (ak hb HBX.out)
 clear hb HH9 HB1
 by_cases hs4 : k ≤ 4096
 rotate_left
 ·have h4' : (4096 : Int) < (k : Int):=ae;clear hs hs4;go_wp2_with fail;go_ret;exact ⟨rfl,HB2.out⟩
 have h4' : ¬ (4096 : Int) < (k : Int):=ae;have HSZ:=hid (hs 4096 hs4 ae);obtain ⟨hsr,hszs⟩:=HSR.out (hs 131072 ae ae)
 have hsm : Small m:=by have:=hs 131072 ae ae; unfold Small; omega
 clear hs hs4
 have HMO:=hid (fun (W : World) (hb : Below w.heap.size w W) => fun R g h1 h2 => (HM.out hsm R g (Nat.le_trans hb.size h1) (Nat.le_trans hb.size h2)).later hb)
 have HMS:=hid (fun (W : World) (hb : Below w.heap.size w W) => hsr.later hb)
 clear hsr hszs;have H3:=hid (H11m.out w2 HB2.out (HMO.out w2 HB2.out));unfold mV at H3;have m0 : w2.cell? ⟨w.heap.size,0,none⟩ = some (.slice m.ta m.tn m.tc):=aj HBX.out;have m1 : w2.cell? ⟨w.heap.size,1,none⟩ = some (.slice m.ha m.hn m.hc):=aj HBX.out;have m2 : w2.cell? ⟨w.heap.size,2,none⟩ = some (.slice m.ga m.gn m.gc):=aj HBX.out;have m3 : w2.cell? ⟨w.heap.size,3,none⟩ = some (.int .i64 m.fi):=aj HBX.out;have m4 : w2.cell? ⟨w.heap.size,4,none⟩ = some (.int .i64 m.mo):=aj HBX.out;have m5 : w2.cell? ⟨w.heap.size,5,none⟩ = some (.slice m.fa m.fn m.fc):=aj HBX.out;have m6 : w2.cell? ⟨w.heap.size,6,none⟩ = some (.slice m.da m.dn m.dc):=aj HBX.out;have m7 : w2.cell? ⟨w.heap.size,7,none⟩ = some (.slice m.ea m.en m.ec):=aj HBX.out;go_wp2_with fail;clear m0 m1 m2 m3 m4 m5 m6 m7;obtain ⟨T,hT⟩ : ∃ T,uz m = T:=⟨_,rfl⟩;obtain ⟨C,hC⟩ : ∃ C,cS m = C:=⟨_,rfl⟩;rw [hT,hC] at H3;refine H3.out.mono ?_;rintro e w3 ⟨rfl,hb⟩;have HB3:=hid (HB2.out.trans (hb.mono HB2.out.size))
 replace HBX:=hid (ak hb HBX.out)
 clear hb H3 HB2
 by_cases hc : C = 0
 rotate_left
 ·have hcb : (C == 0) = false:=by simpa using hc
  clear hT hC;go_wp2_with fail;go_ret;exact ⟨rfl,HB3.out⟩
 subst hc;have HMR:=hid (show MRd w3 m from ⟨hC,HMO.out w3 HB3.out,HMS.out w3 HB3.out,HIR.out⟩)
 have HTT:=hid (show T = ⟨(fe m).toArray⟩ by rw [← hT]; unfold uz; rw [if_pos hC])
 have HMW:=hid (HMO.out w3 HB3.out _ _ (Nat.le_refl _) (Nat.le_refl _));have HC0:=hid hC
 have HTS:=hid (show T.size ≤ 300000 by rw [HTT.out]; exact (rA HMW.out hC HIR.out HSZ.out).1)
 clear hT hC;go_wp2_with fail;have BN:=ag w3 (.cells #[.string ⟨#[]⟩,.string ⟨#[32]⟩,.string ⟨#[9]⟩,.string ⟨#[13,32,9]⟩] 9);have bn:=heap_alloc_new w3 (.cells #[.string ⟨#[]⟩,.string ⟨#[32]⟩,.string ⟨#[9]⟩,.string ⟨#[13,32,9]⟩] 9)
 replace HBX:=hid (ak BN HBX.out)
 replace HMR:=hid (HMR.out.later BN)
 have HB4:=hid (HB3.out.trans (BN.mono HB3.out.size));have HBK:=hid bn;clear BN bn HB3 HMO HMS H11 H11m HM HSR HR;generalize w3.heap.size = Kb at *;generalize w3.alloc (.cells #[.string ⟨#[]⟩,.string ⟨#[32]⟩,.string ⟨#[9]⟩,.string ⟨#[13,32,9]⟩] 9) = w4 at *
 refine (Lm T w4 (by have:=HTS.out; omega)).mono ?_
 rintro e w5 ⟨v,rfl,hst,hb⟩;have HB5:=hid (HB4.out.trans (hb.mono HB4.out.size))
 replace HBX:=hid (ak hb HBX.out)
 replace HBK:=hid (ak hb HBK.out)
 replace HMR:=hid (HMR.out.later hb)
 obtain ⟨la,lc,rfl,hrow⟩:=yh hst;have HLL:=hid (il T)
 have HSZP:=hid (fun p hp => jC T p hp)
 obtain ⟨ls,hls⟩ : ∃ ls,aI T = ls:=⟨_,rfl⟩;rw [hls] at hrow HLL HSZP;rw [hls];have HLS:=hid hls;have HRW:=hid hrow;clear hst hb hrow hls HB4;go_wp2_with fail
 have HBF:=hid (show (gz ts 0 ls).length ≤ 1048576 by rw [← HLS.out,HTT.out]; exact A4 HMW.out HC0.out HIR.out HSZ.out ts)
 go_loopw [10,11,12] (fun b n i wr => ∃ t : Nat,t ≤ ls.length ∧ n = .int .i64 t ∧ i = .int .i64 t ∧ Hid (By8 wr w5.heap.size b (gz ts 0 (ls.take t))) ∧ Hid (Below w5.heap.size w5 wr)) (fun _ _ i _ => ls.length - (intOf i).toNat)
 case atStart => exact ⟨0,Nat.zero_le _,rfl,rfl,hid (by8_nil w5 _),hid (Below.refl _ _)⟩
 case round =>
  obtain ⟨t,ht,rfl,rfl,HBy,HB⟩:=hrel
  by_cases hlt : t < ls.length
  ·have hlt' : (t : Int) < (ls.length : Int):=ae;have hk0 : (0 : Int) ≤ (t : Int):=ae
   have hwi : IntKind.i64.wrap ((t : Int) + 1) = t + 1:=IntWalk.i64_in _ (by have:=HLL.out; have:=HTS.out; omega)
   obtain ⟨x,hx⟩ : ∃ x,ls[t]? = some x:=⟨_,aD hlt⟩;have HXS:=hid (HSZP.out x (List.mem_of_getElem? hx));have HBw:=hid (HB5.out.trans (HB.out.mono HB5.out.size));have HPT:=hid (vM ts ls hx);have HBD:=hid (Nat.le_trans (EY ts ls hx) HBF.out);obtain ⟨lb,lcs,rfl,hg1,hg2⟩:=HRW.out.2.2.resolve_left ae;have hg3:=hg2 t x hx
   have HXC:=hid (fun (W : World) (hb : Below w5.heap.size w5 W) => (show W.cell? ⟨lb,t,none⟩ = some (.string x) by rw [aj (ak hb hg1)]; exact hg3))
   have HK:=hid (fun (W : World) (hb : Below w5.heap.size w5 W) (n : Nat) => Ij (ak hb HBK.out) n)
   obtain ⟨P,hP⟩ : ∃ P,gz ts 0 (ls.take t) = P:=⟨_,rfl⟩;rw [hP] at HBy HPT HBD;obtain ⟨tz,htz⟩ : ∃ tz,mD ts t = tz:=⟨_,rfl⟩;rw [htz] at HPT HBD;have HTZ:=hid htz;clear htz hx hg1 hg2 hg3 hP
   have HTB:=hid (show (ma tz x.data.toList).length = (bL tz).length + (cA (bL (tz / 4)) (bR x.data.toList none)).length + (bL (tz / 16)).length + 1 + (if 192 ≤ tz then 15 else 0) by rw [oM]; simp only [List.length_append,List.length_singleton]; split <;> simp)
   by_cases hun : t < un
   ·have hun' : (t : Int) < (un : Int):=ae;obtain ⟨q1,q3,q4,q5⟩:=HU.out _ HBw.out;obtain ⟨tb,tf,rfl,hcl⟩:=q5.resolve_left ae;have hc1:=hcl t hun
    have hz1 : ts.getD t 0 = (tz : Int):=by
     rw [← HTZ.out];unfold mD;rw [List.getD_eq_getElem?_getD];have h1:=q4 (ts.getD t 0) BU;rw [List.getD_eq_getElem?_getD] at h1;omega
    rw [hz1] at hc1
    have htz : tz ≤ 255:=by
     have h1:=q4 (ts.getD t 0) BU;omega
    clear q1 q3 q4 q5 hcl hz1;have c0 : wr.cell? ⟨Kb,tz % 4,none⟩ = some (.string (ba (bL tz))):=HK.out _ HB.out tz
    go_wp2_with (at_builtin; (refine app8 _ rfl (.tmp 51) (.tmp 56) rfl w5.heap.size _ P (ba (bL tz)) rfl rfl HBy.out (by have h1:=HBD.out; have h2:=ie tz; rw [HTB.out] at h1; show P.length + (bL tz).length ≤ _; omega) HB.out.size ?_; intro v6 w6 hown hb hk; replace HBy:=hid hown; replace HB:=hid (HB.out.trans hb); clear hown hb hk c0; have hlx:=HXC.out _ HB.out))
    clear hlx
    refine (Br x w6 (by have:=HXS.out; have:=HTS.out; omega)).mono ?_
    rintro e w7 ⟨v7,rfl,hst,hb⟩;obtain ⟨wa,wc,rfl,hrow⟩:=yh hst
    replace HBy:=hid (rJ HBy.out hb)
    replace HB:=hid (HB.out.trans (hb.mono HB.out.size))
    have HRT:=hid hrow;clear hst hb hrow;obtain ⟨ws,hws⟩ : ∃ ws,bR x.data.toList none = ws:=⟨_,rfl⟩;rw [hws] at HTB;have HWS:=hid hws;obtain ⟨nw,hnw⟩ : ∃ nw,ws.length = nw:=⟨_,rfl⟩;rw [hws,List.length_map,hnw] at HRT;rw [hws,List.length_map,hnw];have HNW:=hid hnw;clear hws hnw;obtain ⟨P1,hP1⟩ : ∃ P1,P ++ bL tz = P1:=⟨_,rfl⟩
    replace HBy:=hid (show By8 w7 w5.heap.size v6 P1 by rw [← hP1]; exact HBy.out)
    have HP1:=hid hP1;clear hP1
    have HLB:=hid (show P1.length + (cA (bL (tz / 4)) ws).length + 19 ≤ 1048576 + 19 by have h1:=HBD.out; rw [HTB.out] at h1; rw [← HP1.out,List.length_append]; omega)
    have hnw : nw ≤ 300001:=Cs;go_wp2_with fail
    go_loopw [10,15] (fun b k wr => ∃ j : Nat,j ≤ nw ∧ k = .int .i64 j ∧ Hid (By8 wr w5.heap.size b (P1 ++ cA (bL (tz / 4)) (ws.take j))) ∧ Hid (Below w5.heap.size w5 wr) ∧ Hid (tN wr wa nw wc (ws.map ba))) (fun _ k _ => nw - (intOf k).toNat)
    case atStart => exact ⟨0,Nat.zero_le _,rfl,hid (by simpa [cA] using HBy.out),HB,HRT⟩
    case round =>
     clear HBy HB HRT;obtain ⟨j,hj,rfl,HBy,HB,HRT⟩:=hrel
     by_cases hjl : j < nw
     ·have hjl' : (j : Int) < (nw : Int):=ae;have hj0 : (0 : Int) ≤ (j : Int):=ae;have hwj : IntKind.i64.wrap ((j : Int) + 1) = j + 1:=IntWalk.i64_in _ ae
      obtain ⟨wd,hwd⟩ : ∃ wd,ws[j]? = some wd:=⟨_,aD (by rw [HNW.out]; exact hjl)⟩
      obtain ⟨wb,wcs,hwa,hg1,hg2⟩:=HRT.out.2.2.resolve_left ae;subst hwa
      have hg3:=hg2 j (ba wd) (by rw [List.getElem?_map,hwd]; rfl)
      have HWC:=hid (fun (W : World) (h : W.heap[wb]? = some (.cells wcs 9)) => (show W.cell? ⟨wb,j,none⟩ = some (.string (ba wd)) by rw [aj h]; exact hg3))
      have HWB:=hid hg1;clear hg1 hg2 hg3;have HBJ:=hid (Cg (bL (tz / 4)) ws (j + 1))
      by_cases hjz : j = 0
      ·have hnp : ¬ (0 : Int) < (j : Int):=ae;have hnp2 : decide ((0 : Int) < (j : Int)) = false:=decide_eq_false hnp
       have HJ:=hid (show cA (bL (tz / 4)) (ws.take (j + 1)) = cA (bL (tz / 4)) (ws.take j) ++ wd by subst hjz; rw [xo _ _ hwd]; simp [cA])
       exact IL
      ·have hnp : (0 : Int) < (j : Int):=ae;have hnp2 : decide ((0 : Int) < (j : Int)) = true:=decide_eq_true hnp;have HJ:=hid (zZ (bL (tz / 4)) ws hwd hjz);clear hwd hjz
       go_wp2_with (first
        | (at_builtin; (refine FT _ rfl (.tmp 71) (.tmp 72) rfl w5.heap.size _ _ 32 wr.heap.size rfl rfl ar (HBy.out.alloc _) Bz jk ?_; intro vA wA hown hb hk; replace HRT:=hid ((HRT.out.later (ag wr _)).app (HBy.out.alloc _) hk); replace HWB:=hid (blk8 (ak (ag wr _) HWB.out) aq (HBy.out.alloc _) hk); replace HBy:=hid hown; replace HB:=hid ((HB.out.alloc HB.out.size _).trans hb); clear hown hb hk; have c4 : wA.cell? ⟨Kb,tz / 4 % 4,none⟩ = some (.string (ba (bL (tz / 4)))):=HK.out _ HB.out (tz / 4)))
        | (at_builtin; (refine app8 _ rfl (.tmp 74) (.tmp 80) rfl w5.heap.size _ _ (ba (bL (tz / 4))) rfl rfl HBy.out (by have h1:=HLB.out; have h2:=HBJ.out; rw [HJ.out] at h2; simp only [List.length_append,List.length_cons,List.length_nil] at h2 ⊢; show _ + (bL (tz / 4)).length ≤ _; omega) HB.out.size ?_; intro vB wB hown hb hk; replace HRT:=hid (HRT.out.app HBy.out hk); replace HWB:=hid (blk8 HWB.out aq HBy.out hk); replace HBy:=hid hown; replace HB:=hid (HB.out.trans hb); clear hown hb hk c4; have hcw:=HWC.out _ HWB.out))
        | (at_builtin; (refine app8 _ rfl (.tmp 82) (.tmp 86) rfl w5.heap.size _ _ (ba wd) rfl rfl HBy.out (by have h1:=HLB.out; have h2:=HBJ.out; rw [HJ.out] at h2; simp only [List.length_append,List.length_cons,List.length_nil] at h2 ⊢; show _ + (bL (tz / 4)).length + wd.length ≤ _; omega) HB.out.size ?_; intro vC wC hown hb hk; replace HRT:=hid (HRT.out.app HBy.out hk); replace HBy:=hid hown; replace HB:=hid (HB.out.trans hb); clear hown hb hk hcw)))
       exact Hs
     ·obtain rfl : j = nw:=ae;clear HRT
      replace HBy:=hid (show By8 wr w5.heap.size _ (P1 ++ cA (bL (tz / 4)) ws) by have h1:=HBy.out; rw [List.take_of_length_le (Nat.le_of_eq HNW.out)] at h1; exact h1)
      have HLC:=hid (show (P1 ++ cA (bL (tz / 4)) ws).length + 40 ≤ 1048616 by rw [List.length_append]; have h1:=HLB.out; omega)
      have l16:=ie (tz / 16);have c16 : wr.cell? ⟨Kb,tz / 16 % 4,none⟩ = some (.string (ba (bL (tz / 16)))):=HK.out _ HB.out (tz / 16)
      by_cases h192 : 192 ≤ tz
      ·have h192' : (192 : Int) ≤ (tz : Int):=ae
       go_wp2_with (first
        | (at_builtin; (refine app8 _ rfl (.tmp 88) (.tmp 94) rfl w5.heap.size _ _ (ba (bL (tz / 16))) rfl rfl HBy.out A8 HB.out.size ?_; intro vD wD hown hb hk; replace HBy:=hid hown; replace HB:=hid (HB.out.trans hb); clear hown hb hk c16))
        | (at_builtin; (refine FT _ rfl (.tmp 96) (.tmp 97) rfl w5.heap.size _ _ 10 wD.heap.size rfl rfl ar (HBy.out.alloc _) Ap jk ?_; intro vE wE hown hb hk; replace HBy:=hid hown; replace HB:=hid ((HB.out.alloc HB.out.size _).trans hb); clear hown hb hk))
        | (at_builtin; (refine app8 _ rfl (.tmp 101) (.const (.string ⟨#[32,59,32,101,120,116,101,114,110,32,57,32,119,10,10]⟩)) rfl w5.heap.size _ _ _ rfl rfl HBy.out (by have h1:=HLC.out; simp only [List.length_append] at h1 ⊢; show _ + (bL (tz / 16)).length + 1 + 15 ≤ _; omega) HB.out.size ?_; intro vF wF hown hb hk; replace HBy:=hid hown; replace HB:=hid (HB.out.trans hb); clear hown hb hk)))
       exact ⟨⟨t + 1,hlt,bZ,bZ,hid (by rw [HPT.out,oM,HWS.out,if_pos h192]; have h1:=HBy.out; rw [← HP1.out] at h1; simp only [List.append_assoc] at h1 ⊢; exact h1),HB⟩,b9⟩
      ·have h192' : ¬ (192 : Int) ≤ (tz : Int):=ae
       go_wp2_with (first
        | (at_builtin; (refine app8 _ rfl (.tmp 88) (.tmp 94) rfl w5.heap.size _ _ (ba (bL (tz / 16))) rfl rfl HBy.out A8 HB.out.size ?_; intro vD wD hown hb hk; replace HBy:=hid hown; replace HB:=hid (HB.out.trans hb); clear hown hb hk c16))
        | (at_builtin; (refine FT _ rfl (.tmp 96) (.tmp 97) rfl w5.heap.size _ _ 10 wD.heap.size rfl rfl ar (HBy.out.alloc _) Ap jk ?_; intro vE wE hown hb hk; replace HBy:=hid hown; replace HB:=hid ((HB.out.alloc HB.out.size _).trans hb); clear hown hb hk)))
       exact ⟨⟨t + 1,hlt,bZ,bZ,hid (by rw [HPT.out,oM,HWS.out,if_neg h192,List.append_nil]; have h1:=HBy.out; rw [← HP1.out] at h1; simp only [List.append_assoc] at h1 ⊢; exact h1),HB⟩,b9⟩
   ·have hun' : ¬ (t : Int) < (un : Int):=ae
    obtain rfl : tz = 0:=by
     rw [← HTZ.out];unfold mD;obtain ⟨q1,-⟩:=HU.out _ HBw.out;rw [List.getElem?_eq_none ae];rfl
    replace HTB:=hid (show (ma 0 x.data.toList).length = (bL 0).length + (cA (bL 0) (bR x.data.toList none)).length + (bL 0).length + 1 + 0 from HTB.out)
    have c0 : wr.cell? ⟨Kb,0,none⟩ = some (.string (ba (bL 0))):=HK.out _ HB.out 0
    go_wp2_with (at_builtin; (refine app8 _ rfl (.tmp 51) (.tmp 56) rfl w5.heap.size _ P (ba (bL 0)) rfl rfl HBy.out (by have h1:=HBD.out; have h2:=ie 0; rw [HTB.out] at h1; show P.length + (bL 0).length ≤ _; omega) HB.out.size ?_; intro v6 w6 hown hb hk; replace HBy:=hid hown; replace HB:=hid (HB.out.trans hb); clear hown hb hk c0; have hlx:=HXC.out _ HB.out))
    clear hlx
    refine (Br x w6 (by have:=HXS.out; have:=HTS.out; omega)).mono ?_
    rintro e w7 ⟨v7,rfl,hst,hb⟩;obtain ⟨wa,wc,rfl,hrow⟩:=yh hst
    replace HBy:=hid (rJ HBy.out hb)
    replace HB:=hid (HB.out.trans (hb.mono HB.out.size))
    have HRT:=hid hrow;clear hst hb hrow;obtain ⟨ws,hws⟩ : ∃ ws,bR x.data.toList none = ws:=⟨_,rfl⟩;rw [hws] at HTB;have HWS:=hid hws;obtain ⟨nw,hnw⟩ : ∃ nw,ws.length = nw:=⟨_,rfl⟩;rw [hws,List.length_map,hnw] at HRT;rw [hws,List.length_map,hnw];have HNW:=hid hnw;clear hws hnw;obtain ⟨P1,hP1⟩ : ∃ P1,P ++ bL 0 = P1:=⟨_,rfl⟩
    replace HBy:=hid (show By8 w7 w5.heap.size v6 P1 by rw [← hP1]; exact HBy.out)
    have HP1:=hid hP1;clear hP1
    have HLB:=hid (show P1.length + (cA (bL 0) ws).length + 19 ≤ 1048576 + 19 by have h1:=HBD.out; rw [HTB.out] at h1; rw [← HP1.out,List.length_append]; omega)
    have hnw : nw ≤ 300001:=Cs;go_wp2_with fail
    go_loopw [10,15] (fun b k wr => ∃ j : Nat,j ≤ nw ∧ k = .int .i64 j ∧ Hid (By8 wr w5.heap.size b (P1 ++ cA (bL 0) (ws.take j))) ∧ Hid (Below w5.heap.size w5 wr) ∧ Hid (tN wr wa nw wc (ws.map ba))) (fun _ k _ => nw - (intOf k).toNat)
    case atStart => exact ⟨0,Nat.zero_le _,rfl,hid (by simpa [cA] using HBy.out),HB,HRT⟩
    case round =>
     clear HBy HB HRT;obtain ⟨j,hj,rfl,HBy,HB,HRT⟩:=hrel
     by_cases hjl : j < nw
     ·have hjl' : (j : Int) < (nw : Int):=ae;have hj0 : (0 : Int) ≤ (j : Int):=ae;have hwj : IntKind.i64.wrap ((j : Int) + 1) = j + 1:=IntWalk.i64_in _ ae
      obtain ⟨wd,hwd⟩ : ∃ wd,ws[j]? = some wd:=⟨_,aD (by rw [HNW.out]; exact hjl)⟩
      obtain ⟨wb,wcs,hwa,hg1,hg2⟩:=HRT.out.2.2.resolve_left ae;subst hwa
      have hg3:=hg2 j (ba wd) (by rw [List.getElem?_map,hwd]; rfl)
      have HWC:=hid (fun (W : World) (h : W.heap[wb]? = some (.cells wcs 9)) => (show W.cell? ⟨wb,j,none⟩ = some (.string (ba wd)) by rw [aj h]; exact hg3))
      have HWB:=hid hg1;clear hg1 hg2 hg3;have HBJ:=hid (Cg (bL 0) ws (j + 1))
      by_cases hjz : j = 0
      ·have hnp : ¬ (0 : Int) < (j : Int):=ae;have hnp2 : decide ((0 : Int) < (j : Int)) = false:=decide_eq_false hnp
       have HJ:=hid (show cA (bL 0) (ws.take (j + 1)) = cA (bL 0) (ws.take j) ++ wd by subst hjz; rw [xo _ _ hwd]; simp [cA])
       exact IL
      ·have hnp : (0 : Int) < (j : Int):=ae;have hnp2 : decide ((0 : Int) < (j : Int)) = true:=decide_eq_true hnp;have HJ:=hid (zZ (bL 0) ws hwd hjz);clear hwd hjz
       go_wp2_with (first
        | (at_builtin; (refine FT _ rfl (.tmp 71) (.tmp 72) rfl w5.heap.size _ _ 32 wr.heap.size rfl rfl ar (HBy.out.alloc _) Bz jk ?_; intro vA wA hown hb hk; replace HRT:=hid ((HRT.out.later (ag wr _)).app (HBy.out.alloc _) hk); replace HWB:=hid (blk8 (ak (ag wr _) HWB.out) aq (HBy.out.alloc _) hk); replace HBy:=hid hown; replace HB:=hid ((HB.out.alloc HB.out.size _).trans hb); clear hown hb hk; have c4 : wA.cell? ⟨Kb,0,none⟩ = some (.string (ba (bL 0))):=HK.out _ HB.out 0))
        | (at_builtin; (refine app8 _ rfl (.tmp 74) (.tmp 80) rfl w5.heap.size _ _ (ba (bL 0)) rfl rfl HBy.out (by have h1:=HLB.out; have h2:=HBJ.out; rw [HJ.out] at h2; simp only [List.length_append,List.length_cons,List.length_nil] at h2 ⊢; show _ + (bL 0).length ≤ _; omega) HB.out.size ?_; intro vB wB hown hb hk; replace HRT:=hid (HRT.out.app HBy.out hk); replace HWB:=hid (blk8 HWB.out aq HBy.out hk); replace HBy:=hid hown; replace HB:=hid (HB.out.trans hb); clear hown hb hk c4; have hcw:=HWC.out _ HWB.out))
        | (at_builtin; (refine app8 _ rfl (.tmp 82) (.tmp 86) rfl w5.heap.size _ _ (ba wd) rfl rfl HBy.out (by have h1:=HLB.out; have h2:=HBJ.out; rw [HJ.out] at h2; simp only [List.length_append,List.length_cons,List.length_nil] at h2 ⊢; show _ + (bL 0).length + wd.length ≤ _; omega) HB.out.size ?_; intro vC wC hown hb hk; replace HRT:=hid (HRT.out.app HBy.out hk); replace HBy:=hid hown; replace HB:=hid (HB.out.trans hb); clear hown hb hk hcw)))
       exact Hs
     ·obtain rfl : j = nw:=ae;clear HRT
      replace HBy:=hid (show By8 wr w5.heap.size _ (P1 ++ cA (bL 0) ws) by have h1:=HBy.out; rw [List.take_of_length_le (Nat.le_of_eq HNW.out)] at h1; exact h1)
      have HLC:=hid (show (P1 ++ cA (bL 0) ws).length + 40 ≤ 1048616 by rw [List.length_append]; have h1:=HLB.out; omega)
      have l16:=ie 0;have c16 : wr.cell? ⟨Kb,0,none⟩ = some (.string (ba (bL 0))):=HK.out _ HB.out 0
      go_wp2_with (first
       | (at_builtin; (refine app8 _ rfl (.tmp 88) (.tmp 94) rfl w5.heap.size _ _ (ba (bL 0)) rfl rfl HBy.out (by have h1:=HLC.out; simp only [List.length_append] at h1 ⊢; show _ + (bL 0).length ≤ _; omega) HB.out.size ?_; intro vD wD hown hb hk; replace HBy:=hid hown; replace HB:=hid (HB.out.trans hb); clear hown hb hk c16))
       | (at_builtin; (refine FT _ rfl (.tmp 96) (.tmp 97) rfl w5.heap.size _ _ 10 wD.heap.size rfl rfl ar (HBy.out.alloc _) (by have h1:=HLC.out; simp only [List.length_append] at h1 ⊢; show _ + (bL 0).length + 1 ≤ _; omega) jk ?_; intro vE wE hown hb hk; replace HBy:=hid hown; replace HB:=hid ((HB.out.alloc HB.out.size _).trans hb); clear hown hb hk)))
      exact ⟨⟨t + 1,hlt,bZ,bZ,hid (by rw [HPT.out,oM,HWS.out,if_neg aq,List.append_nil]; have h1:=HBy.out; rw [← HP1.out] at h1; simp only [List.append_assoc] at h1 ⊢; exact h1),HB⟩,b9⟩
  ·obtain rfl : t = ls.length:=ae;have h1:=HBy.out;rw [List.take_of_length_le (Nat.le_refl _)] at h1
   have hcv:=conv8 h1 (by have:=HBF.out; omega)
   replace HBX:=hid (ak HB.out HBX.out)
   replace HMR:=hid (HMR.out.later HB.out)
   have HB6:=hid (HB5.out.trans (HB.out.mono HB5.out.size));rw [← HLS.out,HTT.out] at hcv;clear h1 HBy;have H:=hid (H15.out (ba (gz ts 0 (aI ⟨(fe m).toArray⟩))) wr HB6.out);go_wp2_with fail;clear hcv;refine H.out.mono ?_;intro e w8 hp;obtain ⟨x,hpl,hx,rfl,hb⟩:=Dm ts HMR.out HSZ.out hp;have HB4x:=hid (HB6.out.trans (hb.mono HB6.out.size))
   replace HBX:=hid (ak hb HBX.out)
   replace HMR:=hid (HMR.out.later hb)
   have HPL:=hid hpl;clear hp hb H hpl HB6;unfold rt3 mV;have BN:=ag w8 (ck x.ta x.tn x.tc x.ha x.hn x.hc x.ga x.gn x.gc x.fi x.mo x.fa x.fn x.fc x.da x.dn x.dc x.ea x.en x.ec);have bn:=heap_alloc_new w8 (ck x.ta x.tn x.tc x.ha x.hn x.hc x.ga x.gn x.gc x.fi x.mo x.fa x.fn x.fc x.da x.dn x.dc x.ea x.en x.ec)
   replace hx:=hx.later BN
   replace HBX:=hid (ak BN HBX.out)
   replace HMR:=hid (HMR.out.later BN)
   have HB5x:=hid (HB4x.out.trans (BN.mono HB4x.out.size));have HXX:=hid bn;have HX:=hid hx;clear BN bn hx;have H:=hid (LN HMR.out.s HX.out.s (LR HPL.out.symm HMR.out.s HX.out.s));unfold mV at H;unfold mV at HBX;have n0:=aj (i:=0) HXX.out;have n1:=aj (i:=1) HXX.out;have n2:=aj (i:=2) HXX.out;have n3:=aj (i:=3) HXX.out;have n4:=aj (i:=4) HXX.out;have n5:=aj (i:=5) HXX.out;have n6:=aj (i:=6) HXX.out;have n7:=aj (i:=7) HXX.out;have m0:=aj (i:=0) HBX.out;have m1:=aj (i:=1) HBX.out;have m2:=aj (i:=2) HBX.out;have m3:=aj (i:=3) HBX.out;have m4:=aj (i:=4) HBX.out;have m5:=aj (i:=5) HBX.out;have m6:=aj (i:=6) HBX.out;have m7:=aj (i:=7) HBX.out;go_wp2_with fail;refine H.out.mono ?_;rintro e w6 ⟨rfl,hb⟩;have HBa:=hid (HB5x.out.trans (hb.mono HB5x.out.size));clear hb H m0 n0 m1 n1 m2 n2 m3 n3 m4 n4 m5 n5 m6 n6 m7 n7;go_wp2_with fail;go_ret;exact ⟨rfl,HBa.out⟩
end Go.Proofs.YtheefojaplnnoaaGreatDoor
namespace Go.Proofs.YtheefojaplnnoaaGreatDoor.textBlanks
open Go.ChangeShapes Go.WideShapes Go.ChangeAt Go.RowKit
open Go.ChangeMaps (open_string shut_string)
theorem x8 {H : Type} {enc : TypeId × Value → H} {W : World} {base : Nat} {v : Value} {d : DataW H} {ps : List MemPlace} (hval : Value.okWide Tryz.prog W .any base 63 v) (h : DataW.Trod enc Tryz.prog W 0 (fun _ => true) true 63 v d ps) (hw : ∀ n ∈ d.weights Tryz.prog 63,n ≤ reachBytes) :
  ∃ ua un uc ts,v = .slice ua un uc ∧ CQ W ua un ts:=by
 obtain ⟨a,len,cap,rfl⟩:=okWide_slice Tryz.underlying63 hval;obtain ⟨fuel,hf⟩:=h
 obtain ⟨la,ln,lc,ls,h1,at1,el1⟩:=(di (c:=1) (B:=1) (fun (z : Int) => [Value.int .u8 z]) (fun (a : Int) => 0 ≤ a ∧ a ≤ 255) Tryz.underlying63 o8 aq CC aq (fun _ _ _ h1 h2 => GP h1 h2)) hf hw
 refine ⟨la,ln,lc,ls,?_,at1.segT el1 at1.big⟩
 simp [Value.cells] at h1
 obtain ⟨rfl,rfl,rfl⟩:=h1;rfl
theorem lifted (os : Os) (started : os.Started) (H : Type) (enc : TypeId × Value → H) :
  ReturnsInHanded {} Tryz.checked os 6 .any (fun w args => (Rows.textBlanksSpec.pre enc Tryz.prog Tryz.f6 [] false w args ∧ laidMetH Tryz.prog jE w) ∧ sizedMet enc Tryz.prog Tryz.f6 (OpenSpec.ofChange Rows.textBlanksSpec) false w args) (Rows.textBlanksSpec.post enc Tryz.prog Tryz.f6 false true false false):=by
 refine returnsInHanded_of_row (C:=Tryz.checked) (s:=OpenSpec.ofChange Rows.textBlanksSpec) (F:=fun _ _ _ => 0) (laid:=jE) L4 started ai Tryz.func6
  (ChangeSpec.witness_shaped (enc:=enc) (C:=Tryz.checked) (os:=os) (X:=fun w _ => laidMetH Tryz.prog jE w) false (World.laidAll Tryz.prog os jE) #[.agg #[.slice none 0 0,.slice none 0 0,.slice none 0 0,.int .i64 0,.int .i64 0,.slice none 0 0,.slice none 0 0,.slice none 0 0],.slice none 0 0] 8 (World.laidAll_os _ _ _)
   (World.shaped_of_ZipB ai ai) ai ai ai (met os _)) ?_
 intro W base args ds gs before hval0 hW _ _ hsz0 hL hshape _
 have hsz : (DataW.weightsEach Tryz.prog (Tryz.f6.params.toList ++ Rows.textBlanksSpec.plain.varTypes Tryz.prog) (ds ++ gs)).all (· ≤ reachBytes) = true:=hsz0
 have hW':=hW;obtain ⟨p,q,hA0,hV,rfl,hfz,hnd⟩:=hW
 have hA : DataW.TrodAll enc Tryz.prog W 0 (fun _ => true) true Tryz.f6.params.toList args.toList ds p:=hA0
 have hval : ∀ (j : Nat) t v,Tryz.f6.params[j]? = some t → args[j]? = some v → Value.okWide Tryz.prog W .any base t v:=hval0;rw [Tryz.params6] at hA hval hsz;obtain ⟨v0,vs0,d0,ds0,p0,q0,hargs,rfl,rfl,h0,r0⟩:=trodAll_cons hA;obtain ⟨v1,vs1,d1,ds1,p1,q1,rfl,rfl,rfl,h1,r1⟩:=trodAll_cons r0;obtain ⟨rfl,rfl,rfl⟩:=trodAll_nil r1
 obtain rfl : args = #[v0,v1]:=by cases args; simp_all
 obtain ⟨rfl,rfl⟩:=trodVars_none hV;have k0:=h0
 have lt0 : ∀ x ∈ p0,x.block < W.heap.size:=by obtain ⟨m,hm⟩:=k0; exact DataW.trod_lt m _ _ _ hm
 have hw0 : ∀ n ∈ d0.weights Tryz.prog 29,n ≤ reachBytes:=fun n hn => by
  have:=List.all_eq_true.1 hsz n (DataW.weights_mem_each (j:=0) (t:=29) rfl rfl n hn)
  exact bX
 obtain ⟨m,rfl,hr⟩:=vp (hval 0 29 v0 rfl rfl) h0 hw0;have k1:=h1
 have lt1 : ∀ x ∈ p1,x.block < W.heap.size:=by obtain ⟨m,hm⟩:=k1; exact DataW.trod_lt m _ _ _ hm
 have hw1 : ∀ n ∈ d1.weights Tryz.prog 63,n ≤ reachBytes:=fun n hn => by
  have:=List.all_eq_true.1 hsz n (DataW.weights_mem_each (j:=1) (t:=63) rfl rfl n hn)
  exact bX
 obtain ⟨ua,un,uc,ts,rfl,hu⟩:=x8 (hval 1 63 v1 rfl rfl) h1 hw1;clear hA0 hval0
 refine (ze W.heap.size m ua un uc ts W (Je hL hshape) hr hu).mono fun e W' ⟨he,bel⟩ => ?_
 subst he
 exact ⟨_,rfl,_,_,_,[],_,[],hW',trodAll_mk1 (shut_bool Tryz.underlying4 _),(trodAll_cons_mk (Below.trod laidOut ai (of_decide_eq_true ai) k0 bel lt0) (trodAll_cons_mk (Below.trod laidOut ai (of_decide_eq_true ai) k1 bel lt1) trodAll_mk0)),rfl,bel.frame _,fun h => bG⟩
end Go.Proofs.YtheefojaplnnoaaGreatDoor.textBlanks
namespace Go.Proofs.YtheefojaplnnoaaGreatDoor.textBlanks
open Go.RowKit
theorem MA {a b : Bool} (ha : a = true) (hb : b = true) : (a && b) = true:=by rw [ha,hb]; rfl
theorem facts : joinedFacts Tryz.pinned.checked.prog 6 Tryz.f6 Rows.textBlanksSpec Rows.textBlanksRow = true:=by
 unfold joinedFacts
 repeat' (with_reducible refine MA ?_ ?_)
 all_goals (as_aux_lemma => kernel_rfl)
end Go.Proofs.YtheefojaplnnoaaGreatDoor.textBlanks
